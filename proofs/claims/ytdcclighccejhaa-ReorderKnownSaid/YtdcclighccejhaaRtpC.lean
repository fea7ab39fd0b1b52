/- Padding, and the closure that puts a number's bytes. Conditions: as each says. -/
import Derived.Test.YtdcclighccejhaaRtpB
import Derived.Deep.DeepCutAuto
set_option linter.unusedVariables false
namespace Go.Proofs.Ytdcclighccejhaa
open Go.RowKit

theorem _root_.Go.World.ownsRow.low {w : World} {B C n : Nat} {t : TypeId} {v : Value} {xs : List Value} (h : w.ownsRow B t 1 v n xs) (hC : C ≤ B) : w.ownsRow C t 1 v n xs := by
  refine ⟨h.1, ?_⟩
  rcases h.2 with q | ⟨g, cap, cur, r1, r2, r3⟩
  · exact .inl q
  · exact .inr ⟨g, cap, cur, r1, Nat.le_trans hC r2, r3⟩
theorem _root_.Go.World.ownsRow.pure {w w1 : World} {B n : Nat} {t : TypeId} {v : Value} {xs : List Value} (h : w.ownsRow B t 1 v n xs) {S : Nat → Prop} (ho : Only S w w1) (hs : ∀ k, v.ownBlock = some k → ¬ S k) : w1.ownsRow B t 1 v n xs := by
  refine ⟨h.1, ?_⟩
  rcases h.2 with q | ⟨g, cap, cur, r1, r2, r3, r4⟩
  · exact .inl q
  · exact .inr ⟨g, cap, cur, r1, r2, (ho.same g (lt_of_heap r3) (hs g (by rw [r1]; rfl))).trans r3, r4⟩

/-- So many bytes of padding. -/
def padOf (n : Nat) : List Nat := if n = 0 then [] else List.replicate (n - 1) 0 ++ [n]
theorem padOf_length (n : Nat) : (padOf n).length = n := by
  unfold padOf
  split
  · subst_vars; rfl
  · simp; omega
theorem padOf_set (n : Nat) (h : 0 < n) : (List.replicate n 0).set (n - 1) n = padOf n := by
  unfold padOf
  rw [if_neg (by omega)]
  obtain ⟨m, rfl⟩ : ∃ m, n = m + 1 := ⟨n - 1, by omega⟩
  rw [List.replicate_succ', Nat.add_sub_cancel, List.set_append_right _ _ (by simp)]
  simp

/-- A row that a variable of block ob holds: the bytes bs, all of it made since w0. -/
def Out (w0 w : World) (ob : Nat) (bs : List Nat) : Prop :=
  ∃ v, Is w ob 40 #[v] ∧ w.ownsRow w0.heap.size 5 1 v bs.length (cellsOf bs) ∧ Pure w0 w ∧ w0.heap.size ≤ ob

theorem own_apart {w : World} {ob B n : Nat} {t u : TypeId} {cs : Array Value} {v : Value} {xs : List Value} (hI : Is w ob u cs) (hW : w.ownsRow B t 1 v n xs) (hne : t ≠ u) : v.ownBlock ≠ some ob := by
  intro hk
  rcases hW.2 with ⟨rfl, _⟩ | ⟨g, cap, cur, rfl, _, q2, _⟩
  · simp [Value.ownBlock] at hk
  · have : g = ob := by simpa [Value.ownBlock] using hk
    subst this
    exact Is.apart (t := t) (u := u) q2 hI hne rfl

theorem out_close {w0 w w2 : World} {ob : Nat} {bs news : List Nat} {v v' : Value} (hI : Is w ob 40 #[v]) (hW : w.ownsRow w0.heap.size 5 1 v bs.length (cellsOf bs)) (hO : Pure w0 w) (hob : w0.heap.size ≤ ob)
    (hown : w2.ownsRow w0.heap.size 5 1 v' (bs.length + news.length) (cellsOf bs ++ cellsOf news)) (hg : w.grownBy w2 v.ownBlock) :
    w2.cell? ⟨ob, 0, none⟩ = some v ∧ w2.frozen? ⟨ob, 0, none⟩ = false ∧ Out w0 (w2.setCell ⟨ob, 0, none⟩ v') ob (bs ++ news) := by
  have hap := own_apart hI hW (by decide)
  have hI2 : Is w2 ob 40 #[v] := (hg.block ob hI.lt hap.symm).trans hI
  have hap2 := own_apart hI2 hown (by decide)
  refine ⟨by simpa using hI2.cell 0, hI2.free 0, v', Is.put hI2 0 v', ?_, ?_, hob⟩
  · rw [List.length_append, cellsOf_append]
    refine hown.pure ((Only.refl (fun k => k = ob) w2).set (fun _ => rfl) _) ?_
    rintro k hk rfl
    exact hap2 hk
  · refine (hO.trans (T := fun k => v.ownBlock = some k) ((Only.refl _ w).grown hg (fun i e _ => e)) ?_).set ?_ _
    · intro i hi e
      have := (hW.lt i e).1
      omega
    · intro h
      simp only at h
      omega

theorem news_drop {w : World} {nb : Nat} {t : TypeId} {x0 x1 x2 x3 : Nat} (h : Is w nb t #[.int .u8 x0, .int .u8 x1, .int .u8 x2, .int .u8 x3]) (k : Nat) :
    ∀ j u, (cellsOf (List.drop k [x0, x1, x2, x3]))[j]? = some u → w.cell? ((⟨nb, k, none⟩ : Addr).add j) = some u := by
  intro j u hu
  rw [add_plain, h.cell]
  rw [← hu]
  simp [cellsOf, List.getElem?_drop]

end Go.Proofs.Ytdcclighccejhaa
