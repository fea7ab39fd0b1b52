/- Pieces of rows of bytes. Conditions: as each says. -/
import Derived.Test.YtglgmhdajmncjaaRow
set_option linter.unusedVariables false
namespace Go.Proofs.Ytglgmhdajmncjaa
open Go.RowKit

theorem Src.cap {w : World} {v : Value} {bs : List Nat} (h : Src w v bs) (hp : 0 < bs.length) : ∃ g o c, v = .slice (some ⟨g, o, none⟩) bs.length c ∧ bs.length ≤ c ∧ ∀ j (hj : j < bs.length), w.cell? ⟨g, o + j, none⟩ = some (.int .u8 (bs[j] : Int)) := by
  obtain ⟨g, o, c, rfl, hc⟩ := h.at_ hp
  refine ⟨g, o, c, rfl, ?_, hc⟩
  rcases h with ⟨e, _⟩ | ⟨a, c', e, h2, _⟩
  · simp at e
  · injection e with _ _ e3
    omega
theorem src_of {w : World} {g o c n : Nat} {xs : List Nat} (hn : xs.length = n) (hc : xs.length ≤ c) (h : ∀ j (hj : j < xs.length), w.cell? ⟨g, o + j, none⟩ = some (.int .u8 (xs[j] : Int))) : Src w (.slice (some ⟨g, o, none⟩) n c) xs := by
  subst hn
  refine .inr ⟨_, c, rfl, hc, fun j u hu => ?_⟩
  have hj : j < xs.length := by
    have := (List.getElem?_eq_some_iff.1 hu).1
    rwa [length_cellsOf] at this
  rw [add_plain, h j hj, ← hu, cellsOf_get xs j hj]
theorem src_nil {w : World} {A : Option Addr} {n c : Nat} {xs : List Nat} (hA : A.isSome) (hn : n = 0) (hx : xs = []) : Src w (.slice A n c) xs := by
  subst hn hx
  obtain ⟨a, rfl⟩ := Option.isSome_iff_exists.1 hA
  exact .inr ⟨a, c, rfl, by simp, fun j u hu => by simp [cellsOf] at hu⟩
/-- A piece of a row that is there. -/
theorem src_cut {w : World} {g o c d n : Nat} {bs : List Nat} (l m : Nat) (h : ∀ j (hj : j < bs.length), w.cell? ⟨g, o + j, none⟩ = some (.int .u8 (bs[j] : Int))) (hm : l + m ≤ bs.length) (hn : n = m) (hc : m ≤ d) : Src w (.slice (some ⟨g, o + l, none⟩) n d) ((bs.drop l).take m) := by
  have hlen : ((bs.drop l).take m).length = m := by rw [List.length_take, List.length_drop]; omega
  refine src_of (by omega) (by omega) fun j hj => ?_
  have hj' : l + j < bs.length := by omega
  rw [Nat.add_assoc, h (l + j) hj']
  simp

theorem Src.cells_at {w : World} {g o n c : Nat} {bs : List Nat} (h : Src w (.slice (some ⟨g, o, none⟩) n c) bs) : ∀ j (hj : j < bs.length), w.cell? ⟨g, o + j, none⟩ = some (.int .u8 (bs[j] : Int)) := by
  intro j hj
  obtain ⟨g', o', c', e, hc⟩ := h.at_ (by omega)
  injection e with e1 e2 e3
  injection e1 with e1
  injection e1 with e1 e4
  subst e1 e4
  exact hc j hj
theorem Src.later {w w1 : World} {v : Value} {bs : List Nat} {S : Nat → Prop} (h : Src w v bs) (ho : Only S w w1) (hn : ∀ k, k < w.heap.size → ¬ S k) : Src w1 v bs := by
  rcases h with h | ⟨a, c, rfl, hl, hc⟩
  · exact .inl h
  · refine .inr ⟨a, c, rfl, hl, fun j u hu => ?_⟩
    have h1 := hc j u hu
    have hlt := World.block_lt_of_cell? w _ h1
    exact (ho.cell hlt (hn _ hlt)).trans h1

theorem src_drop {w : World} {g o d n : Nat} {bs : List Nat} (l : Nat) (h : ∀ j (hj : j < bs.length), w.cell? ⟨g, o + j, none⟩ = some (.int .u8 (bs[j] : Int))) (hl : l ≤ bs.length) (hn : n = bs.length - l) (hc : bs.length - l ≤ d) : Src w (.slice (some ⟨g, o + l, none⟩) n d) (bs.drop l) := by
  have := src_cut (c := 0) l (bs.length - l) h (by omega) hn hc
  rwa [List.take_of_length_le (by simp)] at this
theorem src_take {w : World} {g o n c : Nat} {bs : List Nat} (h : Src w (.slice (some ⟨g, o, none⟩) n c) bs) (m : Nat) (hm : m ≤ bs.length) : Src w (.slice (some ⟨g, o, none⟩) m c) (bs.take m) := by
  have hc : bs.length ≤ c := by
    rcases h with ⟨e, _⟩ | ⟨a, c', e, h2, _⟩
    · simp at e
    · injection e with _ _ e3
      omega
  refine src_of (by rw [List.length_take]; omega) (by rw [List.length_take]; omega) fun j hj => ?_
  rw [List.length_take] at hj
  rw [h.cells_at j (by omega)]
  simp
theorem row_apart {w : World} {ob B n : Nat} {t u : TypeId} {cs : Array Value} {v : Value} {xs : List Value} (hI : Is w ob u cs) (hW : w.ownsRow B t 1 v n xs) (hne : t ≠ u) : v.ownBlock ≠ some ob := by
  intro hk
  rcases hW.2 with ⟨rfl, _⟩ | ⟨g, cap, cur, rfl, _, q2, _⟩
  · simp [Value.ownBlock] at hk
  · have : g = ob := by simpa [Value.ownBlock] using hk
    subst this
    exact Is.apart (t := t) (u := u) q2 hI hne rfl
theorem own_only {w w1 : World} {B n : Nat} {t : TypeId} {v : Value} {xs : List Value} (h : w.ownsRow B t 1 v n xs) {S : Nat → Prop} (ho : Only S w w1) (hs : ∀ k, v.ownBlock = some k → ¬ S k) : w1.ownsRow B t 1 v n xs := by
  refine ⟨h.1, ?_⟩
  rcases h.2 with q | ⟨g, cap, cur, r1, r2, r3, r4⟩
  · exact .inl q
  · exact .inr ⟨g, cap, cur, r1, r2, (ho.same g (lt_of_heap r3) (hs g (by rw [r1]; rfl))).trans r3, r4⟩
end Go.Proofs.Ytglgmhdajmncjaa
