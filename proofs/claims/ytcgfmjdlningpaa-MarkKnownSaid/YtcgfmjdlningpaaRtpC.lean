/- Padding, and the closure that puts a number's bytes. Conditions: as each says. -/
import Derived.Test.YtcgfmjdlningpaaRtpB
import Derived.Deep.DeepCutAuto
set_option linter.unusedVariables false
namespace Go.Proofs.Ytcgfmjdlningpaa
open Go.RowKit

theorem _root_.Go.World.ownsRow.low {w : World} {B C n : Nat} {t : TypeId} {v : Value} {xs : List Value} (h : w.ownsRow B t 1 v n xs) (hC : C ≤ B) : w.ownsRow C t 1 v n xs := by
  refine ⟨h.1, ?_⟩
  rcases h.2 with q | ⟨g, cap, cur, r1, r2, r3⟩
  · exact .inl q
  · exact .inr ⟨g, cap, cur, r1, Nat.le_trans hC r2, r3⟩
theorem _root_.Go.World.ownsRow.pure {w w1 : World} {B n : Nat} {t : TypeId} {v : Value} {xs : List Value} (h : w.ownsRow B t 1 v n xs) {S : Nat → Prop} (ho : Only S w w1) (hs : ∀ k, v.ownBlock = some k → ¬ S k) : w1.ownsRow B t 1 v n xs := by
  refine ⟨h.1, ?_⟩
  rcases h.2 with q | ⟨g, cap, cur, r1, r2, r3, r4⟩
  · exact .inl q
  · exact .inr ⟨g, cap, cur, r1, r2, (ho.same g (lt_of_heap r3) (hs g (by rw [r1]; rfl))).trans r3, r4⟩

/-- So many bytes of padding. -/
def padOf (n : Nat) : List Nat := if n = 0 then [] else List.replicate (n - 1) 0 ++ [n]
theorem padOf_length (n : Nat) : (padOf n).length = n := by
  unfold padOf
  split
  · subst_vars; rfl
  · simp; omega
theorem padOf_set (n : Nat) (h : 0 < n) : (List.replicate n 0).set (n - 1) n = padOf n := by
  unfold padOf
  rw [if_neg (by omega)]
  obtain ⟨m, rfl⟩ : ∃ m, n = m + 1 := ⟨n - 1, by omega⟩
  rw [List.replicate_succ', Nat.add_sub_cancel, List.set_append_right _ _ (by simp)]
  simp

set_option maxRecDepth 100000 in
set_option maxHeartbeats 400000 in
theorem padding_is (n : Nat) (w : World) (B : Nat) (hB : B ≤ w.heap.size) (hn : n < 256) :
    Calls Try.prog 88 #[.int .u8 n] w (OwnRow B (cellsOf (padOf n)) w) := by
  obtain ⟨i0, hi, hz0, hz1, hz2⟩ := info_parts Try.infoU8
  rcases Nat.eq_zero_or_pos n with rfl | hpos
  · go_enter Try.func88, Try.ntmps88
    go_wp2_with (at_make; refine wpList_make_full _ rfl _ _ 22 rfl w.heap.size 5 i0 (.int .u8 0) 1 Try.underlying22 hi hz0 hz1 .u8 .u8 _ _ 0 rfl rfl rfl rfl (by omega) (by decide) (Nat.le_refl _) ?_)
    intro w1 hown hg
    have HW := Lib.hid hown
    have HO := Lib.hid (Only.grown (Only.refl (fun _ => False) w) hg (by simp))
    clear hown hg
    go_wp2
    go_ret
    exact ⟨_, rfl, (by have := HW.out.low hB; rw [madeU8] at this; exact this), HO.out, fun k hk => (HW.out.lt k hk).1⟩
  · have HN := Lib.hid (padOf_set n hpos)
    go_enter Try.func88, Try.ntmps88
    go_wp2_with (at_make; refine wpList_make_full _ rfl _ _ 22 rfl w.heap.size 5 i0 (.int .u8 0) 1 Try.underlying22 hi hz0 hz1 .u8 .u8 _ _ n rfl rfl rfl rfl (by rw [hz2]; omega) (by unfold maxLen; omega) (Nat.le_refl _) ?_)
    intro w1 hown hg
    rw [madeU8] at hown
    have hlt : n - 1 < n := by omega
    have qc : w1.cell? ⟨w.heap.size, n - 1, none⟩ = some (.int .u8 0) := by
      rw [hown.cellAt (n - 1) (by omega)]
      simp [cellsOf, hlt]
    have qf := hown.frozenAt (n - 1)
    have HW := Lib.hid hown
    have HO := Lib.hid (Only.grown (Only.refl (fun _ => False) w) hg (by simp))
    clear hown hg
    have a1 : ((n : Int) - 1).toNat = n - 1 := by omega
    go_wp2
    go_ret
    have hst := HW.out.stored (n - 1) (.int .u8 (n : Nat))
    rw [← cellsOf_set, HN.out] at hst
    refine ⟨_, rfl, ?_, HO.out.set (fun h => absurd h (Nat.lt_irrefl _)) _, fun k hk => (HW.out.lt k hk).1⟩
    rw [length_cellsOf, padOf_length]
    exact hst.1.low hB

/-- A row that a variable of block ob holds: the bytes bs, all of it made since w0. -/
def Out (w0 w : World) (ob : Nat) (bs : List Nat) : Prop :=
  ∃ v, Is w ob 22 #[v] ∧ w.ownsRow w0.heap.size 5 1 v bs.length (cellsOf bs) ∧ Pure w0 w ∧ w0.heap.size ≤ ob

theorem own_apart {w : World} {ob B n : Nat} {t u : TypeId} {cs : Array Value} {v : Value} {xs : List Value} (hI : Is w ob u cs) (hW : w.ownsRow B t 1 v n xs) (hne : t ≠ u) : v.ownBlock ≠ some ob := by
  intro hk
  rcases hW.2 with ⟨rfl, _⟩ | ⟨g, cap, cur, rfl, _, q2, _⟩
  · simp [Value.ownBlock] at hk
  · have : g = ob := by simpa [Value.ownBlock] using hk
    subst this
    exact Is.apart (t := t) (u := u) q2 hI hne rfl

theorem out_close {w0 w w2 : World} {ob : Nat} {bs news : List Nat} {v v' : Value} (hI : Is w ob 22 #[v]) (hW : w.ownsRow w0.heap.size 5 1 v bs.length (cellsOf bs)) (hO : Pure w0 w) (hob : w0.heap.size ≤ ob)
    (hown : w2.ownsRow w0.heap.size 5 1 v' (bs.length + news.length) (cellsOf bs ++ cellsOf news)) (hg : w.grownBy w2 v.ownBlock) :
    w2.cell? ⟨ob, 0, none⟩ = some v ∧ w2.frozen? ⟨ob, 0, none⟩ = false ∧ Out w0 (w2.setCell ⟨ob, 0, none⟩ v') ob (bs ++ news) := by
  have hap := own_apart hI hW (by decide)
  have hI2 : Is w2 ob 22 #[v] := (hg.block ob hI.lt hap.symm).trans hI
  have hap2 := own_apart hI2 hown (by decide)
  refine ⟨by simpa using hI2.cell 0, hI2.free 0, v', Is.put hI2 0 v', ?_, ?_, hob⟩
  · rw [List.length_append, cellsOf_append]
    refine hown.pure ((Only.refl (fun k => k = ob) w2).set (fun _ => rfl) _) ?_
    rintro k hk rfl
    exact hap2 hk
  · refine (hO.trans (T := fun k => v.ownBlock = some k) ((Only.refl _ w).grown hg (fun i e _ => e)) ?_).set ?_ _
    · intro i hi e
      have := (hW.lt i e).1
      omega
    · intro h
      simp only at h
      omega

theorem news_drop {w : World} {nb : Nat} {t : TypeId} {x0 x1 x2 x3 : Nat} (h : Is w nb t #[.int .u8 x0, .int .u8 x1, .int .u8 x2, .int .u8 x3]) (k : Nat) :
    ∀ j u, (cellsOf (List.drop k [x0, x1, x2, x3]))[j]? = some u → w.cell? ((⟨nb, k, none⟩ : Addr).add j) = some u := by
  intro j u hu
  rw [add_plain, h.cell]
  rw [← hu]
  simp [cellsOf, List.getElem?_drop]

set_option maxRecDepth 100000 in
set_option maxHeartbeats 1000000 in
theorem putc_is (w0 w : World) (ob n k : Nat) (bs : List Nat) (h : Out w0 w ob bs) (hn : n < 4294967296) (kz : Int) (hk : (k = 1 ∧ kz = 1) ∨ (k = 2 ∧ kz = 2) ∨ (k = 4 ∧ kz = 4)) (hl : bs.length ≤ 1000000) :
    Calls Try.prog 84 #[.int .u32 n, .int .i64 kz, ptr ob] w fun e w' => e = .returned (.tuple #[]) ∧ Out w0 w' ob (bs ++ (b4 n).drop (4 - k)) := by
  obtain ⟨v, hi, hown, ho, hob⟩ := h
  have hc := hi.cell 0
  have hf := hi.free 0
  simp at hc
  have HI := Lib.hid hi
  have HW := Lib.hid hown
  have HO := Lib.hid ho
  clear hi hown ho
  have hb : n / 16777216 % 256 < 256 ∧ n / 65536 % 256 < 256 ∧ n / 256 % 256 < 256 ∧ n % 256 < 256 := by omega
  have hw4 := fun w => wordOf_is n w hn
  unfold b4 at hw4 ⊢
  generalize n / 16777216 % 256 = x0 at *
  generalize n / 65536 % 256 = x1 at *
  generalize n / 256 % 256 = x2 at *
  generalize n % 256 = x3 at *
  have HB4 := Lib.hid hw4
  clear hw4
  obtain ⟨i0, hi, hz0, hz1, hz2⟩ := info_parts Try.infoU8
  rcases hk with ⟨rfl, rfl⟩ | ⟨rfl, rfl⟩ | ⟨rfl, rfl⟩
  all_goals
    go_enter Try.func84, Try.ntmps84
    go_wp2_with (go_at_call 85; refine (HB4.out w).mono ?_; rintro e w1 ⟨rfl, ho1⟩; have HO1 := Lib.hid ho1; clear ho1; simp only [cellsOf, List.map])
    have hsz1 := HO1.out.size
    have hobw : ob < w.heap.size := HI.out.lt
    have hi2 : Is (w1.alloc (.cells #[.int .u8 x0, .int .u8 x1, .int .u8 x2, .int .u8 x3] 129)) ob 22 #[v] := (HI.out.only HO1.out (by simp)).alloc _
    have hown2 : (w1.alloc (.cells #[.int .u8 x0, .int .u8 x1, .int .u8 x2, .int .u8 x3] 129)).ownsRow w0.heap.size 5 1 v bs.length (cellsOf bs) := (HW.out.pure HO1.out (by simp)).alloc _
    have hnew : Is (w1.alloc (.cells #[.int .u8 x0, .int .u8 x1, .int .u8 x2, .int .u8 x3] 129)) w1.heap.size 129 #[.int .u8 x0, .int .u8 x1, .int .u8 x2, .int .u8 x3] := Is.made _ _ _
    have ho2 : Pure w0 (w1.alloc (.cells #[.int .u8 x0, .int .u8 x1, .int .u8 x2, .int .u8 x3] 129)) := (HO.out.trans HO1.out (fun _ _ e => e)).alloc _
    generalize hw2 : w1.alloc (.cells #[.int .u8 x0, .int .u8 x1, .int .u8 x2, .int .u8 x3] 129) = w2 at *
    generalize w1.heap.size = nb at *
    clear hw2 hc hf HI HW HO HO1
    have hc := hi2.cell 0
    have hf := hi2.free 0
    simp at hc
    have HI := Lib.hid hi2
    have HW := Lib.hid hown2
    have HN := Lib.hid hnew
    have HO := Lib.hid ho2
    clear hi2 hown2 hnew ho2
    have a3 : IntKind.i64.wrap 3 = 3 := by decide
    have a2 : IntKind.i64.wrap 2 = 2 := by decide
    have a0 : IntKind.i64.wrap 0 = 0 := by decide
    go_still_tail 4, (by kernel_rfl)
    clear a3 a2 a0
    refine wpList_append_own _ rfl (.tmp 8) (.tmp 11) 22 rfl w0.heap.size 5 i0 (.int .u8 0) 1 1 Try.underlying22 hi hz0 hz1 hz2 rfl (by decide) v bs.length (cellsOf bs) rfl HW.out ⟨nb, _, none⟩ _ _ (cellsOf (List.drop _ [x0, x1, x2, x3])) rfl rfl (news_drop HN.out _) (cellsOf_one _) (by unfold maxLen; omega) (by omega) (by have := HO.out.size; exact this) ?_
    intro v' w3 hown3 hg3 _
    obtain ⟨q1, q2, q3⟩ := out_close (w := w2.drew) HI.out HW.out HO.out.drew hob hown3 hg3
    obtain ⟨A', c', rfl, _⟩ := own_slice hown3
    have Q3 := Lib.hid q3
    clear q3 hown3 hg3 hc hf
    go_wp2
    go_end0
    exact ⟨rfl, Q3.out⟩
end Go.Proofs.Ytcgfmjdlningpaa
