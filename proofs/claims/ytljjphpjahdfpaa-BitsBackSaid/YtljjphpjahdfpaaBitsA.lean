/- The small calls of package bits: what they answer for a reader or writer that is there, and for one that is not. Conditions: as each says. -/
import Derived.Test.YtljjphpjahdfpaaRows
import Derived.Test.YtljjphpjahdfpaaMem
import Derived.Deep.QuietTactic
import Derived.BigQuiet
set_option linter.unusedVariables false
namespace Go.Proofs.Ytljjphpjahdfpaa
open Go.RowKit

/-- A pointer to the head of block b. -/
abbrev ptr (b : Nat) : Value := .pointer (some ⟨b, 0, none⟩)

set_option maxHeartbeats 400000 in
theorem err_nil (w : World) : Calls Try.prog 14 #[.pointer none] w fun e w' => e = .returned (.int .i64 1) ∧ w = w' := by
  go_enter Try.func14, Try.ntmps14
  go_wp2
  go_ret
  exact ⟨rfl, rfl⟩

set_option maxHeartbeats 400000 in
theorem left_nil (w : World) : Calls Try.prog 13 #[.pointer none] w fun e w' => e = .returned (.int .i64 0) ∧ w = w' := by
  go_enter Try.func13, Try.ntmps13
  go_wp2
  go_ret
  exact ⟨rfl, rfl⟩

set_option maxHeartbeats 400000 in
theorem err_is (b : Nat) (v : Value) (p f : Int) (w : World) (h : Is w b 59 #[v, .int .i64 p, .int .i64 f]) :
    Calls Try.prog 14 #[ptr b] w fun e w' => e = .returned (.int .i64 f) ∧ w = w' := by
  have h2 := h.cell 2
  simp at h2
  clear h
  go_enter Try.func14, Try.ntmps14
  go_wp2
  go_ret
  exact ⟨rfl, rfl⟩

set_option maxHeartbeats 400000 in
theorem new_is (w : World) : Calls Try.prog 7 #[] w fun e w' => e = .returned (ptr w.heap.size) ∧ w.alloc (.cells #[.slice none 0 0, .int .i64 0] 56) = w' := by
  go_enter Try.func7, Try.ntmps7
  go_wp2
  go_ret
  exact ⟨rfl, rfl⟩

set_option maxHeartbeats 400000 in
theorem left_is (b : Nat) (A : Option Addr) (L c p : Nat) (f : Int) (w : World) (h : Is w b 59 #[.slice A L c, .int .i64 p, .int .i64 f]) (hp : p ≤ 8 * L) (hL : 8 * L ≤ 9223372036854775807) :
    Calls Try.prog 13 #[ptr b] w fun e w' => e = .returned (.int .i64 ((8 * L - p : Nat) : Int)) ∧ ∃ n, w' = w.drewN n := by
  have h0 := h.cell 0
  have h1 := h.cell 1
  simp at h0 h1
  clear h
  have e : ((8 * L - p : Nat) : Int) = 8 * (L : Int) - p := by omega
  rw [e]
  clear e
  go_enter Try.func13, Try.ntmps13
  go_wp2
  go_quiet (fail)
  go_wp2
  go_ret
  exact ⟨rfl, _, rfl⟩

theorem pick_eq (i n : Int) (hi : -9223372036854775808 ≤ i ∧ i ≤ 9223372036854775807) (hn : 0 < n) (hn2 : n ≤ 4611686018427387904) : (wrap64 (i.tmod n + n)).tmod n = i % n := by
  have h1 : i.tmod n < n := Int.tmod_lt_of_pos i hn
  have h2 : -n < i.tmod n := by
    rcases Int.le_total 0 i with h0 | h0
    · have := Int.tmod_nonneg n h0
      omega
    · have h4 := Int.tmod_lt_of_pos (-i) hn
      rw [Int.neg_tmod] at h4
      omega
  rw [IntWalk.wrap64_in _ (by omega)]
  rw [Int.tmod_eq_emod_of_nonneg (by omega)]
  have h3 : i.tmod n % n = i % n := by
    have := Int.mul_tdiv_add_tmod i n
    conv => rhs; rw [← this]
    simp
  simp [h3]

set_option maxHeartbeats 400000 in
theorem pick_is (i n : Int) (w : World) (hi : -9223372036854775808 ≤ i ∧ i ≤ 9223372036854775807) (hn : 0 < n) (hn2 : n ≤ 4611686018427387904) :
    Calls Try.prog 9 #[.int .i64 i, .int .i64 n] w fun e w' => e = .returned (.int .i64 (i % n)) ∧ w = w' := by
  rw [← pick_eq i n hi hn hn2]
  clear hi hn2
  go_enter Try.func9, Try.ntmps9
  go_wp2
  go_ret
  exact ⟨rfl, rfl⟩

set_option maxHeartbeats 400000 in
theorem clone_nil (w : World) : Calls Try.prog 27 #[.slice none 0 0] w fun e w' => e = .returned (.slice none 0 0) ∧ w = w' := by
  have hq := fun (w : World) => Lib.run_eql_slice_nil (P := Try.prog) w 32 5 none 0 0 0 0 Try.underlying32
  simp at hq
  go_enter Try.func27, Try.ntmps27
  go_wp2
  go_ret
  exact ⟨rfl, rfl⟩

theorem Try.infoU8 : (Try.prog.info? 5).map (fun i => (i.zero, i.size, i.bytes)) = some (some (.int .u8 0), 1, 1) := by kernel_rfl

/-- What a call answers that hands out a row of bytes of its own. -/
def OwnRow (B : Nat) (news : List Value) (w : World) (e : Ending) (w' : World) : Prop := ∃ v, e = .returned v ∧ w'.ownsRow B 5 1 v news.length news ∧ Only (fun _ => False) w w' ∧ (∀ k, v.ownBlock = some k → w.heap.size ≤ k)

set_option maxHeartbeats 400000 in
theorem clone_is (a : Addr) (n c : Nat) (w : World) (B : Nat) (news : List Value) (hB : B ≤ w.heap.size) (hl : news.length = n) (hc : ∀ j u, news[j]? = some u → w.cell? (a.add j) = some u) (h1 : ∀ u ∈ news, u.oneCell' = true) (hn : n ≤ 140737488355328) :
    Calls Try.prog 27 #[.slice (some a) n c] w (OwnRow B news w) := by
  have hq := fun (w : World) => Lib.run_eql_slice_nil (P := Try.prog) w 32 5 (some a) n c 0 0 Try.underlying32
  simp at hq
  obtain ⟨i0, hi, hz0, hz1, hz2⟩ := info_parts Try.infoU8
  have Hl := Lib.hid hl
  have Hc := Lib.hid hc
  have H1 := Lib.hid h1
  have Hz := Lib.hid (show ∀ j u, news[j]? = some u → (w.alloc (.cells #[] 5)).cell? (a.add j) = some u from fun j u hu => Lib.cell?_alloc_some _ (hc j u hu))
  have Hm : n ≤ maxLen := by unfold maxLen; omega
  clear hl hc h1
  go_enter Try.func27, Try.ntmps27
  go_wp2_with (at_builtin; refine wpList_append_own _ rfl _ _ 32 rfl w.heap.size 5 i0 (.int .u8 0) 1 1 Try.underlying32 hi hz0 hz1 hz2 rfl (by decide) _ 0 [] rfl (World.ownsRow_lit w #[] 0 (Nat.le_refl _) (by decide) rfl) a n c news rfl (by rw [Hl.out, Nat.mul_one]) Hz.out H1.out (by omega) (by omega) (by simp) ?_)
  intro v' w1 hown hg _
  go_wp2
  go_ret
  rw [← Hl.out] at hown
  refine ⟨_, rfl, ?_, ?_, fun k hk => (hown.lt k hk).1⟩
  · obtain ⟨q1, q2⟩ := hown
    refine ⟨q1, ?_⟩
    rcases q2 with q2 | ⟨g, cap, cur, r1, r2, r3⟩
    · exact .inl q2
    · exact .inr ⟨g, cap, cur, r1, by omega, r3⟩
  · exact ((Only.refl _ w).alloc _).grown hg (fun i hi hlt => by simp [Value.ownBlock] at hi; omega)


/-- Bytes in new memory, of B on. -/
theorem OwnRow.cells {B : Nat} {news : List Value} {w w' : World} {e : Ending} (h : OwnRow B news w e w') : ∃ v, e = .returned v ∧ w'.ownsRow B 5 1 v news.length news ∧ Only (fun _ => False) w w' ∧ (∀ k, v.ownBlock = some k → w.heap.size ≤ k) := h

theorem own_slice {w : World} {B n : Nat} {t : TypeId} {v : Value} {xs : List Value} (h : w.ownsRow B t 1 v n xs) : ∃ A c, v = .slice A n c ∧ n ≤ c := by
  rcases h.2 with ⟨rfl, rfl⟩ | ⟨g, cap, cur, rfl, _, _, hc, _⟩
  · exact ⟨none, 0, rfl, Nat.le_refl _⟩
  · exact ⟨_, cap, rfl, hc⟩

/-- Nothing, or bytes that are there: a slice of which a copy can be made. -/
def Src (w : World) (v : Value) (bs : List Nat) : Prop :=
  (v = .slice none 0 0 ∧ bs = []) ∨ ∃ a c, v = .slice (some a) bs.length c ∧ bs.length ≤ c ∧ ∀ j u, (cellsOf bs)[j]? = some u → w.cell? (a.add j) = some u

theorem Src.of_own {w : World} {B : Nat} {v : Value} {bs : List Nat} (h : w.ownsRow B 5 1 v bs.length (cellsOf bs)) : Src w v bs := by
  rcases h.2 with ⟨rfl, h0⟩ | ⟨g, cap, cur, rfl, hb, hg, hc, _⟩
  · exact .inl ⟨rfl, List.eq_nil_of_length_eq_zero h0⟩
  · exact .inr ⟨_, cap, rfl, hc, h.cells (g := g) rfl⟩

theorem clone_src (v : Value) (bs : List Nat) (w : World) (B : Nat) (hB : B ≤ w.heap.size) (hs : Src w v bs) (hn : bs.length ≤ 140737488355328) :
    Calls Try.prog 27 #[v] w (OwnRow B (cellsOf bs) w) := by
  rcases hs with ⟨rfl, rfl⟩ | ⟨a, c, rfl, _, hc⟩
  · refine (clone_nil w).mono ?_
    rintro e w' ⟨rfl, rfl⟩
    exact ⟨_, rfl, World.ownsRow_nil _ _ _ _, Only.refl _ _, by simp [Value.ownBlock]⟩
  · exact clone_is a bs.length c w B (cellsOf bs) hB (length_cellsOf bs) hc (cellsOf_one bs) hn

set_option maxHeartbeats 400000 in
theorem out_nil (w : World) : Calls Try.prog 11 #[.pointer none] w fun e w' => e = .returned (.slice none 0 0) ∧ w = w' := by
  go_enter Try.func11, Try.ntmps11
  go_wp2
  go_ret
  exact ⟨rfl, rfl⟩

set_option maxHeartbeats 400000 in
theorem out_row (b : Nat) (v : Value) (n : Int) (bs : List Nat) (w : World) (B : Nat) (hB : B ≤ w.heap.size) (h : Is w b 56 #[v, .int .i64 n]) (hs : Src w v bs) (hn : bs.length ≤ 140737488355328) :
    Calls Try.prog 11 #[ptr b] w (OwnRow B (cellsOf bs) w) := by
  have h0 := h.cell 0
  simp at h0
  have HS := Lib.hid hs
  clear h hs
  go_enter Try.func11, Try.ntmps11
  go_wp2_with fail
  refine (clone_src v bs w B hB HS.out hn).mono ?_
  rintro e w' ⟨u, rfl, hq⟩
  go_wp2
  go_ret
  exact ⟨u, rfl, hq⟩

set_option maxHeartbeats 400000 in
theorem of_src (v : Value) (bs : List Nat) (w : World) (B : Nat) (hB : B ≤ w.heap.size) (hs : Src w v bs) (hn : bs.length ≤ 140737488355328) :
    Calls Try.prog 10 #[v] w fun e w' => ∃ b u, e = .returned (ptr b) ∧ w.heap.size ≤ b ∧ Is w' b 59 #[u, .int .i64 0, .int .i64 0] ∧ w'.ownsRow B 5 1 u bs.length (cellsOf bs) ∧ (∀ k, u.ownBlock = some k → w.heap.size ≤ k) ∧ Only (fun _ => False) w w' := by
  have HS := Lib.hid hs
  clear hs
  go_enter Try.func10, Try.ntmps10
  go_wp2_with fail
  refine (clone_src v bs w B hB HS.out hn).mono ?_
  rintro e w1 ⟨u, rfl, hown, ho, hk⟩
  rw [length_cellsOf] at hown
  obtain ⟨A, c, rfl, _⟩ := own_slice hown
  have Hown := Lib.hid hown
  have Ho := Lib.hid ho
  have Hk := Lib.hid hk
  clear hown ho hk
  go_wp2
  go_ret
  exact ⟨_, _, rfl, Ho.out.size, Is.made _ _ _, Hown.out.alloc _, Hk.out, Ho.out.alloc _⟩

end Go.Proofs.Ytljjphpjahdfpaa
