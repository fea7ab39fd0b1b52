/- The small calls of package bits: what they answer for a reader or writer that is there, and for one that is not. Conditions: as each says. -/
import Derived.Test.YtiacjgnngdpohaaRow
import Derived.Deep.QuietTactic
import Derived.BigQuiet
set_option linter.unusedVariables false
namespace Go.Proofs.Ytiacjgnngdpohaa
open Go.RowKit

set_option maxRecDepth 100000 in
set_option maxHeartbeats 400000 in
theorem err_nil (w : World) : Calls Try.prog 59 #[.pointer none] w fun e w' => e = .returned (.int .i64 1) ∧ w = w' := by
  go_enter Try.func59, Try.ntmps59
  go_wp2
  go_ret
  exact ⟨rfl, rfl⟩

set_option maxRecDepth 100000 in
set_option maxHeartbeats 400000 in
theorem left_nil (w : World) : Calls Try.prog 60 #[.pointer none] w fun e w' => e = .returned (.int .i64 0) ∧ w = w' := by
  go_enter Try.func60, Try.ntmps60
  go_wp2
  go_ret
  exact ⟨rfl, rfl⟩

set_option maxRecDepth 100000 in
set_option maxHeartbeats 400000 in
theorem err_is (b : Nat) (v : Value) (p f : Int) (w : World) (h : Is w b 127 #[v, .int .i64 p, .int .i64 f]) :
    Calls Try.prog 59 #[ptr b] w fun e w' => e = .returned (.int .i64 f) ∧ w = w' := by
  have h2 := h.cell 2
  simp at h2
  clear h
  go_enter Try.func59, Try.ntmps59
  go_wp2
  go_ret
  exact ⟨rfl, rfl⟩

set_option maxRecDepth 100000 in
set_option maxHeartbeats 400000 in
theorem new_is (w : World) : Calls Try.prog 44 #[] w fun e w' => e = .returned (ptr w.heap.size) ∧ w.alloc (.cells #[.slice none 0 0, .int .i64 0] 123) = w' := by
  go_enter Try.func44, Try.ntmps44
  go_wp2
  go_ret
  exact ⟨rfl, rfl⟩

set_option maxRecDepth 100000 in
set_option maxHeartbeats 400000 in
theorem left_is (b : Nat) (A : Option Addr) (L c p : Nat) (f : Int) (w : World) (h : Is w b 127 #[.slice A L c, .int .i64 p, .int .i64 f]) (hp : p ≤ 8 * L) (hL : 8 * L ≤ 9223372036854775807) :
    Calls Try.prog 60 #[ptr b] w fun e w' => e = .returned (.int .i64 ((8 * L - p : Nat) : Int)) ∧ ∃ n, w' = w.drewN n := by
  have h0 := h.cell 0
  have h1 := h.cell 1
  simp at h0 h1
  clear h
  have e : ((8 * L - p : Nat) : Int) = 8 * (L : Int) - p := by omega
  rw [e]
  clear e
  go_enter Try.func60, Try.ntmps60
  go_wp2
  go_quiet (fail)
  go_wp2
  go_ret
  exact ⟨rfl, _, rfl⟩

set_option maxRecDepth 100000 in
set_option maxHeartbeats 400000 in
theorem out_nil (w : World) : Calls Try.prog 47 #[.pointer none] w fun e w' => e = .returned (.slice none 0 0) ∧ w = w' := by
  go_enter Try.func47, Try.ntmps47
  go_wp2
  go_ret
  exact ⟨rfl, rfl⟩

set_option maxRecDepth 100000 in
set_option maxHeartbeats 400000 in
theorem out_row (b : Nat) (v : Value) (n : Int) (bs : List Nat) (w : World) (B : Nat) (hB : B ≤ w.heap.size) (h : Is w b 123 #[v, .int .i64 n]) (hs : Src w v bs) (hn : bs.length ≤ 140737488355328) :
    Calls Try.prog 47 #[ptr b] w (OwnRow B (cellsOf bs) w) := by
  have h0 := h.cell 0
  simp at h0
  have HS := Lib.hid hs
  clear h hs
  go_enter Try.func47, Try.ntmps47
  go_wp2_with fail
  refine (clone_src v bs w B hB HS.out hn).mono ?_
  rintro e w' ⟨u, rfl, hq⟩
  go_wp2
  go_ret
  exact ⟨u, rfl, hq⟩

set_option maxRecDepth 100000 in
set_option maxHeartbeats 400000 in
theorem of_src (v : Value) (bs : List Nat) (w : World) (B : Nat) (hB : B ≤ w.heap.size) (hs : Src w v bs) (hn : bs.length ≤ 140737488355328) :
    Calls Try.prog 56 #[v] w fun e w' => ∃ b u, e = .returned (ptr b) ∧ w.heap.size ≤ b ∧ Is w' b 127 #[u, .int .i64 0, .int .i64 0] ∧ w'.ownsRow B 5 1 u bs.length (cellsOf bs) ∧ (∀ k, u.ownBlock = some k → w.heap.size ≤ k) ∧ Only (fun _ => False) w w' := by
  have HS := Lib.hid hs
  clear hs
  go_enter Try.func56, Try.ntmps56
  go_wp2_with fail
  refine (clone_src v bs w B hB HS.out hn).mono ?_
  rintro e w1 ⟨u, rfl, hown, ho, hk⟩
  rw [length_cellsOf] at hown
  obtain ⟨A, c, rfl, _⟩ := own_slice hown
  have Hown := Lib.hid hown
  have Ho := Lib.hid ho
  have Hk := Lib.hid hk
  clear hown ho hk
  go_wp2
  go_ret
  exact ⟨_, _, rfl, Ho.out.size, Is.made _ _ _, Hown.out.alloc _, Hk.out, Ho.out.alloc _⟩

end Go.Proofs.Ytiacjgnngdpohaa
