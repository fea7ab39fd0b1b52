/- The circle of package wide: size, half, cut, steps; the extender's small calls. Conditions: as each says. -/
import Derived.Test.YthnaekmceakdaaaRow
import Derived.Test.YthnaekmceakdaaaStep
import Derived.Test.YthnaekmceakdaaaWdP
set_option linter.unusedVariables false
namespace Go.Proofs.Ythnaekmceakdaaa
open Go.RowKit

/-- A circle, as a struct. -/
abbrev cirV (C : Nat) : Value := .agg #[.int .u64 ((C - 1 : Nat) : Int)]
/-- What is answered, and nothing that was there is written. -/
def Says (v : Value) (w : World) (e : Ending) (w' : World) : Prop := e = .returned v ∧ Only (fun _ => False) w w'

set_option maxHeartbeats 400000 in
theorem size_is (C : Nat) (w : World) (h : Cir C) : Calls Try.prog 26 #[cirV C] w (Says (.int .u64 (C : Int)) w) := by
  have h0 := h.pos
  have h1 := h.le
  obtain ⟨m, hm⟩ : ∃ m, C - 1 = m := ⟨_, rfl⟩
  obtain rfl : C = m + 1 := by omega
  simp only [cirV, Nat.add_sub_cancel]
  clear hm h
  go_enter Try.func26, Try.ntmps26
  go_wp2
  go_ret
  exact ⟨rfl, (Only.refl _ w).alloc _⟩
set_option maxHeartbeats 400000 in
theorem may_is (C : Nat) (w : World) (h : Cir C) : Calls Try.prog 24 #[cirV C] w (Says (.bool (decide (1 < C))) w) := by
  have h0 := h.pos
  have h1 := h.le
  obtain ⟨m, hm⟩ : ∃ m, C - 1 = m := ⟨_, rfl⟩
  obtain rfl : C = m + 1 := by omega
  simp only [cirV, Nat.add_sub_cancel]
  rw [show decide (1 < m + 1) = decide (0 < m) by simp]
  clear hm h
  go_enter Try.func24, Try.ntmps24
  go_wp2
  go_ret
  exact ⟨rfl, (Only.refl _ w).alloc _⟩
set_option maxHeartbeats 400000 in
theorem half_is (C : Nat) (w : World) (h : Cir C) : Calls Try.prog 27 #[cirV C] w (Says (.int .u64 ((C / 2 : Nat) : Int)) w) := by
  have h1 := h.le
  go_enter Try.func27, Try.ntmps27
  go_wp2_with fail
  refine (size_is C _ h).mono ?_
  rintro e w1 ⟨rfl, ho⟩
  have HO := Lib.hid (((Only.refl (fun _ => False) w).alloc _).trans ho (fun _ _ e => e))
  clear ho
  go_wp2
  go_ret
  exact ⟨rfl, HO.out⟩
set_option maxHeartbeats 400000 in
theorem cut_is (C z : Nat) (w : World) (h : Cir C) (hz : z < 18446744073709551616) : Calls Try.prog 29 #[cirV C, .int .u64 (z : Int)] w (Says (.int .u32 ((z % C : Nat) : Int)) w) := by
  have hb := cut_bits h z hz
  have h1 := h.le
  have h2 := Nat.mod_lt z h.pos
  have hw : IntKind.u32.wrap ((z % C : Nat) : Int) = ((z % C : Nat) : Int) := by rw [IntKind.wrap_u32]; omega
  have h4 : z % C < 4294967296 := by omega
  simp only [cirV]
  generalize z % C = r at *
  generalize C - 1 = m at *
  clear h hz h2 h1
  go_enter Try.func29, Try.ntmps29
  go_wp2
  go_ret
  exact ⟨rfl, (Only.refl _ w).alloc _⟩
set_option maxHeartbeats 400000 in
theorem steps_is (C f t : Nat) (w : World) (h : Cir C) (hf : f < 18446744073709551616) : Calls Try.prog 28 #[cirV C, .int .u64 (f : Int), .int .u64 (t : Int)] w (Says (.int .u64 ((stp C f t : Nat) : Int)) w) := by
  obtain ⟨n, hn, hl⟩ := wrap_u64_range ((t : Int) - f)
  have hs := stp_eq (t := t) h hf
  rw [hn, Int.toNat_natCast] at hs
  have HS := Lib.hid hs
  have h1 := h.le
  have h2 := stp_lt h f t
  have HC := Lib.hid h
  have h3 : stp C f t < 4294967296 := by omega
  clear hs h h1 h2
  generalize stp C f t = r at *
  go_enter Try.func28, Try.ntmps28
  go_wp2_with fail
  refine (cut_is C n _ HC.out hl).mono ?_
  rintro e w1 ⟨rfl, ho⟩
  rw [HS.out]
  have HO := Lib.hid (((Only.refl (fun _ => False) w).alloc _).trans ho (fun _ _ e => e))
  clear ho hn
  go_wp2
  go_ret
  exact ⟨rfl, HO.out⟩
end Go.Proofs.Ythnaekmceakdaaa
