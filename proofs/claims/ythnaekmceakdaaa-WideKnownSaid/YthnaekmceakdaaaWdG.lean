/- WideCircles' walk. Conditions: none. -/
import Derived.Test.YthnaekmceakdaaaWdF
set_option linter.unusedVariables false
namespace Go.Proofs.Ythnaekmceakdaaa
open Go.RowKit

theorem stp_same {C a : Nat} (h : Cir C) (ha : a < 18446744073709551616) : stp C a a = 0 := by
  obtain ⟨q, hq⟩ := h.whole
  unfold stp
  rw [show a + (18446744073709551616 - a) = C * q by omega, Nat.mul_mod_right]
theorem stp_both {C a b : Nat} (h : Cir C) (ha : a < 18446744073709551616) (hb : b < 18446744073709551616) : stp C a b = 0 ∨ stp C a b + stp C b a = C := by
  have h1 := add_stp h a b ha
  have h2 := add_stp h b a hb
  have l1 := stp_lt h a b
  have l2 := stp_lt h b a
  have hp := h.pos
  have h3 : (stp C a b + stp C b a) % C = 0 := by
    have e1 : (a + stp C a b + stp C b a) % C = a % C := by rw [Nat.add_mod, h1, ← Nat.add_mod, h2]
    have e2 := Nat.sub_mod_eq_zero_of_mod_eq e1
    rwa [show a + stp C a b + stp C b a - a = stp C a b + stp C b a by omega] at e2
  rcases Nat.lt_or_ge (stp C a b + stp C b a) C with h4 | h4
  · rw [Nat.mod_eq_of_lt h4] at h3
    omega
  · rw [Nat.mod_eq_sub_mod h4, Nat.mod_eq_of_lt (by omega)] at h3
    omega
theorem ahead_one (z : Int) (a b : Nat) (ha : a < 4294967296) (hb : b < 4294967296) : (aheadB z a b && aheadB z b a) = false := by
  unfold aheadB
  have h := stp_both (cirOf_cir z) (show a < 18446744073709551616 by omega) (show b < 18446744073709551616 by omega)
  generalize stp (cirOf z) b a = x at *
  generalize stp (cirOf z) a b = y at *
  generalize cirOf z = C at *
  rw [Bool.and_eq_false_iff]
  by_cases h1 : 0 < x ∧ x < C / 2
  · right
    simp only [decide_eq_false_iff_not]
    omega
  · left
    simpa using h1

set_option maxRecDepth 100000 in
set_option maxHeartbeats 4000000 in
theorem circles_walk (z : Int) (a b : Nat) (w : World) (ha : a < 4294967296) (hb : b < 4294967296) :
    Calls Try.prog 4 #[.int .i64 z, .int .u32 (a : Int), .int .u32 (b : Int)] w (Says (.bool true) w) := by
  have H1 := Lib.hid (fun w => ahead_is z a b w ha hb)
  have H2 := Lib.hid (fun w => ahead_is z b a w hb ha)
  have R1 := Lib.hid (fun w => rahead_is z a b w ha hb)
  have R2 := Lib.hid (fun w => rahead_is z b a w hb ha)
  have B1 := Lib.hid (fun w => between_is z a b w ha hb)
  have B2 := Lib.hid (fun w => between_is z a a w ha ha)
  have RB := Lib.hid (fun w => rbetween_is z a b w ha hb)
  have hone := ahead_one z a b ha hb
  have h0 := stp_same (cirOf_cir z) (show a < 18446744073709551616 by omega)
  rw [h0] at B2
  generalize stp (cirOf z) a b = n at *
  clear h0
  generalize aheadB z a b = x at *
  generalize aheadB z b a = y at *
  clear ha hb
  cases x <;> cases y
  all_goals first | (exact absurd hone (by decide)) | skip
  all_goals
    clear hone
    go_enter Try.func4, Try.ntmps4
    go_wp2_with fail
    refine (H1.out _).mono ?_
    rintro e w1 ⟨rfl, ho⟩
    have O1 := Lib.hid ho
    clear ho
    go_wp2_with fail
    refine (H2.out _).mono ?_
    rintro e w2 ⟨rfl, ho⟩
    have O2 := Lib.hid (O1.out.trans ho (fun _ _ e => e))
    clear ho
    go_wp2_with fail
    refine (R1.out _).mono ?_
    rintro e w3 ⟨rfl, ho⟩
    have O3 := Lib.hid (O2.out.trans ho (fun _ _ e => e))
    clear ho
    go_wp2_with fail
    refine (R2.out _).mono ?_
    rintro e w4 ⟨rfl, ho⟩
    have O4 := Lib.hid (O3.out.trans ho (fun _ _ e => e))
    clear ho
    go_wp2_with fail
    refine (B1.out _).mono ?_
    rintro e w5 ⟨rfl, ho⟩
    have O5 := Lib.hid (O4.out.trans ho (fun _ _ e => e))
    clear ho
    go_wp2_with fail
    refine (RB.out _).mono ?_
    rintro e w6 ⟨rfl, ho⟩
    have O6 := Lib.hid (O5.out.trans ho (fun _ _ e => e))
    clear ho
    go_wp2_with fail
    refine (B2.out _).mono ?_
    rintro e w7 ⟨rfl, ho⟩
    have O7 := Lib.hid (O6.out.trans ho (fun _ _ e => e))
    clear ho
    go_wp2_with fail
    refine (wworks_is _).mono ?_
    rintro e w8 ⟨rfl, ho⟩
    have O8 := Lib.hid (O7.out.trans ho (fun _ _ e => e))
    clear ho
    go_wp2
    go_ret
    exact ⟨rfl, O8.out⟩
end Go.Proofs.Ythnaekmceakdaaa
