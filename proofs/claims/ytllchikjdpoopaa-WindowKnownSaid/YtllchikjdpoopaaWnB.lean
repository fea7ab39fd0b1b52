/- A window's small calls; Look. Conditions: as each says. -/
import Derived.Test.YtllchikjdpoopaaWnA
set_option linter.unusedVariables false
namespace Go.Proofs.Ytllchikjdpoopaa
open Go Go.RowKit

structure Wm.Fit (m : Wm) : Prop where
  one : 1 ≤ m.size
  le : m.size ≤ 1024
  top : m.top < 18446744073709551616
  least : m.least < 18446744073709551616
set_option maxHeartbeats 400000 in
theorem reaches_nil (w : World) : Calls Try.prog 22 #[.pointer none] w fun e w' => e = .returned (.bool false) ∧ w = w' := by
  go_enter Try.func22, Try.ntmps22
  go_wp2
  go_ret
  exact ⟨rfl, rfl⟩
set_option maxHeartbeats 400000 in
theorem reaches_is (b : Nat) (m : Wm) (D : Nat → Nat) (w : World) (h : WIs w b m D) (hf : m.Fit) : Calls Try.prog 22 #[ptr b] w fun e w' => e = .returned (.bool true) ∧ w = w' := by
  have c0 := h.size
  have h1 := hf.one
  generalize m.size = s at *
  clear h hf
  go_enter Try.func22, Try.ntmps22
  go_wp2
  go_ret
  exact ⟨by simp; omega, rfl⟩
set_option maxRecDepth 20000 in
set_option maxHeartbeats 1000000 in
theorem lowest_is (b : Nat) (m : Wm) (D : Nat → Nat) (w : World) (h : WIs w b m D) (hf : m.Fit) : Calls Try.prog 23 #[ptr b] w (Says (.int .u64 (m.low : Int)) w) := by
  have c0 := h.size
  have c2 := h.top
  have h1 := hf.one
  have h2 := hf.le
  have h3 := hf.top
  unfold Wm.low
  generalize m.size = s at *
  generalize m.top = t at *
  clear h hf
  obtain ⟨r, rfl⟩ : ∃ r, s = r + 1 := ⟨s - 1, by omega⟩
  rw [Nat.add_sub_cancel]
  have e1 : IntKind.u64.wrap (((r + 1 : Nat) : Int) - 1) = (r : Int) := by rw [IntKind.wrap_u64]; omega
  have e2 : IntKind.u64.wrap ((t : Int) - ((min t r : Nat) : Int)) = ((t - min t r : Nat) : Int) := by rw [IntKind.wrap_u64]; omega
  have e3 : min (t : Int) (r : Int) = ((min t r : Nat) : Int) := by omega
  have E2 := Lib.hid e2
  have E1 := Lib.hid e1
  clear e2
  go_enter Try.func23, Try.ntmps23
  go_upto_region 1 with (fail)
  go_quiet (fail)
  go_wp2
  · go_ret
    exact ⟨by simp; omega, (Only.refl _ w).drewN _⟩
  · go_ret
    exact ⟨by simp; omega, (Only.refl _ w).drewN _⟩
set_option maxHeartbeats 400000 in
theorem look_nil (n : Nat) (w : World) : Calls Try.prog 9 #[.pointer none, .int .u64 (n : Int)] w fun e w' => e = .returned (.int .i64 2) ∧ w = w' := by
  go_enter Try.func9, Try.ntmps9
  go_wp2_with fail
  refine (reaches_nil _).mono ?_
  rintro e w1 ⟨rfl, rfl⟩
  go_wp2
  go_ret
  exact ⟨rfl, rfl⟩
set_option maxRecDepth 20000 in
set_option maxHeartbeats 1000000 in
theorem look_is (b n : Nat) (m : Wm) (D : Nat → Nat) (w : World) (h : WIs w b m D) (hf : m.Fit) : Calls Try.prog 9 #[ptr b, .int .u64 (n : Int)] w (Says (.int .i64 (m.look n : Int)) w) := by
  have HR := Lib.hid (reaches_is b m D w h hf)
  have HL := Lib.hid (lowest_is b m D w h hf)
  have HH := Lib.hid (fun (w1 : World) (ho : Only (fun _ => False) w w1) => has_is b n m D w1 (h.only ho (by simp)))
  have c1 := h.went
  have c2 := h.top
  unfold Wm.look
  generalize m.low = l at *
  generalize m.f (n % 1024) = x at *
  generalize m.top = t at *
  generalize m.some = s at *
  clear h hf
  by_cases hs : s = false ∨ t < n
  · rw [if_pos hs]
    go_enter Try.func9, Try.ntmps9
    go_wp2_with fail
    refine HR.out.mono ?_
    rintro e w1 ⟨rfl, rfl⟩
    cases s
    · go_wp2
      go_ret
      exact ⟨rfl, Only.refl _ w⟩
    · have htn : t < n := by simpa using hs
      go_wp2
      go_ret
      exact ⟨rfl, Only.refl _ w⟩
  · rw [if_neg hs]
    obtain ⟨rfl, htn⟩ : s = true ∧ n ≤ t := by
      cases s
      · simp at hs
      · exact ⟨rfl, by simpa using hs⟩
    clear hs
    obtain ⟨r, hr⟩ : ∃ r : Nat, (if n < l then 2 else if x = true then 1 else 0) = r := ⟨_, rfl⟩
    rw [hr]
    have HRR := Lib.hid hr
    clear hr
    go_enter Try.func9, Try.ntmps9
    go_wp2_with fail
    refine HR.out.mono ?_
    rintro e w1 ⟨rfl, rfl⟩
    go_wp2_with fail
    refine HL.out.mono ?_
    rintro e w2 ⟨rfl, ho⟩
    have HO := Lib.hid ho
    have HHH := Lib.hid (HH.out _ ho)
    clear ho
    by_cases hl : n < l
    · go_wp2
      go_ret
      exact ⟨by rw [← HRR.out, if_pos hl]; rfl, HO.out⟩
    · have hl2 : l ≤ n := by omega
      go_wp2_with fail
      refine HHH.out.mono ?_
      rintro e w3 ⟨rfl, rfl⟩
      cases x
      · go_wp2
        go_ret
        exact ⟨by rw [← HRR.out, if_neg hl]; rfl, HO.out⟩
      · go_wp2
        go_ret
        exact ⟨by rw [← HRR.out, if_neg hl]; rfl, HO.out⟩
end Go.Proofs.Ytllchikjdpoopaa
