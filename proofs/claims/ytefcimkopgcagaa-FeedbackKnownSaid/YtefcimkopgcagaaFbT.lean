/- easelref07.Rate. Conditions: as it says. -/
import Derived.Test.YtefcimkopgcagaaFbR
set_option linter.unusedVariables false
namespace Go.Proofs.Ytefcimkopgcagaa
open Go.RowKit

set_option maxRecDepth 100000 in
set_option maxHeartbeats 2000000 in
theorem rrate_is (m : Ms) (vp vo vs : Value) (w : World) (hm : m.mant < 4294967296) (he : m.exp < 256) :
    Calls Try.prog 20 #[.agg (m.cls vp vo vs)] w fun e w' => e = .returned (.int .u64 (rateOf m.mant m.exp : Nat)) ∧ Only (fun _ => False) w w' := by
  have HCG := Lib.hid (fun mb => show ∀ wx, Is wx mb 33 (m.cls vp vo vs) → wx.cell? ⟨mb, 5, none⟩ = some (.int .u8 (m.exp : Nat)) ∧ wx.cell? ⟨mb, 6, none⟩ = some (.int .u32 (m.mant : Nat)) from fun wx h => ⟨h.cell 5, h.cell 6⟩)
  obtain ⟨rt, hrt⟩ : ∃ x, rateOf m.mant m.exp = x := ⟨_, rfl⟩
  rw [hrt]
  unfold rateOf at hrt
  obtain ⟨M, hM⟩ : ∃ x, m.mant = x := ⟨_, rfl⟩
  obtain ⟨E, hE⟩ : ∃ x, m.exp = x := ⟨_, rfl⟩
  rw [hM] at HCG hm hrt
  rw [hE] at HCG he hrt
  generalize m.cls vp vo vs = cs at *
  clear hM hE
  have HRT := Lib.hid hrt
  clear hrt
  have wE : IntKind.i64.wrap (E : Int) = (E : Int) := by rw [IntKind.wrap_i64]; omega
  have wM : IntKind.u64.wrap (M : Int) = (M : Int) := by rw [IntKind.wrap_u64]; omega
  go_enter Try.func20, Try.ntmps20
  go_upto_region 1 with (fail)
  generalize hw0 : World.alloc _ _ = w0
  have I0 := Lib.hid (show Is w0 w.heap.size 33 cs from by rw [← hw0]; exact Is.made _ _ _)
  have P0 := Lib.hid (show Only (fun _ => False) w w0 from by rw [← hw0]; exact (Only.refl _ w).alloc _)
  obtain ⟨mb, hmb⟩ : ∃ k, w.heap.size = k := ⟨_, rfl⟩
  rw [hmb] at I0 ⊢
  clear hw0 hmb
  obtain ⟨c5, c6⟩ := HCG.out mb _ I0.out
  go_wp2
  go_loopw [3, 4] (fun s3 s4 wx => ∃ i y : Nat, i ≤ E ∧ s3 = .int .u64 y ∧ s4 = .int .i64 i ∧ y = M * 2 ^ i ∧ y < 18446744073709551616 ∧ wx = w0) (fun _ s4 _ => E - (intOf s4).toNat)
  case atStart => exact ⟨0, M, by omega, rfl, rfl, by simp, by omega, rfl⟩
  case round =>
    obtain ⟨i, y, hi, rfl, rfl, hy, hyl, hwx⟩ := hrel
    rw [hwx]
    clear hwx
    by_cases hlt : i < E
    · have zi : (i : Int) < (E : Int) := by omega
      by_cases hbig : 9223372036854775808 ≤ y
      · have zb : (9223372036854775808 : Int) ≤ (y : Int) := by omega
        have HR := Lib.hid (show 18446744073709551615 = rt from by
          have h := HRT.out
          have h2 : M * 2 ^ (i + 1) ≤ M * 2 ^ E := Nat.mul_le_mul_left _ (Nat.pow_le_pow_right (by decide) (by omega))
          have h3 : M * 2 ^ (i + 1) = y * 2 := by rw [Nat.pow_succ, ← Nat.mul_assoc, ← hy]
          rw [if_neg (by omega)] at h
          exact h)
        clear hy
        go_wp2
        go_ret
        rw [← HR.out]
        exact ⟨rfl, P0.out⟩
      · have zb : ¬ (9223372036854775808 : Int) ≤ (y : Int) := by omega
        have HY2 := Lib.hid (show y * 2 = M * 2 ^ (i + 1) from by rw [Nat.pow_succ, ← Nat.mul_assoc, ← hy])
        have wy : IntKind.u64.wrap ((y : Int) * 2) = (y : Int) * 2 := by rw [IntKind.wrap_u64]; omega
        clear hy
        go_wp2
        exact ⟨⟨i + 1, y * 2, by omega, by go_num, by go_num, HY2.out, by omega, by trivial⟩, by simp [intOf]; omega⟩
    · obtain rfl : i = E := by omega
      have HR := Lib.hid (show y = rt from by have h := HRT.out; rw [← hy, if_pos hyl] at h; exact h)
      clear hy
      go_wp2
      go_ret
      rw [← HR.out]
      exact ⟨rfl, P0.out⟩
end Go.Proofs.Ytefcimkopgcagaa
