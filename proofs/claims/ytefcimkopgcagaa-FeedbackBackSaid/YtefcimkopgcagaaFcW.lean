/- feedback.Is. Conditions: as each says. -/
import Derived.Test.YtefcimkopgcagaaFcV
set_option linter.unusedVariables false
set_option linter.unusedSimpArgs false
namespace Go.Proofs.Ytefcimkopgcagaa
open Go.RowKit

theorem srtV_size5 {k : Nat} (h : k < 5) : (srtV k).size = 15 := by rcases row_cases h with rfl | rfl | rfl | rfl | rfl <;> rfl
theorem sOf_lt (kd ct : Nat) : sOf kd ct < 5 := by
  unfold sOf
  split
  · omega
  · split
    · omega
    · split
      · omega
      · split <;> omega
set_option maxRecDepth 100000 in
set_option maxHeartbeats 2000000 in
theorem fis_is (kd ct pad : Nat) (vb : Value) (w : World) :
    Calls Try.prog 25 #[.agg #[.int .u8 (ct : Nat), .int .u8 (kd : Nat), vb, .int .u8 (pad : Nat)]] w fun e w' => e = .returned (.bool (decide (0 < sOf kd ct))) ∧ Only (fun _ => False) w w' := by
  have HSB := Lib.hid (fun wx => sortby_is kd ct wx)
  have hs5 := sOf_lt kd ct
  generalize sOf kd ct = s at *
  have hb : ((s : Int) != 0) = decide (0 < s) := by
    rcases Nat.eq_zero_or_pos s with h | h
    · subst h; rfl
    · have h1 : (s : Int) ≠ 0 := by omega
      have h2 : s ≠ 0 := by omega
      simp [h, h2]
  go_enter Try.func25, Try.ntmps25
  go_wp2_with (first
    | (go_at_call 55; refine (HSB.out _).mono ?_; rintro e w1 ⟨rfl, ho1⟩; have O1 := Lib.hid (((Only.refl (fun _ => False) w).alloc _).trans ho1 (fun _ _ e => e)); clear ho1)
    | (refine wpList_store_is rfl 93 _ _ rfl w1.heap.size (srtV s) rfl rfl 93 (srtV 0) (Is.made w1 _ (srtV 0)) (srt_size5 hs5) (srt_hold5 hs5) (srt_one5 hs5) ?_; intro w2 hi2 ho2; have O2 := Lib.hid (O1.out.trans (fb_made ho2) (fun _ _ e => e)); clear hi2 ho2))
  go_ret
  exact ⟨rfl, O2.out⟩
end Go.Proofs.Ytefcimkopgcagaa
