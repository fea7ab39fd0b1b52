/- easelkit's Pick. Conditions: as it says. -/
import Derived.Test.YtglgmhdajmncjaaRow
set_option linter.unusedVariables false
namespace Go.Proofs.Ytglgmhdajmncjaa
open Go.RowKit

theorem pick_eq (i n : Int) (hi : -9223372036854775808 ≤ i ∧ i ≤ 9223372036854775807) (hn : 0 < n) (hn2 : n ≤ 4611686018427387904) : (wrap64 (i.tmod n + n)).tmod n = i % n := by
  have h1 : i.tmod n < n := Int.tmod_lt_of_pos i hn
  have h2 : -n < i.tmod n := by
    rcases Int.le_total 0 i with h0 | h0
    · have := Int.tmod_nonneg n h0
      omega
    · have h4 := Int.tmod_lt_of_pos (-i) hn
      rw [Int.neg_tmod] at h4
      omega
  rw [IntWalk.wrap64_in _ (by omega)]
  rw [Int.tmod_eq_emod_of_nonneg (by omega)]
  have h3 : i.tmod n % n = i % n := by
    have := Int.mul_tdiv_add_tmod i n
    conv => rhs; rw [← this]
    simp
  simp [h3]

set_option maxRecDepth 100000 in
set_option maxHeartbeats 400000 in
theorem pick_is (i n : Int) (w : World) (hi : -9223372036854775808 ≤ i ∧ i ≤ 9223372036854775807) (hn : 0 < n) (hn2 : n ≤ 4611686018427387904) :
    Calls Try.prog 37 #[.int .i64 i, .int .i64 n] w fun e w' => e = .returned (.int .i64 (i % n)) ∧ w = w' := by
  rw [← pick_eq i n hi hn hn2]
  clear hi hn2
  go_enter Try.func37, Try.ntmps37
  go_wp2
  go_ret
  exact ⟨rfl, rfl⟩
end Go.Proofs.Ytglgmhdajmncjaa
