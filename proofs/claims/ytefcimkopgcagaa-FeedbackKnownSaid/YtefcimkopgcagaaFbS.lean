/- math/bits.Len32. Conditions: as it says. -/
import Derived.Test.YtefcimkopgcagaaFbF
set_option linter.unusedVariables false
namespace Go.Proofs.Ytefcimkopgcagaa

set_option maxRecDepth 100000 in
set_option maxHeartbeats 2000000 in
theorem len32_is (x : Nat) (w : World) (hx : x < 4294967296) :
    Calls Try.prog 53 #[.int .u32 x] w fun e w' => e = .returned (.int .i64 (Lib.bitLen x : Nat)) ∧ w' = w := by
  go_enter Try.func53, Try.ntmps53
  go_wp2
  all_goals (go_ret; refine ⟨congrArg Ending.returned (congrArg (Value.int IntKind.i64) ?_), rfl⟩)
  · exact shut 24 16777216 x _ _ rfl rfl (by omega) (by omega) (by omega) (by omega) (by omega)
  · exact shut 16 65536 x _ _ rfl rfl (by omega) (by omega) (by omega) (by omega) (by omega)
  · exact shut 8 256 x _ _ rfl rfl (by omega) (by omega) (by omega) (by omega) (by omega)
  · exact shut0 x (by omega)
end Go.Proofs.Ytefcimkopgcagaa
