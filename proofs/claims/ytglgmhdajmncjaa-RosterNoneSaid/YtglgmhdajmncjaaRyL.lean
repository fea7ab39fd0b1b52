/- What RosterNone's walk gives for the statement's argument. Conditions: none. -/
import Derived.Test.YtglgmhdajmncjaaRyK
set_option linter.unusedVariables false
namespace Go.Proofs.Ytglgmhdajmncjaa
open Go.RowKit

theorem saysR_law {w : World} {e : Ending} {w' : World} (h : SaysR (.bool true) w e w') : e = .returned (.bool true) ∧ Below w.heap.size w w' := ⟨h.1, h.2.below (by simp) (Nat.le_refl _)⟩
theorem rnone14_args {z : Int} {x1 x2 : Nat} {b : Bool} {w : World} : Calls Try.prog 7 #[.agg #[.int .i64 z, .int .u32 (x1 : Int), .int .u32 (x2 : Int), .bool b]] w fun e w' => e = .returned (.bool true) ∧ Below w.heap.size w w' := (rnone_walk ⟨z, x1, x2, b⟩ w).mono fun _ _ h => saysR_law h
end Go.Proofs.Ytglgmhdajmncjaa
