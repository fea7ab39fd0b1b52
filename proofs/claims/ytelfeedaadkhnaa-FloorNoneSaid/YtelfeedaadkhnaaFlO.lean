/- What FloorNone's walk gives for the statement's argument. Conditions: none. -/
import Derived.Test.YtelfeedaadkhnaaFlN
set_option linter.unusedVariables false
namespace Go.Proofs.Ytelfeedaadkhnaa
open Go.RowKit

theorem saysF_law {w : World} {e : Ending} {w' : World} (h : SaysF (.bool true) w e w') : e = .returned (.bool true) ∧ Below w.heap.size w w' := ⟨h.1, h.2.below (by simp) (Nat.le_refl _)⟩
theorem fnone_args {z : Int} {x1 x2 x4 : Nat} {b : Bool} {w : World} : Calls Try.prog 5 #[.agg #[.int .i64 z, .int .u32 (x1 : Int), .int .u32 (x2 : Int), .bool b, .int .u8 (x4 : Int)]] w fun e w' => e = .returned (.bool true) ∧ Below w.heap.size w w' := (fnone_walk z x1 x2 x4 b w).mono fun _ _ h => saysF_law h
end Go.Proofs.Ytelfeedaadkhnaa
