/- What the walks of WideNone and WideCircles give for the statements' arguments. Conditions: none. -/
import Derived.Test.YthnaekmceakdaaaWdG
set_option linter.unusedVariables false
namespace Go.Proofs.Ythnaekmceakdaaa
open Go.RowKit

theorem says_law {w : World} {e : Ending} {w' : World} (h : Says (.bool true) w e w') : e = .returned (.bool true) ∧ Below w.heap.size w w' := ⟨h.1, h.2.below (by simp) (Nat.le_refl _)⟩
theorem wnone_args {n x : Int} {w : World} : Calls Try.prog 6 #[.int .u32 n, .int .u64 x] w fun e w' => e = .returned (.bool true) ∧ Below w.heap.size w w' := (wnone_walk n x w).mono fun _ _ h => says_law h
theorem circles_args {z : Int} {a b : Nat} {w : World} (ha : a < 4294967296) (hb : b < 4294967296) :
    Calls Try.prog 4 #[.int .i64 z, .int .u32 (a : Int), .int .u32 (b : Int)] w fun e w' => e = .returned (.bool true) ∧ Below w.heap.size w w' := (circles_walk z a b w ha hb).mono fun _ _ h => says_law h
end Go.Proofs.Ythnaekmceakdaaa
