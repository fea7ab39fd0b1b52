/- What WindowNone's walk gives for the statement's argument. Conditions: none. -/
import Derived.Test.YtllchikjdpoopaaWnG
set_option linter.unusedVariables false
namespace Go.Proofs.Ytllchikjdpoopaa
open Go.RowKit

theorem says_law {w : World} {e : Ending} {w' : World} (h : Says (.bool true) w e w') : e = .returned (.bool true) ∧ Below w.heap.size w w' := ⟨h.1, h.2.below (by simp) (Nat.le_refl _)⟩
theorem nnone_args {n : Nat} {w : World} : Calls Try.prog 5 #[.int .u64 (n : Int)] w fun e w' => e = .returned (.bool true) ∧ Below w.heap.size w w' := (nnone_walk n w).mono fun _ _ h => says_law h
end Go.Proofs.Ytllchikjdpoopaa
