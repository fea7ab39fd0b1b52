/- What WindowKnown's walk gives. Conditions: none. -/
import Derived.Test.YtllchikjdpoopaaWnU
set_option linter.unusedVariables false
namespace Go.Proofs.Ytllchikjdpoopaa
open Go.RowKit

theorem nknown_args {w : World} : Calls Try.prog 6 #[] w fun e w' => e = .returned (.bool true) ∧ Below w.heap.size w w' := (nknown_walk w).mono fun _ _ h => says_law h
end Go.Proofs.Ytllchikjdpoopaa
