/- What WideKnown's walk gives. Conditions: none. -/
import Derived.Test.YthnaekmceakdaaaWdM
import Derived.Test.YthnaekmceakdaaaWdH
set_option linter.unusedVariables false
namespace Go.Proofs.Ythnaekmceakdaaa
open Go.RowKit

theorem wknown_args {w : World} : Calls Try.prog 7 #[] w fun e w' => e = .returned (.bool true) ∧ Below w.heap.size w w' := (wknown_walk w).mono fun _ _ h => says_law h
end Go.Proofs.Ythnaekmceakdaaa
