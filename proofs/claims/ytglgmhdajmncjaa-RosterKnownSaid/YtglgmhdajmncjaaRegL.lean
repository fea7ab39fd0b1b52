/- A region of a function, found by its number: regions are shown as theorems of their own. Conditions: none. -/
import Derived.Test.YtglgmhdajmncjaaReg
import Derived.Control
set_option linter.unusedVariables false
namespace Go.Proofs.Ytglgmhdajmncjaa
open Go
def codeRegion (n : Nat) : Code → Option Code
  | .region k ops d => if k = n then some (.region k ops d) else none
  | .loop c => codeRegion n c
  | .seq a b => match codeRegion n a with
    | some c => some c
    | none => codeRegion n b
  | .block _ c => codeRegion n c
  | .scope c => codeRegion n c
  | .rangeFunc _ _ a b => match codeRegion n a with
    | some c => some c
    | none => codeRegion n b
  | .cond _ a b => match codeRegion n a with
    | some c => some c
    | none => codeRegion n b
  | _ => none
end Go.Proofs.Ytglgmhdajmncjaa
