/- A piece of a function, found by its first region's number. Conditions: none. -/
import Derived.Test.YtglgmhdajmncjaaReg
import Derived.Control
set_option linter.unusedVariables false
namespace Go.Proofs.Ytglgmhdajmncjaa
open Go
/-- The piece that begins with region n. -/
def codeIf (n : Nat) : Code → Option Code
  | .seq (.region k o d) b => if k = n then some (.seq (.region k o d) b) else codeIf n b
  | .seq a b => match codeIf n a with
    | some c => some c
    | none => codeIf n b
  | .loop c => codeIf n c
  | .block _ c => codeIf n c
  | .scope c => codeIf n c
  | .cond _ a b => match codeIf n a with
    | some c => some c
    | none => codeIf n b
  | _ => none
end Go.Proofs.Ytglgmhdajmncjaa
