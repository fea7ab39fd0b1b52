/- Parse of any bytes; IsRtcp. Conditions: as each says. -/
import Derived.Test.YtcjbiiphjahjpaaRtpI
set_option linter.unusedVariables false
namespace Go.Proofs.Ytcjbiiphjahjpaa
open Go.RowKit

def isRtcp (bs : List Nat) : Bool := decide (2 ≤ bs.length) && decide (192 ≤ bs.getD 1 0) && decide (bs.getD 1 0 ≤ 223)
end Go.Proofs.Ytcjbiiphjahjpaa
