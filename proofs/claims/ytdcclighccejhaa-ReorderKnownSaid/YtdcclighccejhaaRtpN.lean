/- Parse of any bytes; IsRtcp. Conditions: as each says. -/
import Derived.Test.YtdcclighccejhaaRtpI
set_option linter.unusedVariables false
namespace Go.Proofs.Ytdcclighccejhaa
open Go.RowKit

def isRtcp (bs : List Nat) : Bool := decide (2 ≤ bs.length) && decide (192 ≤ bs.getD 1 0) && decide (bs.getD 1 0 ≤ 223)
end Go.Proofs.Ytdcclighccejhaa
