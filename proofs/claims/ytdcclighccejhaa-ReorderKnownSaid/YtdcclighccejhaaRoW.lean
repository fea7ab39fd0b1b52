/- ReorderNone, of arguments as they are opened. Conditions: none. -/
import Derived.Test.YtdcclighccejhaaRoU
import Derived.Test.YtdcclighccejhaaRoV
set_option linter.unusedVariables false
namespace Go.Proofs.Ytdcclighccejhaa
open Go Go.RowKit

theorem rnone_args {W : World} {a : Ac} {u : V3} (hr : RdU a.p u W) : Calls Try.prog 5 #[.agg (a.cls u).toArray] W fun e w' => e = .returned (.bool true) ∧ Below W.heap.size W w' := by
  refine (rnone_walk a u W hr).mono ?_
  rintro e w' ⟨rfl, ho⟩
  exact ⟨rfl, Only.below ho (fun i hi => hi.elim) (Nat.le_refl _)⟩
end Go.Proofs.Ytdcclighccejhaa
