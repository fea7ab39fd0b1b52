/- FeedbackKnown: the walk, as the law's text wants it. Conditions: none. -/
import Derived.Test.YtefcimkopgcagaaFfH
set_option linter.unusedVariables false
namespace Go.Proofs.Ytefcimkopgcagaa
open Go.RowKit

theorem fknown_args {W : World} : Calls Try.prog 7 #[] W fun e w' => e = .returned (.bool true) ∧ Below W.heap.size W w' := by
  refine (fknown_walk W).mono ?_
  rintro e w' ⟨rfl, ho⟩
  exact ⟨rfl, Only.below ho (fun i hi => hi.elim) (Nat.le_refl _)⟩
end Go.Proofs.Ytefcimkopgcagaa
