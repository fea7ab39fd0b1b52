/- Vp8Known: the walk, as the law wants it. Conditions: none. -/
import Derived.Test.YtneogagainllnaaRvK
import Derived.Test.YtneogagainllnaaLaw
set_option linter.unusedVariables false
namespace Go.Proofs.Ytneogagainllnaa
open Go.RowKit

theorem known_args {W : World} : Calls Try.prog 6 #[] W fun e w' => e = .returned (.bool true) ∧ Below W.heap.size W w' := by
  refine (known_any W).mono ?_
  rintro e w' ⟨rfl, ho⟩
  exact ⟨rfl, Only.below ho (fun i hi => hi.elim) (Nat.le_refl _)⟩
end Go.Proofs.Ytneogagainllnaa
