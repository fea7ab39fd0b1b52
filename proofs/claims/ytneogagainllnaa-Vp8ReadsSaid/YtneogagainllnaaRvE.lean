/- Vp8Reads: the walk, of arguments as they are opened. Conditions: none. -/
import Derived.Test.YtneogagainllnaaRvD
import Derived.Test.YtneogagainllnaaLaw
set_option linter.unusedVariables false
namespace Go.Proofs.Ytneogagainllnaa
open Go.RowKit

theorem reads_args {W : World} {v : Value} {bs : List Nat} (h : Src W v bs) (k : ∀ x ∈ bs, x < 256) :
    Calls Try.prog 3 #[v] W fun e w' => e = .returned (.bool true) ∧ Below W.heap.size W w' := by
  refine (reads_any v bs W h k).mono ?_
  rintro e w' ⟨rfl, ho⟩
  exact ⟨rfl, Only.below ho (fun i hi => hi.elim) (Nat.le_refl _)⟩
end Go.Proofs.Ytneogagainllnaa
