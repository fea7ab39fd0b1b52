/- RtcpSplits: the walk, of arguments as they are opened. Conditions: none. -/
import Derived.Test.YtdhkcffjhcoloaaRcN
import Derived.Test.YtdhkcffjhcoloaaLaw
set_option linter.unusedVariables false
namespace Go.Proofs.Ytdhkcffjhcoloaa
open Go.RowKit

theorem splits_args {W : World} {v : Value} {bs : List Nat} (h : Src W v bs) (k : ∀ x ∈ bs, x < 256) :
    Calls Try.prog 4 #[v] W fun e w' => e = .returned (.bool true) ∧ Below W.heap.size W w' := by
  refine (splits_any v bs W h k).mono ?_
  rintro e w' ⟨rfl, ho⟩
  exact ⟨rfl, Only.below ho (fun i hi => hi.elim) (Nat.le_refl _)⟩
end Go.Proofs.Ytdhkcffjhcoloaa
