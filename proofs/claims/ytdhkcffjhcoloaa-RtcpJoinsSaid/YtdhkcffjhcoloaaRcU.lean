/- RtcpJoins: the walk, of arguments as they are opened. Conditions: none. -/
import Derived.Test.YtdhkcffjhcoloaaRcT
import Derived.Test.YtdhkcffjhcoloaaLawP
set_option linter.unusedVariables false
namespace Go.Proofs.Ytdhkcffjhcoloaa
open Go.RowKit

theorem joins_args {W : World} {v : Value} {l : List Pkt} (hr : RdP W v l) (hf : ∀ p ∈ l, p.Fit) (hl : l.length ≤ 9223372036854775807) :
    Calls Try.prog 3 #[v] W fun e w' => e = .returned (.bool true) ∧ Below W.heap.size W w' := by
  refine (joins_any v l W hr hf hl).mono ?_
  rintro e w' ⟨rfl, ho⟩
  exact ⟨rfl, Only.below ho (fun i hi => hi.elim) (Nat.le_refl _)⟩
end Go.Proofs.Ytdhkcffjhcoloaa
