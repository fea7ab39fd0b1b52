/- RtcpBack: the walk, of arguments as they are opened. Conditions: none. -/
import Derived.Test.YtdhkcffjhcoloaaRcR
import Derived.Test.YtdhkcffjhcoloaaLawP
set_option linter.unusedVariables false
namespace Go.Proofs.Ytdhkcffjhcoloaa
open Go.RowKit

theorem back_args {W : World} {v vb : Value} {l : List Pkt} {bs : List Nat} (hr : RdP W v l) (hf : ∀ p ∈ l, p.Fit) (hl : l.length ≤ 9223372036854775807) (hs : Src W vb bs) (hb : ∀ x ∈ bs, x < 256) :
    Calls Try.prog 6 #[v, vb] W fun e w' => e = .returned (.bool true) ∧ Below W.heap.size W w' := by
  refine (back_any v vb l bs W hr hf hl hs hb).mono ?_
  rintro e w' ⟨rfl, ho⟩
  exact ⟨rfl, Only.below ho (fun i hi => hi.elim) (Nat.le_refl _)⟩
end Go.Proofs.Ytdhkcffjhcoloaa
