/- FeedbackReads: the walk, of arguments as they are opened. Conditions: none. -/
import Derived.Test.YtefcimkopgcagaaFdJ
set_option linter.unusedVariables false
namespace Go.Proofs.Ytefcimkopgcagaa
open Go.RowKit

theorem freads_args {W : World} {a0 a1 a3 : Nat} {v : Value} {bs : List Nat} (hs : Src W v bs) (hb : ∀ x ∈ bs, x < 256) :
    Calls Try.prog 4 #[.agg #[.int .u8 (a0 : Int), .int .u8 (a1 : Int), v, .int .u8 (a3 : Int)]] W fun e w' => e = .returned (.bool true) ∧ Below W.heap.size W w' := by
  refine (freads_walk a1 a0 a3 v bs W hs hb).mono ?_
  rintro e w' ⟨rfl, ho⟩
  exact ⟨rfl, Only.below ho (fun i hi => hi.elim) (Nat.le_refl _)⟩
end Go.Proofs.Ytefcimkopgcagaa
