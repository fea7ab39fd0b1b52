/- roster: what RosterSources' walk gives for the statement's arguments. Conditions: none. -/
import Derived.Test.YtglgmhdajmncjaaRyV
set_option linter.unusedVariables false
namespace Go.Proofs.Ytglgmhdajmncjaa
open Go.RowKit

theorem rsources_args {z : Int} {v : Value} {l : List A14} {w : World} (hv : RdC w v l) (hf : ∀ x ∈ l, x.m.Fits) : Calls Try.prog 6 #[.int .i64 z, v] w fun e w' => e = .returned (.bool true) ∧ Below w.heap.size w w' :=
  (rsources_walk z v l w hv hf).mono fun _ _ h => ⟨h.1, h.2.below (by simp) (Nat.le_refl _)⟩
end Go.Proofs.Ytglgmhdajmncjaa
