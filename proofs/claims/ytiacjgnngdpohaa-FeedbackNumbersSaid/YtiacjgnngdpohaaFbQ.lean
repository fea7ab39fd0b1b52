/- FeedbackNumbers: the walk, of arguments as they are opened. Conditions: none. -/
import Derived.Test.YtiacjgnngdpohaaFbP
import Derived.Test.YtiacjgnngdpohaaLawF
set_option linter.unusedVariables false
namespace Go.Proofs.Ytiacjgnngdpohaa
open Go.RowKit

theorem fnumbers_args {W : World} {v0 v1 : Value} {l0 : List Pr} {zs1 : List Int} {x2 : Nat} (h0 : RdP W v0 l0) (f0 : ∀ p ∈ l0, p.Fit) (k0 : l0.length ≤ 9223372036854775807) (h1 : Rd .u16 W v1 zs1) (w1 : ∀ z ∈ zs1, (Lit.int .u16 z).wf = true) (k1 : zs1.length ≤ 9223372036854775807)
    (n1 : v1 = .slice none 0 0 ∨ ∃ ad m d, v1 = .slice (some ad) m d) (h2 : x2 < 18446744073709551616) :
    Calls Try.prog 5 #[v0, v1, .int .u64 x2] W fun e w' => e = .returned (.bool true) ∧ Below W.heap.size W w' := by
  obtain ⟨ns, rfl, hns⟩ := nats_u16 zs1 w1
  rw [nats_length] at k1
  refine (fnumbers_any l0 v0 ns v1 x2 W h0 f0 h1 hns n1 h2 ⟨k0, k1⟩).mono ?_
  rintro e w' ⟨rfl, ho⟩
  exact ⟨rfl, Only.below ho (fun i hi => hi.elim) (Nat.le_refl _)⟩
end Go.Proofs.Ytiacjgnngdpohaa
