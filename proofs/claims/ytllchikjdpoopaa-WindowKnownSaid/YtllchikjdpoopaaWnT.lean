/- What WindowOnce's walk gives for the statement's arguments. Conditions: none. -/
import Derived.Test.YtllchikjdpoopaaWnS
import Derived.Test.YtllchikjdpoopaaWnO
set_option linter.unusedVariables false
namespace Go.Proofs.Ytllchikjdpoopaa
open Go.RowKit

theorem once_args {z : Int} {base : Nat} {v : Value} {zs : List Int} {w : World} (hz : (Lit.int .i64 z).wf = true) (hr : Rd .u64 w v zs) (hw : ∀ z ∈ zs, (Lit.int .u64 z).wf = true) (hl : zs.length ≤ 9223372036854775807) (hb : base < 18446744073709551616) :
    Calls Try.prog 4 #[.int .i64 z, v, .int .u64 (base : Int)] w fun e w' => e = .returned (.bool true) ∧ Below w.heap.size w w' := by
  obtain ⟨xs, rfl, hx⟩ := nats_u64 zs hw
  have hz2 : -9223372036854775808 ≤ z ∧ z ≤ 9223372036854775807 := by
    simp [Lit.wf, IntKind.min, IntKind.max, IntKind.signed, IntKind.bits] at hz
    omega
  exact (once_walk z v xs base w hz2 hb hr hx (by rwa [nats_length] at hl)).mono fun _ _ h => says_law h
end Go.Proofs.Ytllchikjdpoopaa
