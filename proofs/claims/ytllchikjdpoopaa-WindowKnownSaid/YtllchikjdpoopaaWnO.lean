/- What WindowPlays' walk gives for the statement's arguments. Conditions: none. -/
import Derived.Test.YtllchikjdpoopaaWnN
import Derived.Test.YtllchikjdpoopaaWnH
import Derived.Test.YtllchikjdpoopaaLawN
set_option linter.unusedVariables false
namespace Go.Proofs.Ytllchikjdpoopaa
open Go.RowKit

theorem nats_u64 : ∀ (zs : List Int), (∀ z ∈ zs, (Lit.int .u64 z).wf = true) → ∃ xs : List Nat, nats xs = zs ∧ ∀ x ∈ xs, x < 18446744073709551616
  | [], _ => ⟨[], rfl, by simp⟩
  | z :: zs, h => by
    obtain ⟨xs, h1, h2⟩ := nats_u64 zs (fun y hy => h y (by simp [hy]))
    obtain ⟨x, rfl, hx⟩ := nat_of_wf (m := 18446744073709551616) (.inr (.inr (.inr ⟨rfl, rfl⟩))) (h z (by simp))
    refine ⟨x :: xs, by rw [← h1]; rfl, fun y hy => ?_⟩
    rcases List.mem_cons.1 hy with rfl | hy
    · exact hx
    · exact h2 y hy
theorem plays_args {z sz : Int} {n : Nat} {v : Value} {zs : List Int} {w : World} (hr : Rd .u64 w v zs) (hw : ∀ z ∈ zs, (Lit.int .u64 z).wf = true) (hl : zs.length ≤ 9223372036854775807) :
    Calls Try.prog 3 #[.int .i64 z, v, .int .u64 (n : Int), .int .i64 sz] w fun e w' => e = .returned (.bool true) ∧ Below w.heap.size w w' := by
  obtain ⟨xs, rfl, hx⟩ := nats_u64 zs hw
  exact (plays_walk z v xs n sz w hr hx (by rwa [nats_length] at hl)).mono fun _ _ h => says_law h
end Go.Proofs.Ytllchikjdpoopaa
