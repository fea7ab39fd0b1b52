/- RtpBack: the walk, of arguments as they are opened. Conditions: none. -/
import Derived.Test.YtfnbndbchndlhaaRtpR
import Derived.Test.YtfnbndbchndlhaaLaw
set_option linter.unusedVariables false
namespace Go.Proofs.Ytfnbndbchndlhaa
open Go.RowKit

theorem nats_of32 : ∀ (zs : List Int), (∀ z ∈ zs, (Lit.int .u32 z).wf = true) → ∃ xs : List Nat, nats xs = zs ∧ ∀ x ∈ xs, x < 4294967296
  | [], _ => ⟨[], rfl, by simp⟩
  | z :: zs, h => by
    obtain ⟨xs, h1, h2⟩ := nats_of32 zs (fun y hy => h y (by simp [hy]))
    obtain ⟨x, rfl, hx⟩ := nat_of_wf (m := 4294967296) (.inr (.inr (.inl ⟨rfl, rfl⟩))) (h z (by simp))
    refine ⟨x :: xs, by rw [← h1]; rfl, fun y hy => ?_⟩
    rcases List.mem_cons.1 hy with rfl | hy
    · exact hx
    · exact h2 y hy
theorem back_args {W : World} {b0 b6 : Bool} {x1 x2 x3 x4 x7 x10 : Nat} {v5 v8 v9 v : Value} {zs5 : List Int} {bs8 bs9 bs : List Nat} (h1 : x1 < 256) (h2 : x2 < 65536) (h3 : x3 < 4294967296) (h4 : x4 < 4294967296)
    (h5 : Rd .u32 W v5 zs5) (w5 : ∀ z ∈ zs5, (Lit.int .u32 z).wf = true) (h7 : x7 < 65536) (h8 : Src W v8 bs8) (k8 : ∀ x ∈ bs8, x < 256) (h9 : Src W v9 bs9) (k9 : ∀ x ∈ bs9, x < 256) (h10 : x10 < 256) (h : Src W v bs) (k : ∀ x ∈ bs, x < 256) (l : bs.length ≤ 9223372036854775807) :
    Calls Try.prog 4 #[.agg #[.bool b0, .int .u8 x1, .int .u16 x2, .int .u32 x3, .int .u32 x4, v5, .bool b6, .int .u16 x7, v8, v9, .int .u8 x10], v] W fun e w' => e = .returned (.bool true) ∧ Below W.heap.size W w' := by
  obtain ⟨cs, rfl, hcs⟩ := nats_of32 zs5 w5
  refine (back_any ⟨b0, x1, x2, x3, x4, cs, b6, x7, bs8, bs9, x10⟩ v5 v8 v9 v bs W ⟨h1, h2, h3, h4, hcs, h7, k8, k9, h10⟩ h5 h8 h9 h k l).mono ?_
  rintro e w' ⟨rfl, ho⟩
  exact ⟨rfl, Only.below ho (fun i hi => hi.elim) (Nat.le_refl _)⟩
end Go.Proofs.Ytfnbndbchndlhaa
