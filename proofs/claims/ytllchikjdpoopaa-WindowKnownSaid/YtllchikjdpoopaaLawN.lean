/- A row of numbers as an argument: nil, or one that lies somewhere. Conditions: as each says. -/
import Derived.Test.YtllchikjdpoopaaLaw
set_option linter.unusedVariables false
namespace Go.Proofs.Ytllchikjdpoopaa
open Go.Joins Go.ChangeShapes Go.WideShapes Go.RowKit Go.Deep

section
variable {H : Type} {enc : TypeId × Value → H} {P : Program} {w : World} {base : Nat} {spare : Nat → Bool} {held : Bool}
theorem field_rdn {k : IntKind} {n : Nat} {t e : TypeId} {c : Value} {y : DataW H × List MemPlace} (ht : P.underlying t = some (.slice e)) (he : P.underlying e = some (.int k)) (hc : P.cellsOf e = 1) (h : DataW.trod enc P w base spare held n t [c] = some y) :
    ∃ zs : List Int, Rd k w c zs ∧ (∀ z ∈ zs, (Lit.int k z).wf = true) ∧ zs.length ≤ 9223372036854775807 ∧ (c = .slice none 0 0 ∨ ∃ ad m d, c = .slice (some ad) m d) := by
  obtain ⟨zs, h1, h2, h3⟩ := field_rd ht he hc h
  refine ⟨zs, h1, h2, h3, ?_⟩
  rcases open_ints ht he hc h with ⟨hcs, _⟩ | ⟨x, l, cp, zs', hcs, _⟩
  · injection hcs with hcs
    exact .inl hcs
  · injection hcs with hcs
    exact .inr ⟨_, _, _, hcs⟩
end
theorem nats_u32 : ∀ (zs : List Int), (∀ z ∈ zs, (Lit.int .u32 z).wf = true) → ∃ xs : List Nat, nats xs = zs ∧ ∀ x ∈ xs, x < 4294967296
  | [], _ => ⟨[], rfl, by simp⟩
  | z :: zs, h => by
    obtain ⟨xs, h1, h2⟩ := nats_u32 zs (fun y hy => h y (by simp [hy]))
    obtain ⟨x, rfl, hx⟩ := nat_of_wf (m := 4294967296) (.inr (.inr (.inl ⟨rfl, rfl⟩))) (h z (by simp))
    refine ⟨x :: xs, by rw [← h1]; rfl, fun y hy => ?_⟩
    rcases List.mem_cons.1 hy with rfl | hy
    · exact hx
    · exact h2 y hy
end Go.Proofs.Ytllchikjdpoopaa
