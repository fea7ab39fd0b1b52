/- Arguments that are rows of pairs, opened. Conditions: as it says. -/
import Derived.Test.YtefcimkopgcagaaBase
import Derived.Test.YtefcimkopgcagaaFbGr
set_option linter.unusedVariables false
namespace Go.Proofs.Ytefcimkopgcagaa
open Go.Joins Go.ChangeShapes Go.WideShapes Go.RowKit Go.Deep

theorem open_prs {H : Type} {enc : TypeId × Value → H} {w : World} {base : Nat} {spare : Nat → Bool} {held : Bool} {n : Nat} {c : Value} {y : DataW H × List MemPlace} (h : DataW.trod enc Try.prog w base spare held n 23 [c] = some y) :
    ∃ l : List Pr, RdP w c l ∧ (∀ x ∈ l, x.Fit) ∧ l.length ≤ 9223372036854775807 := by
  rcases open_rows Try.underlying23 Try.underlying82 (by kernel_rfl) (by kernel_rfl) h with rfl | ⟨⟨g, o, spot⟩, len, cap, rfl, hlc, hcm, hi⟩
  · exact ⟨[], RdP.nil w, by simp, by simp⟩
  · rcases Nat.eq_zero_or_pos len with hz | hpos
    · subst hz
      exact ⟨[], ⟨_, cap, rfl, hlc, fun h => by simp at h⟩, by simp, by simp⟩
    have hsp : spot = none := by
      obtain ⟨cs, hl, hcell, _⟩ := hi 0 hpos
      obtain _ | ⟨c0, cs⟩ := cs
      · cases hl
      have q0 := hcell 0 (by decide)
      simpa [Addr.add] using World.cell?_spot q0
    subst hsp
    have hQ : ∀ i, i < len → ∃ p : Pr, p.Fit ∧ PCells w g o i p := by
      intro i hil
      obtain ⟨cs, hl, hcell, hf⟩ := hi i hil
      obtain _ | ⟨c0, cs⟩ := cs
      · cases hl
      obtain _ | ⟨c1, cs⟩ := cs
      · cases hl
      obtain rfl : cs = [] := by
        obtain _ | ⟨c4, cs⟩ := cs
        · rfl
        · cases hl
      obtain ⟨m0, y0, e0⟩ := hf 0 _ c0 rfl rfl
      obtain ⟨m1, y1, e1⟩ := hf 1 _ c1 rfl rfl
      obtain ⟨x0, rfl, hx0⟩ := field_nat Try.underlying75 (.inr (.inl ⟨rfl, rfl⟩)) e0
      obtain ⟨x1, rfl, hx1⟩ := field_nat Try.underlying75 (.inr (.inl ⟨rfl, rfl⟩)) e1
      have q0 := hcell 0 (by decide)
      have q1 := hcell 1 (by decide)
      rw [add_plain] at q0 q1
      exact ⟨⟨x0, x1⟩, ⟨hx0, hx1⟩, q0, q1⟩
    obtain ⟨l, hl, hq⟩ := list_of len hQ
    refine ⟨l, ⟨_, cap, by rw [hl], by rw [hl]; exact hlc, fun hp => ?_⟩, fun p hp => ?_, by rw [hl]; unfold maxLen at hcm; omega⟩
    · exact ⟨g, o, rfl, fun i p hip => (hq i p hip).2⟩
    · obtain ⟨i, hi⟩ := List.getElem?_of_mem hp
      exact (hq i p hi).1
theorem nats_u16 : ∀ (zs : List Int), (∀ z ∈ zs, (Lit.int .u16 z).wf = true) → ∃ xs : List Nat, nats xs = zs ∧ ∀ x ∈ xs, x < 65536
  | [], _ => ⟨[], rfl, by simp⟩
  | z :: zs, h => by
    obtain ⟨xs, h1, h2⟩ := nats_u16 zs (fun y hy => h y (by simp [hy]))
    obtain ⟨x, rfl, hx⟩ := nat_of_wf (m := 65536) (.inr (.inl ⟨rfl, rfl⟩)) (h z (by simp))
    refine ⟨x :: xs, by rw [← h1]; rfl, fun y hy => ?_⟩
    rcases List.mem_cons.1 hy with rfl | hy
    · exact hx
    · exact h2 y hy
end Go.Proofs.Ytefcimkopgcagaa
