/- Arguments that are rows of orders, opened. Conditions: as it says. -/
import Derived.Test.YtefcimkopgcagaaLawF
import Derived.Test.YtefcimkopgcagaaFbGr
set_option linter.unusedVariables false
namespace Go.Proofs.Ytefcimkopgcagaa
open Go.Joins Go.ChangeShapes Go.WideShapes Go.RowKit Go.Deep

theorem open_ods {H : Type} {enc : TypeId × Value → H} {w : World} {base : Nat} {spare : Nat → Bool} {held : Bool} {n : Nat} {c : Value} {y : DataW H × List MemPlace} (h : DataW.trod enc Try.prog w base spare held n 24 [c] = some y) :
    ∃ l : List Od, RdO w c l ∧ (∀ x ∈ l, x.Fit) ∧ l.length ≤ 9223372036854775807 := by
  rcases open_rows Try.underlying24 Try.underlying85 (by kernel_rfl) (by kernel_rfl) h with rfl | ⟨⟨g, o, spot⟩, len, cap, rfl, hlc, hcm, hi⟩
  · exact ⟨[], RdO.nil w, by simp, by simp⟩
  · rcases Nat.eq_zero_or_pos len with hz | hpos
    · subst hz
      exact ⟨[], ⟨_, cap, rfl, hlc, fun h => by simp at h⟩, by simp, by simp⟩
    have hsp : spot = none := by
      obtain ⟨cs, hl, hcell, _⟩ := hi 0 hpos
      obtain _ | ⟨c0, cs⟩ := cs
      · cases hl
      have q0 := hcell 0 (by decide)
      simpa [Addr.add] using World.cell?_spot q0
    subst hsp
    have hQ : ∀ i, i < len → ∃ p : Od, p.Fit ∧ OCells w g o i p := by
      intro i hil
      obtain ⟨cs, hl, hcell, hf⟩ := hi i hil
      obtain _ | ⟨c0, cs⟩ := cs
      · cases hl
      obtain _ | ⟨c1, cs⟩ := cs
      · cases hl
      obtain rfl : cs = [] := by
        obtain _ | ⟨c4, cs⟩ := cs
        · rfl
        · cases hl
      obtain ⟨m0, y0, e0⟩ := hf 0 _ c0 rfl rfl
      obtain ⟨m1, y1, e1⟩ := hf 1 _ c1 rfl rfl
      obtain ⟨x0, rfl, hx0⟩ := field_nat Try.underlying22 (.inr (.inr (.inl ⟨rfl, rfl⟩))) e0
      obtain ⟨x1, rfl, hx1⟩ := field_nat Try.underlying5 (.inl ⟨rfl, rfl⟩) e1
      have q0 := hcell 0 (by decide)
      have q1 := hcell 1 (by decide)
      rw [add_plain] at q0 q1
      exact ⟨⟨x0, x1⟩, ⟨hx0, hx1⟩, q0, q1⟩
    obtain ⟨l, hl, hq⟩ := list_of len hQ
    refine ⟨l, ⟨_, cap, by rw [hl], by rw [hl]; exact hlc, fun hp => ?_⟩, fun p hp => ?_, by rw [hl]; unfold maxLen at hcm; omega⟩
    · exact ⟨g, o, rfl, fun i p hip => (hq i p hip).2⟩
    · obtain ⟨i, hi⟩ := List.getElem?_of_mem hp
      exact (hq i p hi).1
end Go.Proofs.Ytefcimkopgcagaa
