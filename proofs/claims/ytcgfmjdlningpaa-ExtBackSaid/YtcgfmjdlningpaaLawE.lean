/- Arguments that are rows of elements, opened. Conditions: as it says. -/
import Derived.Test.YtcgfmjdlningpaaLawR
import Derived.Test.YtcgfmjdlningpaaExA
set_option linter.unusedVariables false
namespace Go.Proofs.Ytcgfmjdlningpaa
open Go.Joins Go.ChangeShapes Go.WideShapes Go.RowKit Go.Deep

theorem open_els {H : Type} {enc : TypeId × Value → H} {w : World} {base : Nat} {spare : Nat → Bool} {held : Bool} {n : Nat} {c : Value} {y : DataW H × List MemPlace} (h : DataW.trod enc Try.prog w base spare held n 44 [c] = some y) :
    ∃ l : List El, RdE w c l ∧ (∀ x ∈ l, x.id < 256 ∧ ∀ y ∈ x.data, y < 256) ∧ l.length ≤ 9223372036854775807 ∧ ∀ x ∈ l, x.data.length ≤ 9223372036854775807 := by
  rcases open_rows Try.underlying44 Try.underlying50 (by kernel_rfl) (by kernel_rfl) h with rfl | ⟨⟨g, o, spot⟩, len, cap, rfl, hlc, hcm, hi⟩
  · exact ⟨[], ⟨none, 0, rfl, Nat.le_refl _, fun h => by simp at h⟩, by simp, by simp, by simp⟩
  · rcases Nat.eq_zero_or_pos len with hz | hpos
    · subst hz
      exact ⟨[], ⟨_, cap, rfl, hlc, fun h => by simp at h⟩, by simp, by simp, by simp⟩
    have hsp : spot = none := by
      obtain ⟨cs, hl, hcell, _⟩ := hi 0 hpos
      obtain _ | ⟨c0, cs⟩ := cs
      · cases hl
      have q0 := hcell 0 (by decide)
      simpa [Addr.add] using World.cell?_spot q0
    subst hsp
    have hQ : ∀ i, i < len → ∃ p : El, ((p.id < 256 ∧ ∀ y ∈ p.data, y < 256) ∧ p.data.length ≤ 9223372036854775807) ∧ ∃ u, ECells w g o i p u ∧ Src w u p.data := by
      intro i hil
      obtain ⟨cs, hl, hcell, hf⟩ := hi i hil
      obtain _ | ⟨c0, cs⟩ := cs
      · cases hl
      obtain _ | ⟨c1, cs⟩ := cs
      · cases hl
      obtain rfl : cs = [] := by
        obtain _ | ⟨c4, cs⟩ := cs
        · rfl
        · cases hl
      obtain ⟨m0, y0, e0⟩ := hf 0 _ c0 rfl rfl
      obtain ⟨m1, y1, e1⟩ := hf 1 _ c1 rfl rfl
      obtain ⟨x0, rfl, hx0⟩ := field_nat Try.underlying5 (.inl ⟨rfl, rfl⟩) e0
      obtain ⟨bs, hs, hb, hbl⟩ := field_bytes Try.underlying22 Try.underlying5 (by kernel_rfl) e1
      have q0 := hcell 0 (by decide)
      have q1 := hcell 1 (by decide)
      rw [add_plain] at q0 q1
      exact ⟨⟨x0, bs⟩, ⟨⟨hx0, hb⟩, hbl⟩, c1, ⟨q0, q1⟩, hs⟩
    obtain ⟨l, hl, hq⟩ := list_of len hQ
    refine ⟨l, ⟨_, cap, by rw [hl], by rw [hl]; exact hlc, fun hp => ?_⟩, fun p hp => ?_, by rw [hl]; unfold maxLen at hcm; omega, fun p hp => ?_⟩
    · exact ⟨g, o, rfl, fun i p hip => by obtain ⟨_, u, h1, h2⟩ := hq i p hip; exact ⟨u, h1, h2⟩⟩
    · obtain ⟨i, hi⟩ := List.getElem?_of_mem hp
      exact (hq i p hi).1.1
    · obtain ⟨i, hi⟩ := List.getElem?_of_mem hp
      exact (hq i p hi).1.2
end Go.Proofs.Ytcgfmjdlningpaa
