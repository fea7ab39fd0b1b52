/- Arguments that are rows of packets, opened. Conditions: as each says. -/
import Derived.Test.YtdhkcffjhcoloaaLaw
import Derived.Test.YtdhkcffjhcoloaaRcQ
set_option linter.unusedVariables false
namespace Go.Proofs.Ytdhkcffjhcoloaa
open Go.Joins Go.ChangeShapes Go.WideShapes Go.RowKit Go.Deep

section
variable {H : Type} {enc : TypeId × Value → H} {P : Program} {w : World} {base : Nat} {spare : Nat → Bool} {held : Bool}
/-- A row of structs of fields of one cell. -/
theorem open_rows {n : Nat} {t e : TypeId} {fs : Array Field} {c : Value} {y : DataW H × List MemPlace} (ht : P.underlying t = some (.slice e)) (he : P.underlying e = some (.struct fs)) (hone : oneCellFields P fs = true) (hC : P.cellsOf e = fs.size)
    (h : DataW.trod enc P w base spare held n t [c] = some y) :
    c = .slice none 0 0 ∨ ∃ (a : Addr) (len cap : Nat), c = .slice (some a) len cap ∧ len ≤ cap ∧ cap ≤ maxLen ∧ ∀ i, i < len → ∃ cs : List Value, cs.length = fs.size ∧ (∀ j, j < fs.size → w.cell? (a.add (i * fs.size + j)) = cs[j]?) ∧
      ∀ (j : Nat) (f : Field) (x : Value), fs[j]? = some f → cs[j]? = some x → ∃ (m : Nat) (z : DataW H × List MemPlace), DataW.trod enc P w base spare held m f.type [x] = some z := by
  rcases open_slice ht h with ⟨hcs, _⟩ | ⟨a, len, cap, m, k, D, Pl, hcs, _, hl, hm, hmm, _, hi⟩
  · injection hcs with hcs
    exact .inl hcs
  · injection hcs with hcs
    refine .inr ⟨a, len, cap, hcs, hl, hm, fun i him => ?_⟩
    obtain ⟨cs, hc, hT⟩ := hi i (by rw [hmm]; split <;> omega)
    rw [hC] at hc
    obtain ⟨xs, m', _, _, hlen, hxl, hf⟩ := DataW.trod_struct he hT
    obtain ⟨_, hcl, hat⟩ := World.cells?_some hc
    refine ⟨cs, hcl, fun j hj => ?_, fun j f x hj hx => ?_⟩
    · rw [← Go.Deep.add_add]
      exact hat j hj
    · obtain ⟨o, k1⟩ := hone_of hone j f hj
      have h1 := hf j f hj
      rw [o, k1] at h1
      obtain ⟨hjl, hxe⟩ := List.getElem?_eq_some_iff.1 hx
      have e1 : (cs.drop j).take 1 = [x] := by
        rw [List.drop_eq_getElem_cons hjl, hxe]
        rfl
      rw [e1] at h1
      have hjx : j < xs.length := by rw [hxl]; exact (Array.getElem?_eq_some_iff.1 hj).1
      rw [List.getElem?_eq_getElem hjx] at h1
      exact ⟨m', _, h1⟩
end
theorem list_of {α : Type} {Q : Nat → α → Prop} : ∀ (n : Nat), (∀ i, i < n → ∃ a, Q i a) → ∃ l : List α, l.length = n ∧ ∀ i a, l[i]? = some a → Q i a
  | 0, _ => ⟨[], rfl, fun i a h => by simp at h⟩
  | n + 1, h => by
    obtain ⟨l, h1, h2⟩ := list_of n (fun i hi => h i (by omega))
    obtain ⟨a, ha⟩ := h n (by omega)
    refine ⟨l ++ [a], by simp [h1], fun i b hb => ?_⟩
    by_cases hi : i < l.length
    · rw [List.getElem?_append_left hi] at hb
      exact h2 i b hb
    · rw [List.getElem?_append_right (by omega)] at hb
      have h0 : i - l.length = 0 := by
        rcases Nat.eq_zero_or_pos (i - l.length) with e | e
        · exact e
        · rw [List.getElem?_eq_none (by simp; omega)] at hb; cases hb
      rw [h0] at hb
      simp at hb
      subst hb
      rw [show i = n by omega]
      exact ha
theorem open_pks {H : Type} {enc : TypeId × Value → H} {w : World} {base : Nat} {spare : Nat → Bool} {held : Bool} {n : Nat} {c : Value} {y : DataW H × List MemPlace} (h : DataW.trod enc Try.prog w base spare held n 22 [c] = some y) :
    ∃ l : List Pkt, RdP w c l ∧ (∀ p ∈ l, p.Fit) ∧ l.length ≤ 9223372036854775807 := by
  rcases open_rows Try.underlying22 Try.underlying36 (by kernel_rfl) (by kernel_rfl) h with rfl | ⟨⟨g, o, spot⟩, len, cap, rfl, hlc, hcm, hi⟩
  · exact ⟨[], ⟨none, 0, rfl, Nat.le_refl _, fun h => by simp at h⟩, by simp, by simp⟩
  · rcases Nat.eq_zero_or_pos len with hz | hpos
    · subst hz
      exact ⟨[], ⟨_, cap, rfl, hlc, fun h => by simp at h⟩, by simp, by simp⟩
    have hsp : spot = none := by
      obtain ⟨cs, hl, hcell, _⟩ := hi 0 hpos
      obtain _ | ⟨c0, cs⟩ := cs
      · cases hl
      have q0 := hcell 0 (by decide)
      simpa [Addr.add] using World.cell?_spot q0
    subst hsp
    have hQ : ∀ i, i < len → ∃ p : Pkt, p.Fit ∧ ∃ u, CellsAt w g o i p u ∧ Src w u p.body := by
      intro i hil
      obtain ⟨cs, hl, hcell, hf⟩ := hi i hil
      obtain _ | ⟨c0, cs⟩ := cs
      · cases hl
      obtain _ | ⟨c1, cs⟩ := cs
      · cases hl
      obtain _ | ⟨c2, cs⟩ := cs
      · cases hl
      obtain _ | ⟨c3, cs⟩ := cs
      · cases hl
      obtain rfl : cs = [] := by
        obtain _ | ⟨c4, cs⟩ := cs
        · rfl
        · cases hl
      obtain ⟨m0, y0, e0⟩ := hf 0 _ c0 rfl rfl
      obtain ⟨m1, y1, e1⟩ := hf 1 _ c1 rfl rfl
      obtain ⟨m2, y2, e2⟩ := hf 2 _ c2 rfl rfl
      obtain ⟨m3, y3, e3⟩ := hf 3 _ c3 rfl rfl
      obtain ⟨x0, rfl, hx0⟩ := field_nat Try.underlying5 (.inl ⟨rfl, rfl⟩) e0
      obtain ⟨x1, rfl, hx1⟩ := field_nat Try.underlying5 (.inl ⟨rfl, rfl⟩) e1
      obtain ⟨bs, hs, hb, _⟩ := field_bytes Try.underlying27 Try.underlying5 (by kernel_rfl) e2
      obtain ⟨x3, rfl, hx3⟩ := field_nat Try.underlying5 (.inl ⟨rfl, rfl⟩) e3
      have q0 := hcell 0 (by decide)
      have q1 := hcell 1 (by decide)
      have q2 := hcell 2 (by decide)
      have q3 := hcell 3 (by decide)
      rw [add_plain] at q0 q1 q2 q3
      exact ⟨⟨x0, x1, x3, bs⟩, ⟨hx0, hx1, hx3, hb⟩, c2, ⟨q0, q1, q2, q3⟩, hs⟩
    obtain ⟨l, hl, hq⟩ := list_of len hQ
    refine ⟨l, ⟨_, cap, by rw [hl], by rw [hl]; exact hlc, fun hp => ?_⟩, fun p hp => ?_, by rw [hl]; unfold maxLen at hcm; omega⟩
    · exact ⟨g, o, rfl, fun i p hip => by obtain ⟨_, u, h1, h2⟩ := hq i p hip; exact ⟨u, h1, h2⟩⟩
    · obtain ⟨i, hi⟩ := List.getElem?_of_mem hp
      exact (hq i p hi).1
end Go.Proofs.Ytdhkcffjhcoloaa
