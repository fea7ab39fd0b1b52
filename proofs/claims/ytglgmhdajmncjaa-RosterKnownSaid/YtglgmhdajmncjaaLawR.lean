/- Arguments that are rows of structs of one-cell fields, opened. Conditions: as each says. -/
import Derived.Test.YtglgmhdajmncjaaLaw
set_option linter.unusedVariables false
namespace Go.Proofs.Ytglgmhdajmncjaa
open Go.Joins Go.ChangeShapes Go.WideShapes Go.RowKit Go.Deep

section
variable {H : Type} {enc : TypeId × Value → H} {P : Program} {w : World} {base : Nat} {spare : Nat → Bool} {held : Bool}
/-- A row of structs of fields of one cell. -/
theorem open_rows {n : Nat} {t e : TypeId} {fs : Array Field} {c : Value} {y : DataW H × List MemPlace} (ht : P.underlying t = some (.slice e)) (he : P.underlying e = some (.struct fs)) (hone : oneCellFields P fs = true) (hC : P.cellsOf e = fs.size)
    (h : DataW.trod enc P w base spare held n t [c] = some y) :
    c = .slice none 0 0 ∨ ∃ (a : Addr) (len cap : Nat), c = .slice (some a) len cap ∧ len ≤ cap ∧ cap ≤ maxLen ∧ ∀ i, i < len → ∃ cs : List Value, cs.length = fs.size ∧ (∀ j, j < fs.size → w.cell? (a.add (i * fs.size + j)) = cs[j]?) ∧
      ∀ (j : Nat) (f : Field) (x : Value), fs[j]? = some f → cs[j]? = some x → ∃ (m : Nat) (z : DataW H × List MemPlace), DataW.trod enc P w base spare held m f.type [x] = some z := by
  rcases open_slice ht h with ⟨hcs, _⟩ | ⟨a, len, cap, m, k, D, Pl, hcs, _, hl, hm, hmm, _, hi⟩
  · injection hcs with hcs
    exact .inl hcs
  · injection hcs with hcs
    refine .inr ⟨a, len, cap, hcs, hl, hm, fun i him => ?_⟩
    obtain ⟨cs, hc, hT⟩ := hi i (by rw [hmm]; split <;> omega)
    rw [hC] at hc
    obtain ⟨xs, m', _, _, hlen, hxl, hf⟩ := DataW.trod_struct he hT
    obtain ⟨_, hcl, hat⟩ := World.cells?_some hc
    refine ⟨cs, hcl, fun j hj => ?_, fun j f x hj hx => ?_⟩
    · rw [← Go.Deep.add_add]
      exact hat j hj
    · obtain ⟨o, k1⟩ := hone_of hone j f hj
      have h1 := hf j f hj
      rw [o, k1] at h1
      obtain ⟨hjl, hxe⟩ := List.getElem?_eq_some_iff.1 hx
      have e1 : (cs.drop j).take 1 = [x] := by
        rw [List.drop_eq_getElem_cons hjl, hxe]
        rfl
      rw [e1] at h1
      have hjx : j < xs.length := by rw [hxl]; exact (Array.getElem?_eq_some_iff.1 hj).1
      rw [List.getElem?_eq_getElem hjx] at h1
      exact ⟨m', _, h1⟩
end
theorem list_of {α : Type} {Q : Nat → α → Prop} : ∀ (n : Nat), (∀ i, i < n → ∃ a, Q i a) → ∃ l : List α, l.length = n ∧ ∀ i a, l[i]? = some a → Q i a
  | 0, _ => ⟨[], rfl, fun i a h => by simp at h⟩
  | n + 1, h => by
    obtain ⟨l, h1, h2⟩ := list_of n (fun i hi => h i (by omega))
    obtain ⟨a, ha⟩ := h n (by omega)
    refine ⟨l ++ [a], by simp [h1], fun i b hb => ?_⟩
    by_cases hi : i < l.length
    · rw [List.getElem?_append_left hi] at hb
      exact h2 i b hb
    · rw [List.getElem?_append_right (by omega)] at hb
      have h0 : i - l.length = 0 := by
        rcases Nat.eq_zero_or_pos (i - l.length) with e | e
        · exact e
        · rw [List.getElem?_eq_none (by simp; omega)] at hb; cases hb
      rw [h0] at hb
      simp at hb
      subst hb
      rw [show i = n by omega]
      exact ha
end Go.Proofs.Ytglgmhdajmncjaa
