/- The cells of a struct of fields of one cell, opened. Conditions: as it says. -/
import Derived.Test.YtglgmhdajmncjaaLawR
set_option linter.unusedVariables false
namespace Go.Proofs.Ytglgmhdajmncjaa
open Go.Joins Go.ChangeShapes Go.WideShapes Go.RowKit Go.Deep

section
variable {H : Type} {enc : TypeId × Value → H} {P : Program} {w : World} {base : Nat} {spare : Nat → Bool} {held : Bool}
/-- The cells of a struct of fields of one cell. -/
theorem open_cells {n : Nat} {e : TypeId} {fs : Array Field} {cs : List Value} {y : DataW H × List MemPlace} (he : P.underlying e = some (.struct fs)) (hone : oneCellFields P fs = true) (hC : P.cellsOf e = fs.size)
    (h : DataW.trod enc P w base spare held n e cs = some y) : cs.length = fs.size ∧ ∀ (j : Nat) (f : Field) (x : Value), fs[j]? = some f → cs[j]? = some x → ∃ (m : Nat) (z : DataW H × List MemPlace), DataW.trod enc P w base spare held m f.type [x] = some z := by
  obtain ⟨xs, m', _, _, hlen, hxl, hf⟩ := DataW.trod_struct he h
  refine ⟨hlen.trans hC, fun j f x hj hx => ?_⟩
  obtain ⟨o, k1⟩ := hone_of hone j f hj
  have h1 := hf j f hj
  rw [o, k1] at h1
  obtain ⟨hjl, hxe⟩ := List.getElem?_eq_some_iff.1 hx
  have e1 : (cs.drop j).take 1 = [x] := by
    rw [List.drop_eq_getElem_cons hjl, hxe]
    rfl
  rw [e1] at h1
  have hjx : j < xs.length := by rw [hxl]; exact (Array.getElem?_eq_some_iff.1 hj).1
  rw [List.getElem?_eq_getElem hjx] at h1
  exact ⟨m', _, h1⟩
end
end Go.Proofs.Ytglgmhdajmncjaa
