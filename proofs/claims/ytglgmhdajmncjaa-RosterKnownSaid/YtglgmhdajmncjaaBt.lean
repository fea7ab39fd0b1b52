/- Bytes of a row, plainly. Conditions: none. -/
import Derived.WalkKit
set_option linter.unusedVariables false
namespace Go.Proofs.Ytglgmhdajmncjaa

def hasb (x m : Nat) : Bool := x / m % 2 == 1
/-- Byte i, or 0. -/
def bt (bs : List Nat) (i : Nat) : Nat := bs.getD i 0
theorem bt_get {bs : List Nat} {i : Nat} (h : i < bs.length) : bt bs i = bs[i] := by simp [bt, h]
theorem bt_lt {bs : List Nat} (hb : ∀ x ∈ bs, x < 256) (i : Nat) : bt bs i < 256 := by
  by_cases h : i < bs.length
  · rw [bt_get h]; exact hb _ (List.getElem_mem h)
  · simp only [bt, List.getD_eq_getElem?_getD]
    rw [List.getElem?_eq_none (by omega)]
    decide
end Go.Proofs.Ytglgmhdajmncjaa
