/- takeRate. Conditions: as each says. -/
import Derived.Test.YtefcimkopgcagaaFcZ
set_option linter.unusedVariables false
set_option linter.unusedSimpArgs false
namespace Go.Proofs.Ytefcimkopgcagaa
open Go.RowKit

/-- What a reader at s gives when n digits are asked of it, and where it stands then. -/
def tk (bs : List Nat) (n : Nat) (s : Nat × Int) : Nat × Nat × Int :=
  if asked s.2 n 64 (8 * bs.length - s.1) 1 = 0 then (num bs s.1 n, s.1 + n, 0) else (0, s.1, asked s.2 n 64 (8 * bs.length - s.1) 1)
theorem tk_lt (bs : List Nat) (n : Nat) (s : Nat × Int) : (tk bs n s).1 < 2 ^ n := by
  unfold tk
  split
  · exact num_lt _ _ _
  · exact Nat.two_pow_pos n
theorem tk_is (b p n : Nat) (bs : List Nat) (f : Int) (v : Value) (w : World) (h : Rdr w b bs p f v) (hn : n ≤ 64) :
    Calls Try.prog 57 #[.pointer (some ⟨b, 0, none⟩), .int .i64 n] w (Took w b bs (tk bs n (p, f)).2.1 (tk bs n (p, f)).2.2 v ((tk bs n (p, f)).1 : Nat)) := by
  unfold tk
  by_cases ha : asked f n 64 (8 * bs.length - p) 1 = 0
  · rw [if_pos ha]
    obtain ⟨rfl, -, -, hle⟩ := asked_ok ha
    have hp := h.place
    exact take_ok b p n bs v w h hn (by omega)
  · rw [if_neg ha]
    exact take_fail b p bs f n _ v w h rfl ha
/-- Numbers of 32 digits taken one after another. -/
def tkS (bs : List Nat) : Nat → Nat × Int → List Nat × Nat × Int
  | 0, s => ([], s.1, s.2)
  | n + 1, s => ((tkS bs n s).1 ++ [(tk bs 32 (tkS bs n s).2).1], (tk bs 32 (tkS bs n s).2).2)
theorem tkS_length (bs : List Nat) (s : Nat × Int) : ∀ n, (tkS bs n s).1.length = n
  | 0 => rfl
  | n + 1 => by simp [tkS, tkS_length bs s n]
end Go.Proofs.Ytefcimkopgcagaa
