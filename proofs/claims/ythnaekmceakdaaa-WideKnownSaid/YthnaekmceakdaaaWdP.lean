/- Circles of numbers, plainly. Conditions: as each says. -/
import Derived.Test.YthnaekmceakdaaaRows
import Derived.WalkKit
set_option linter.unusedVariables false
namespace Go.Proofs.Ythnaekmceakdaaa
open Go Go.RowKit

/-- So many numbers has a circle, one of none among them. -/
def Cir (C : Nat) : Prop := ∃ d, d ≤ 32 ∧ C = 2 ^ d
theorem Cir.pos {C : Nat} (h : Cir C) : 0 < C := by
  obtain ⟨d, _, rfl⟩ := h
  exact Nat.pow_pos (by decide)
theorem Cir.le {C : Nat} (h : Cir C) : C ≤ 4294967296 := by
  obtain ⟨d, hd, rfl⟩ := h
  exact Nat.le_trans (Nat.pow_le_pow_right (n := 2) (by decide) hd) (by decide)
theorem Cir.whole {C : Nat} (h : Cir C) : ∃ q, 18446744073709551616 = C * q := by
  obtain ⟨d, hd, rfl⟩ := h
  exact ⟨2 ^ (64 - d), by rw [← Nat.pow_add, show d + (64 - d) = 64 by omega]⟩
theorem Cir.even {C : Nat} (h : Cir C) (h1 : 1 < C) : C = 2 * (C / 2) := by
  obtain ⟨d, hd, rfl⟩ := h
  obtain _ | d := d
  · simp at h1
  · rw [Nat.pow_succ]; omega
theorem wrap_u64_is (n : Nat) (h : n < 18446744073709551616) : IntKind.u64.wrap (n : Int) = n := by
  rw [IntKind.wrap_u64]
  omega
theorem cut_bits {C : Nat} (h : Cir C) (z : Nat) (hz : z < 18446744073709551616) : bits .and .u64 (z : Int) ((C - 1 : Nat) : Int) = ((z % C : Nat) : Int) := by
  have h1 := h.le
  obtain ⟨d, hd, rfl⟩ := h
  rw [u64_and_nat _ _ hz (by omega), Nat.and_two_pow_sub_one_eq_mod]
/-- How far it is, round the circle. -/
def stp (C f t : Nat) : Nat := (t + (18446744073709551616 - f)) % C
theorem stp_eq {C f t : Nat} (h : Cir C) (hf : f < 18446744073709551616) : (IntKind.u64.wrap ((t : Int) - f)).toNat % C = stp C f t := by
  obtain ⟨q, hq⟩ := h.whole
  have hp := h.pos
  rw [IntKind.wrap_u64]
  unfold stp
  have e : (((t : Int) - f) % 18446744073709551616).toNat = (t + (18446744073709551616 - f)) % 18446744073709551616 := by omega
  rw [e]
  exact Nat.mod_mod_of_dvd _ ⟨q, hq⟩
theorem wrap_u64_range (z : Int) : ∃ n : Nat, IntKind.u64.wrap z = (n : Int) ∧ n < 18446744073709551616 := by
  rw [IntKind.wrap_u64]
  exact ⟨(z % 18446744073709551616).toNat, by omega, by omega⟩
theorem stp_lt {C : Nat} (h : Cir C) (f t : Nat) : stp C f t < C := Nat.mod_lt _ h.pos
end Go.Proofs.Ythnaekmceakdaaa
