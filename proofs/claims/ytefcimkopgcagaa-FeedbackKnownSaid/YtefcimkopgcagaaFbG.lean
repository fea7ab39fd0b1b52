/- OfRate, the program's and the reference's. Conditions: as each says. -/
import Derived.Test.YtefcimkopgcagaaFbGr
import Derived.Test.YtefcimkopgcagaaFbF
set_option linter.unusedVariables false
namespace Go.Proofs.Ytefcimkopgcagaa
open Go.RowKit

/-- How many digits of a rate are left out. -/
def rexp (x : Nat) : Nat := Lib.bitLen x - 18
theorem len_lt (x k : Nat) (h : x < 2 ^ k) : Lib.bitLen x ≤ k := Lib.bitLenAux_le 64 x k h
theorem len_ge (x k : Nat) (h : 2 ^ k ≤ x) (hx : x < 18446744073709551616) : k + 1 ≤ Lib.bitLen x := by
  rw [Lib.bitLen_shift k x h hx]
  have h1 : 1 ≤ x / 2 ^ k := Nat.div_pos h (Nat.two_pow_pos k)
  have h2 : x / 2 ^ k < 18446744073709551616 := Nat.lt_of_le_of_lt (Nat.div_le_self _ _) hx
  have h3 := Lib.bitLen_shift 0 (x / 2 ^ k) (by omega) h2
  have h4 : Lib.bitLen (x / 2 ^ k) ≠ 0 := by
    intro e
    generalize x / 2 ^ k = q at *
    unfold Lib.bitLen Lib.bitLenAux at e
    rw [if_neg (by omega)] at e
    omega
  omega
theorem rexp_is (x e : Nat) (hx : x < 18446744073709551616) (h1 : x / 2 ^ e < 262144) (h2 : e = 0 ∨ 131072 ≤ x / 2 ^ e) : e = rexp x := by
  unfold rexp
  rcases h2 with rfl | h2
  · have := len_lt x 18 (by simpa using h1)
    omega
  · have hpe : 2 ^ e ≤ x := by
      have := Nat.div_mul_le_self x (2 ^ e)
      have h3 : 1 * 2 ^ e ≤ x / 2 ^ e * 2 ^ e := Nat.mul_le_mul_right _ (by omega)
      omega
    rw [Lib.bitLen_shift e x hpe hx]
    have h4 := len_lt (x / 2 ^ e) 18 h1
    have h5 := len_ge (x / 2 ^ e) 17 h2 (Nat.lt_of_le_of_lt (Nat.div_le_self _ _) hx)
    omega
theorem rexp_le (x : Nat) (hx : x < 18446744073709551616) : rexp x ≤ 46 := by
  have := len_lt x 64 hx
  unfold rexp
  omega
theorem rexp_lt (x : Nat) (hx : x < 18446744073709551616) : x / 2 ^ rexp x < 262144 := by
  have hq : x / 2 ^ rexp x < 18446744073709551616 := Nat.lt_of_le_of_lt (Nat.div_le_self _ _) hx
  by_cases h : 262144 ≤ x / 2 ^ rexp x
  · exfalso
    have hpe : 2 ^ rexp x ≤ x := by
      have := Nat.div_mul_le_self x (2 ^ rexp x)
      have h3 : 1 * 2 ^ rexp x ≤ x / 2 ^ rexp x * 2 ^ rexp x := Nat.mul_le_mul_right _ (by omega)
      omega
    have h1 := Lib.bitLen_shift (rexp x) x hpe hx
    have h2 := len_ge (x / 2 ^ rexp x) 18 h hq
    unfold rexp at h1 h2
    omega
  · omega

set_option maxRecDepth 100000 in
set_option maxHeartbeats 2000000 in
theorem ofrate_is (x : Nat) (w : World) (hx : x < 18446744073709551616) :
    Calls Try.prog 28 #[.int .u64 x] w fun e w' => e = .returned (.tuple #[.int .u8 (rexp x : Nat), .int .u32 ((x / 2 ^ rexp x : Nat) : Int)]) ∧ Only (fun _ => False) w w' := by
  have HL := Lib.hid (len64_is x w hx)
  obtain ⟨b, hb⟩ : ∃ b, Lib.bitLen x = b := ⟨_, rfl⟩
  obtain ⟨e, he⟩ : ∃ e, rexp x = e := ⟨_, rfl⟩
  have hbe : e = b - 18 := by rw [← he, ← hb]; rfl
  have hle : e ≤ 46 := by rw [← he]; exact rexp_le x hx
  have hlt : x / 2 ^ e < 262144 := by rw [← he]; exact rexp_lt x hx
  rw [hb] at HL
  rw [he]
  obtain ⟨q, hq⟩ : ∃ q, x / 2 ^ e = q := ⟨_, rfl⟩
  have hqi : (x : Int) / 2 ^ e = (q : Int) := by rw [← hq]; simp
  have hb64 : b ≤ 64 := by rw [← hb]; exact len_lt x 64 hx
  rw [hq] at hlt ⊢
  have wq : IntKind.u32.wrap (q : Int) = (q : Int) := by rw [IntKind.wrap_u32]; omega
  have we : IntKind.u8.wrap (e : Int) = (e : Int) := by rw [IntKind.wrap_u8]; omega
  clear hb he hq
  go_enter Try.func28, Try.ntmps28
  go_wp2_with fail
  refine HL.out.mono ?_
  rintro e1 w1 ⟨rfl, rfl⟩
  have hm : max 0 ((b : Int) - 18) = (e : Int) := by omega
  go_upto_region 2 with (fail)
  have HBE := Lib.hid hbe.symm
  have HFI := Lib.hid (show (x : Int) / 2 ^ (b - 18) % 4294967296 = (q : Int) from by rw [← hbe, hqi]; omega)
  clear hm hbe
  go_quiet (fail)
  go_wp2
  go_ret2
  refine ⟨?_, only_drewN _ _⟩
  show Ending.returned (Value.tuple #[.int .u8 ((b - 18 : Nat) : Int), .int .u32 ((x : Int) / 2 ^ (b - 18) % 4294967296)]) = _
  rw [HFI.out, HBE.out]

set_option maxRecDepth 100000 in
set_option maxHeartbeats 2000000 in
theorem rofrate_is (x : Nat) (w : World) (hx : x < 18446744073709551616) :
    Calls Try.prog 29 #[.int .u64 x] w fun e w' => e = .returned (.tuple #[.int .u8 (rexp x : Nat), .int .u32 ((x / 2 ^ rexp x : Nat) : Int)]) ∧ Only (fun _ => False) w w' := by
  have HRX := Lib.hid (fun e h1 h2 => rexp_is x e hx h1 h2)
  go_enter Try.func29, Try.ntmps29
  go_wp2
  go_loopw [0, 4] (fun s0 s4 wr => ∃ e y : Nat, s0 = .int .u64 y ∧ s4 = .int .u8 e ∧ x / 2 ^ e = y ∧ (e = 0 ∨ 131072 ≤ y) ∧ e ≤ 64 ∧ y < 18446744073709551616 ∧ wr = w) (fun s0 _ _ => (intOf s0).toNat)
  case atStart => exact ⟨0, x, rfl, rfl, by simp, .inl rfl, by omega, hx, rfl⟩
  case round =>
    obtain ⟨e, y, rfl, rfl, hy, h2, he, hyl, rfl⟩ := hrel
    by_cases h : 262144 ≤ y
    · have hI : (262144 : Int) ≤ (y : Int) := by omega
      obtain ⟨z, hz⟩ : ∃ z, y / 2 = z := ⟨_, rfl⟩
      have hq2 : IntKind.u64.wrap ((y : Int).tdiv 2) = (z : Int) := by rw [Int.tdiv_eq_ediv_of_nonneg (by omega), IntKind.wrap_u64]; omega
      have HY2 := Lib.hid (show x / 2 ^ (e + 1) = z from by rw [Nat.pow_succ, ← Nat.div_div_eq_div_mul, hy, hz])
      have he46 : e ≤ 46 := by
        have hpe : 2 ^ e ≤ x := by
          have := Nat.div_mul_le_self x (2 ^ e)
          have h3 : 1 * 2 ^ e ≤ x / 2 ^ e * 2 ^ e := Nat.mul_le_mul_right _ (by omega)
          omega
        have h4 := len_lt x 64 hx
        have h5 := Lib.bitLen_shift e x hpe hx
        rw [hy] at h5
        have h6 := len_ge y 18 h hyl
        omega
      clear hy h2
      go_wp2
      exact ⟨⟨e + 1, z, by go_num, by go_num, HY2.out, .inr (by omega), by omega, by omega, by trivial⟩, by simp [intOf]; omega⟩
    · have hI : ¬ (262144 : Int) ≤ (y : Int) := by omega
      have hr := HRX.out e (by omega) (by omega)
      have HR := Lib.hid hr
      have HY := Lib.hid hy
      clear hr hy
      have wq : IntKind.u32.wrap (y : Int) = (y : Int) := by rw [IntKind.wrap_u32]; omega
      have HF := Lib.hid (show Ending.returned (Value.tuple #[.int .u8 (e : Nat), .int .u32 (y : Nat)]) = .returned (.tuple #[.int .u8 (rexp x : Nat), .int .u32 ((x / 2 ^ rexp x : Nat) : Int)]) from by rw [← HR.out, HY.out])
      go_wp2
      go_ret2
      exact ⟨HF.out, Only.refl _ _⟩
end Go.Proofs.Ytefcimkopgcagaa
