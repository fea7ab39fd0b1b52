/- The reference of layer 8: Cut, Next, Between, Ahead. Conditions: as each says. -/
import Derived.Test.YthnaekmceakdaaaWdD
set_option linter.unusedVariables false
namespace Go.Proofs.Ythnaekmceakdaaa
open Go.RowKit

theorem Dig.of {z : Int} (h : 1 ≤ z ∧ z ≤ 32) : Dig z.toNat (cirOf z) := ⟨by omega, by unfold cirOf; rw [if_pos h]⟩
theorem cirOf_one {z : Int} (h : 1 ≤ z ∧ z ≤ 32) : 1 < cirOf z := by
  unfold cirOf
  rw [if_pos h]
  exact Nat.one_lt_two_pow (by omega)
theorem cirOf_off {z : Int} (h : ¬ (1 ≤ z ∧ z ≤ 32)) : cirOf z = 1 := by unfold cirOf; rw [if_neg h]
theorem stp_mods {C a b : Nat} (h : Cir C) (ha : a < 18446744073709551616) : (b % C + C - a % C) % C = stp C a b := by
  obtain ⟨q, hq⟩ := h.whole
  have hp := h.pos
  obtain ⟨_, ra, ka, rfl, hra, rfl⟩ := mod_parts C a
  obtain ⟨_, rb, kb, rfl, hrb, rfl⟩ := mod_parts C b
  have hra2 : ra < C := by rw [hra]; exact Nat.mod_lt _ hp
  have hrb2 : rb < C := by rw [hrb]; exact Nat.mod_lt _ hp
  rw [Nat.mul_add_mod, Nat.mul_add_mod, Nat.mod_eq_of_lt hra2, Nat.mod_eq_of_lt hrb2]
  have hk : ka < q := by
    rcases Nat.lt_or_ge ka q with h | h
    · exact h
    · have := Nat.mul_le_mul_left C h
      omega
  obtain ⟨j, rfl⟩ : ∃ j, q = ka + 1 + j := ⟨q - ka - 1, by omega⟩
  rw [Nat.mul_add, Nat.mul_add, Nat.mul_one] at hq
  unfold stp
  rw [show C * kb + rb + (18446744073709551616 - (C * ka + ra)) = (rb + C - ra) + C * (kb + j) by rw [Nat.mul_add]; omega, Nat.add_mul_mod_self_left]

set_option maxHeartbeats 1000000 in
theorem rcut_is (d C top x : Nat) (s : Bool) (w : World) (hd : Dig d C) (hx : x < 18446744073709551616) :
    Calls Try.prog 14 #[rxV d top s, .int .u64 (x : Int)] w (Says (.int .u32 ((x % C : Nat) : Int)) w) := by
  have HR := Lib.hid (fun w => rcircle_is d C w (by have := hd.1; omega) hd.2)
  have hle := hd.cir.le
  have hpos := hd.cir.pos
  have hm := Nat.mod_lt x hpos
  have e1 := emod_nat x C
  have hd1 := hd.1
  clear hd
  generalize x % C = r at *
  go_enter Try.func14, Try.ntmps14
  go_wp2_with fail
  refine (HR.out _).mono ?_
  rintro e w1 ⟨rfl, rfl⟩
  have hr : (r : Int) < 4294967296 := by omega
  go_wp2
  go_ret
  exact ⟨rfl, (Only.refl _ w).alloc _⟩

set_option maxRecDepth 100000 in
set_option maxHeartbeats 1000000 in
theorem rbetween_is (z : Int) (a b : Nat) (w : World) (ha : a < 4294967296) (hb : b < 4294967296) : Calls Try.prog 20 #[.int .i64 z, .int .u32 (a : Int), .int .u32 (b : Int)] w (Says (.int .u32 ((stp (cirOf z) a b : Nat) : Int)) w) := by
  by_cases hz : 1 ≤ z ∧ z ≤ 32
  · have hd := Dig.of hz
    have hst := stp_mods (b := b) hd.cir (show a < 18446744073709551616 by omega)
    have hle := hd.cir.le
    have hpos := hd.cir.pos
    have h1 := Nat.mod_lt a hpos
    have h2 := Nat.mod_lt b hpos
    rw [← hst]
    generalize cirOf z = C at *
    obtain ⟨d, rfl⟩ : ∃ d : Nat, z = (d : Int) := ⟨z.toNat, by omega⟩
    rw [Int.toNat_natCast] at hd
    obtain ⟨hz1, hz2⟩ := hz
    have HR := Lib.hid (fun w => rcircle_is d C w (by omega) hd.2)
    obtain ⟨x, hx⟩ : ∃ x, b % C + C - a % C = x := ⟨_, rfl⟩
    have h3 : x % C < C := Nat.mod_lt _ hpos
    have e1 := emod_nat a C
    have e2 := emod_nat b C
    have e3 := tmod_nat a C
    have e4 := tmod_nat b C
    have e5 := emod_nat x C
    have e6 := tmod_nat x C
    have e7 : IntKind.u64.wrap (((b % C : Nat) : Int) + C) = ((b % C + C : Nat) : Int) := wrap_add rfl (by omega)
    have e8 : IntKind.u64.wrap (((b % C + C : Nat) : Int) - ((a % C : Nat) : Int)) = (x : Int) := wrap_sub (by omega) (by omega)
    rw [hx]
    clear hst hd hx
    generalize x % C = r at *
    generalize b % C + C = u at *
    generalize a % C = a1 at *
    generalize b % C = b1 at *
    have h4 : r < 4294967296 := by omega
    have H4 := Lib.hid h4
    clear h4 h3 hle
    go_enter Try.func20, Try.ntmps20
    go_wp2_with fail
    refine (HR.out _).mono ?_
    rintro e w1 ⟨rfl, rfl⟩
    go_wp2
    have h4 : (r : Int) < 4294967296 := by have := H4.out; omega
    have h5 : IntKind.u32.wrap (r : Int) = (r : Int) := by rw [IntKind.wrap_u32]; omega
    have h6 : (C : Int) ≠ 0 := by omega
    go_quiet (fail)
    go_wp2
    go_ret
    exact ⟨rfl, (Only.refl _ _).drewN _⟩
  · rw [cirOf_off hz, show stp 1 a b = 0 by unfold stp; omega]
    by_cases h1 : z < 1
    · go_enter Try.func20, Try.ntmps20
      go_wp2
      go_ret
      exact ⟨rfl, Only.refl _ _⟩
    · have h2 : 32 < z := by omega
      go_enter Try.func20, Try.ntmps20
      go_wp2
      go_ret
      exact ⟨rfl, Only.refl _ _⟩

set_option maxHeartbeats 1000000 in
theorem rahead_is (z : Int) (a b : Nat) (w : World) (ha : a < 4294967296) (hb : b < 4294967296) : Calls Try.prog 18 #[.int .i64 z, .int .u32 (a : Int), .int .u32 (b : Int)] w (Says (.bool (aheadB z a b)) w) := by
  have HB := Lib.hid (fun w => rbetween_is z b a w hb ha)
  have hst := stp_lt (cirOf_cir z) b a
  have hle := (cirOf_cir z).le
  unfold aheadB
  by_cases hz : 1 ≤ z ∧ z ≤ 32
  · have hd := Dig.of hz
    generalize stp (cirOf z) b a = n at *
    generalize cirOf z = C at *
    obtain ⟨d, rfl⟩ : ∃ d : Nat, z = (d : Int) := ⟨z.toNat, by omega⟩
    rw [Int.toNat_natCast] at hd
    obtain ⟨hz1, hz2⟩ := hz
    have HR := Lib.hid (fun w => rcircle_is d C w (by omega) hd.2)
    obtain ⟨r, hr⟩ : ∃ r, decide (0 < n ∧ n < C / 2) = r := ⟨_, rfl⟩
    have HRR := Lib.hid hr
    rw [hr]
    clear hd hr
    by_cases hn : 0 < n
    · go_enter Try.func18, Try.ntmps18
      go_wp2_with fail
      refine (HB.out _).mono ?_
      rintro e w1 ⟨rfl, ho⟩
      have HO := Lib.hid ho
      clear ho
      go_wp2_with fail
      refine (HR.out _).mono ?_
      rintro e w2 ⟨rfl, rfl⟩
      go_wp2
      go_ret
      exact ⟨by rw [← HRR.out]; simp [hn]; omega, HO.out⟩
    · obtain rfl : n = 0 := by omega
      clear hn
      go_enter Try.func18, Try.ntmps18
      go_wp2_with fail
      refine (HB.out _).mono ?_
      rintro e w1 ⟨rfl, ho⟩
      have HO := Lib.hid ho
      clear ho
      go_wp2
      go_ret
      exact ⟨by rw [← HRR.out]; rfl, HO.out⟩
  · have h1 := cirOf_off hz
    rw [h1] at hst ⊢
    have h0 : stp 1 b a = 0 := by omega
    have HH : Hid (∀ w, Calls Try.prog 20 #[.int .i64 z, .int .u32 (b : Int), .int .u32 (a : Int)] w (Says (.int .u32 0) w)) := by
      have := HB.out
      rw [h1, h0] at this
      exact Lib.hid this
    rw [h0]
    clear h0 hst h1 HB hz
    go_enter Try.func18, Try.ntmps18
    go_wp2_with fail
    refine (HH.out _).mono ?_
    rintro e w1 ⟨rfl, ho⟩
    have HO := Lib.hid ho
    clear ho
    go_wp2
    go_ret
    exact ⟨rfl, HO.out⟩
end Go.Proofs.Ythnaekmceakdaaa
