/- The reference of layer 8: Circle, Peek, Cut, Between, Ahead; that what it tells is what package wide tells. Conditions: as each says. -/
import Derived.Test.YthnaekmceakdaaaWdC
import Derived.IntWalk
set_option linter.unusedVariables false
namespace Go.Proofs.Ythnaekmceakdaaa
open Go.RowKit

theorem mod_uniq {C lo a b : Nat} (hm : a % C = b % C) (ha : lo ≤ a) (ha2 : a < lo + C) (hb : lo ≤ b) (hb2 : b < lo + C) : a = b := by
  rcases Nat.le_total a b with h | h
  · have h1 := Nat.sub_mod_eq_zero_of_mod_eq hm.symm
    rw [Nat.mod_eq_of_lt (by omega)] at h1
    omega
  · have h1 := Nat.sub_mod_eq_zero_of_mod_eq hm
    rw [Nat.mod_eq_of_lt (by omega)] at h1
    omega
theorem add_stp {C : Nat} (h : Cir C) (lo n : Nat) (hl : lo < 18446744073709551616) : (lo + stp C lo n) % C = n % C := by
  obtain ⟨q, hq⟩ := h.whole
  unfold stp
  rw [Nat.add_mod_mod, show lo + (n + (18446744073709551616 - lo)) = n + C * q by omega, Nat.add_mul_mod_self_left]
/-- What Peek tells has the number's digits, and lies in the circle's reach. -/
theorem peekN_mod {C top n : Nat} {s : Bool} (h : Cir C) (ht : top < 4611686018427387904) : peekN C top s n % C = n % C := by
  have := h.le
  exact add_stp h _ _ (by unfold lowest; split <;> omega)
theorem peekN_range {C top n : Nat} {s : Bool} (h : Cir C) : lowest C top s ≤ peekN C top s n ∧ peekN C top s n < lowest C top s + C := by
  have := stp_lt h (lowest C top s) n
  unfold peekN
  omega
theorem peekN_is {C top n v : Nat} {s : Bool} (h : Cir C) (ht : top < 4611686018427387904) (hm : v % C = n % C) (h1 : lowest C top s ≤ v) (h2 : v < lowest C top s + C) : v = peekN C top s n :=
  mod_uniq (hm.trans (peekN_mod h ht).symm) h1 h2 (peekN_range h).1 (peekN_range h).2

/-- A power of two is had by doubling. -/
theorem double_is (k : Nat) (h : k < 63) : IntKind.u64.wrap (2 * ((2 ^ k : Nat) : Int)) = ((2 ^ (k + 1) : Nat) : Int) := by
  have h1 := Nat.pow_lt_pow_right (a := 2) (by decide) h
  have e : (2 : Nat) ^ 63 = 9223372036854775808 := by decide
  rw [e] at h1
  rw [Nat.pow_succ, IntKind.wrap_u64]
  omega
set_option maxHeartbeats 400000 in
theorem rcircle_is (d C : Nat) (w : World) (hd : d ≤ 60) (hC : C = 2 ^ d) : Calls Try.prog 22 #[.int .i64 d] w fun e w' => e = .returned (.int .u64 (C : Int)) ∧ w = w' := by
  have HC := Lib.hid hC
  clear hC
  go_enter Try.func22, Try.ntmps22
  go_wp2
  go_loop [3, 4] (fun n i => ∃ k : Nat, k ≤ d ∧ i = .int .i64 k ∧ n = .int .u64 ((2 ^ k : Nat) : Int)) (fun _ i => d - (intOf i).toNat)
  case atStart => exact ⟨0, Nat.zero_le _, rfl, rfl⟩
  case round =>
    obtain ⟨k, hk, rfl, rfl⟩ := hrel
    by_cases hlt : k < d
    · have h2 := double_is k (by omega)
      obtain ⟨p2, hp2⟩ : ∃ p, 2 ^ (k + 1) = p := ⟨_, rfl⟩
      rw [hp2] at h2
      have HP2 := Lib.hid hp2
      generalize 2 ^ k = p at *
      clear hp2
      go_wp2
      go_round
      case rel => exact ⟨k + 1, by omega, by go_num, by rw [HP2.out]⟩
      case measure => simp [intOf]; omega
    · obtain rfl : d = k := by omega
      rw [← HC.out]
      go_wp2
      go_ret
      exact ⟨rfl, rfl⟩

/-- The reference's extender, as a struct. -/
abbrev rxV (d top : Nat) (s : Bool) : Value := .agg #[.int .i64 (d : Int), .int .u64 (top : Int), .bool s]
/-- Its digits, and its circle. -/
def Dig (d C : Nat) : Prop := d ≤ 32 ∧ C = 2 ^ d
theorem Dig.cir {d C : Nat} (h : Dig d C) : Cir C := ⟨d, h.1, h.2⟩
theorem mod_parts (C top : Nat) : ∃ base r k, top = base + r ∧ r = top % C ∧ base = C * k := ⟨C * (top / C), top % C, top / C, (Nat.div_add_mod top C).symm, rfl, rfl⟩
theorem tmod_nat (a b : Nat) : (a : Int).tmod b = ((a % b : Nat) : Int) := rfl
theorem emod_nat (a b : Nat) : (a : Int) % b = ((a % b : Nat) : Int) := rfl
theorem wrap_sub {a b c : Nat} (h : a = b + c) (ha : a < 18446744073709551616) : IntKind.u64.wrap ((a : Int) - (b : Int)) = (c : Int) := by rw [IntKind.wrap_u64]; omega
theorem wrap_sub_neg {a b c : Nat} (h : b = a + c) (hc : 0 < c) (hb : b < 18446744073709551616) : IntKind.u64.wrap ((a : Int) - (b : Int)) = ((18446744073709551616 - c : Nat) : Int) := by rw [IntKind.wrap_u64]; omega
theorem wrap_add {a b c : Nat} (h : c = a + b) (hc : c < 18446744073709551616) : IntKind.u64.wrap ((a : Int) + (b : Int)) = (c : Int) := by rw [IntKind.wrap_u64]; omega

set_option maxRecDepth 100000 in
set_option maxHeartbeats 1000000 in
theorem rpeek_none (d C n : Nat) (w : World) (hd : Dig d C) (hn : n < 4294967296) :
    Calls Try.prog 12 #[rxV d 0 false, .int .u32 (n : Int)] w (Says (.int .u64 ((peekN C 0 false n : Nat) : Int)) w) := by
  have hle := hd.cir.le
  have hpos := hd.cir.pos
  have hlow := Nat.mod_lt n hpos
  have HR := Lib.hid (fun w => rcircle_is d C w (by have := hd.1; omega) hd.2)
  have hv : C + n % C = peekN C 0 false n := peekN_is hd.cir (by omega) (by rw [Nat.add_mod_left, Nat.mod_mod]) (by unfold lowest; simp) (by unfold lowest; simp; omega)
  rw [← hv]
  have e2 := emod_nat n C
  have e1 : IntKind.u64.wrap ((C : Int) + ((n % C : Nat) : Int)) = ((C + n % C : Nat) : Int) := wrap_add rfl (by omega)
  have hd1 := hd.1
  clear hv hd
  generalize n % C = low at *
  generalize C + low = v at *
  go_enter Try.func12, Try.ntmps12
  go_wp2_with fail
  refine (HR.out _).mono ?_
  rintro e w1 ⟨rfl, rfl⟩
  go_wp2
  go_ret
  exact ⟨rfl, (Only.refl _ w).alloc _⟩

set_option maxRecDepth 100000 in
set_option maxHeartbeats 2000000 in
theorem rpeek_a1 (d C n top base r low k v wd x : Nat) (w : World) (hd : Dig d C) (h1 : 1 < C) (ht : top < 4611686018427387904) (htop : top = base + r) (hr : r = top % C) (hb : base = C * k) (hlow : low = n % C) (hC2 : C ≤ base) (hwd : wd = base + low)
    (h2 : r ≤ low) (h3 : C / 2 ≤ low - r) (hx : x = low - r) (hv : v = wd - C) (hn : n < 4294967296) :
    Calls Try.prog 12 #[rxV d top true, .int .u32 (n : Int)] w (Says (.int .u64 (v : Int)) w) := by
  have hle := hd.cir.le
  have HR := Lib.hid (fun w => rcircle_is d C w (by have := hd.1; omega) hd.2)
  have hd1 := hd.1
  have hrl : r < C := by rw [hr]; exact Nat.mod_lt _ (by omega)
  have hll : low < C := by rw [hlow]; exact Nat.mod_lt _ (by omega)
  have e1 : (n : Int) % C = (low : Int) := by rw [hlow]; exact emod_nat n C
  have e2 : (top : Int) % C = (r : Int) := by rw [hr]; exact emod_nat top C
  have e3 : (top : Int).tmod C = (r : Int) := by rw [hr]; exact tmod_nat top C
  have e4 : IntKind.u64.wrap ((top : Int) - (r : Int)) = (base : Int) := wrap_sub (by omega) (by omega)
  have e5 : IntKind.u64.wrap ((base : Int) + (low : Int)) = (wd : Int) := wrap_add (by omega) (by omega)
  have e6 : IntKind.u64.wrap ((wd : Int) - (top : Int)) = (x : Int) := wrap_sub (by omega) (by omega)
  have e7 : IntKind.u64.wrap ((wd : Int) - (C : Int)) = (v : Int) := wrap_sub (by omega) (by omega)
  have h4 : x < C := by omega
  have h5 : C / 2 ≤ x := by omega
  have h6 : (C : Int) / 2 ≤ x := by omega
  have g1 : (C : Int) ≠ 0 := by omega
  clear hd hr hb hlow htop hwd h3 hx hv
  go_enter Try.func12, Try.ntmps12
  go_wp2_with fail
  refine (HR.out _).mono ?_
  rintro e w1 ⟨rfl, rfl⟩
  go_wp2
  go_quiet (fail)
  go_wp2
  go_ret
  exact ⟨rfl, ((Only.refl _ w).alloc _).drewN _⟩

set_option maxRecDepth 100000 in
set_option maxHeartbeats 2000000 in
theorem rpeek_a2 (d C n top base r low k v wd x : Nat) (w : World) (hd : Dig d C) (h1 : 1 < C) (ht : top < 4611686018427387904) (htop : top = base + r) (hr : r = top % C) (hb : base = C * k) (hlow : low = n % C) (hC2 : C ≤ base) (hwd : wd = base + low)
    (h2 : r ≤ low) (h3 : low - r < C / 2) (hx : x = low - r) (hv : v = wd) (hn : n < 4294967296) :
    Calls Try.prog 12 #[rxV d top true, .int .u32 (n : Int)] w (Says (.int .u64 (v : Int)) w) := by
  have hle := hd.cir.le
  have HR := Lib.hid (fun w => rcircle_is d C w (by have := hd.1; omega) hd.2)
  have hd1 := hd.1
  have hrl : r < C := by rw [hr]; exact Nat.mod_lt _ (by omega)
  have hll : low < C := by rw [hlow]; exact Nat.mod_lt _ (by omega)
  have e1 : (n : Int) % C = (low : Int) := by rw [hlow]; exact emod_nat n C
  have e2 : (top : Int) % C = (r : Int) := by rw [hr]; exact emod_nat top C
  have e3 : (top : Int).tmod C = (r : Int) := by rw [hr]; exact tmod_nat top C
  have e4 : IntKind.u64.wrap ((top : Int) - (r : Int)) = (base : Int) := wrap_sub (by omega) (by omega)
  have e5 : IntKind.u64.wrap ((base : Int) + (low : Int)) = (wd : Int) := wrap_add (by omega) (by omega)
  have e6 : IntKind.u64.wrap ((wd : Int) - (top : Int)) = (x : Int) := wrap_sub (by omega) (by omega)
  have h4 : x < C := by omega
  have h5 : x < C / 2 := by omega
  have h6 : (x : Int) < (C : Int) / 2 := by omega
  rw [hv]
  have g1 : (C : Int) ≠ 0 := by omega
  clear hd hr hb hlow htop hwd h3 hx hv
  go_enter Try.func12, Try.ntmps12
  go_wp2_with fail
  refine (HR.out _).mono ?_
  rintro e w1 ⟨rfl, rfl⟩
  go_wp2
  go_quiet (fail)
  go_wp2
  go_ret
  exact ⟨rfl, ((Only.refl _ w).alloc _).drewN _⟩

set_option maxRecDepth 100000 in
set_option maxHeartbeats 2000000 in
theorem rpeek_b1 (d C n top base r low k v wd x y : Nat) (w : World) (hd : Dig d C) (h1 : 1 < C) (ht : top < 4611686018427387904) (htop : top = base + r) (hr : r = top % C) (hb : base = C * k) (hlow : low = n % C) (hC2 : C ≤ base) (hwd : wd = base + low)
    (h2 : low < r) (h3 : C / 2 < r - low) (hx : x = r - low) (hy : y = 18446744073709551616 - x) (hv : v = wd + C) (hn : n < 4294967296) :
    Calls Try.prog 12 #[rxV d top true, .int .u32 (n : Int)] w (Says (.int .u64 (v : Int)) w) := by
  have hle := hd.cir.le
  have HR := Lib.hid (fun w => rcircle_is d C w (by have := hd.1; omega) hd.2)
  have hd1 := hd.1
  have hrl : r < C := by rw [hr]; exact Nat.mod_lt _ (by omega)
  have hll : low < C := by rw [hlow]; exact Nat.mod_lt _ (by omega)
  have e1 : (n : Int) % C = (low : Int) := by rw [hlow]; exact emod_nat n C
  have e2 : (top : Int) % C = (r : Int) := by rw [hr]; exact emod_nat top C
  have e3 : (top : Int).tmod C = (r : Int) := by rw [hr]; exact tmod_nat top C
  have e4 : IntKind.u64.wrap ((top : Int) - (r : Int)) = (base : Int) := wrap_sub (by omega) (by omega)
  have e5 : IntKind.u64.wrap ((base : Int) + (low : Int)) = (wd : Int) := wrap_add (by omega) (by omega)
  have e6 : IntKind.u64.wrap ((wd : Int) - (top : Int)) = (y : Int) := by rw [hy]; exact wrap_sub_neg (by omega) (by omega) (by omega)
  have e7 : IntKind.u64.wrap ((top : Int) - (wd : Int)) = (x : Int) := wrap_sub (by omega) (by omega)
  have e8 : IntKind.u64.wrap ((wd : Int) + (C : Int)) = (v : Int) := wrap_add (by omega) (by omega)
  have h4 : ¬ y < C := by omega
  have h5 : C / 2 < x := by omega
  have h6 : (C : Int) / 2 < x := by omega
  have g1 : (C : Int) ≠ 0 := by omega
  clear hd hr hb hlow htop hwd h3 hx hy hv
  go_enter Try.func12, Try.ntmps12
  go_wp2_with fail
  refine (HR.out _).mono ?_
  rintro e w1 ⟨rfl, rfl⟩
  go_wp2
  go_quiet (fail)
  go_wp2
  go_ret
  exact ⟨rfl, ((Only.refl _ w).alloc _).drewN _⟩

set_option maxRecDepth 100000 in
set_option maxHeartbeats 2000000 in
theorem rpeek_b2 (d C n top base r low k v wd x y : Nat) (w : World) (hd : Dig d C) (h1 : 1 < C) (ht : top < 4611686018427387904) (htop : top = base + r) (hr : r = top % C) (hb : base = C * k) (hlow : low = n % C) (hC2 : C ≤ base) (hwd : wd = base + low)
    (h2 : low < r) (h3 : r - low ≤ C / 2) (hx : x = r - low) (hy : y = 18446744073709551616 - x) (hv : v = wd) (hn : n < 4294967296) :
    Calls Try.prog 12 #[rxV d top true, .int .u32 (n : Int)] w (Says (.int .u64 (v : Int)) w) := by
  have hle := hd.cir.le
  have HR := Lib.hid (fun w => rcircle_is d C w (by have := hd.1; omega) hd.2)
  have hd1 := hd.1
  have hrl : r < C := by rw [hr]; exact Nat.mod_lt _ (by omega)
  have hll : low < C := by rw [hlow]; exact Nat.mod_lt _ (by omega)
  have e1 : (n : Int) % C = (low : Int) := by rw [hlow]; exact emod_nat n C
  have e2 : (top : Int) % C = (r : Int) := by rw [hr]; exact emod_nat top C
  have e3 : (top : Int).tmod C = (r : Int) := by rw [hr]; exact tmod_nat top C
  have e4 : IntKind.u64.wrap ((top : Int) - (r : Int)) = (base : Int) := wrap_sub (by omega) (by omega)
  have e5 : IntKind.u64.wrap ((base : Int) + (low : Int)) = (wd : Int) := wrap_add (by omega) (by omega)
  have e6 : IntKind.u64.wrap ((wd : Int) - (top : Int)) = (y : Int) := by rw [hy]; exact wrap_sub_neg (by omega) (by omega) (by omega)
  have e7 : IntKind.u64.wrap ((top : Int) - (wd : Int)) = (x : Int) := wrap_sub (by omega) (by omega)
  have h4 : ¬ y < C := by omega
  have h5 : ¬ C / 2 < x := by omega
  have h6 : ¬ (C : Int) / 2 < x := by omega
  rw [hv]
  have g1 : (C : Int) ≠ 0 := by omega
  clear hd hr hb hlow htop hwd h3 hx hy hv
  go_enter Try.func12, Try.ntmps12
  go_wp2_with fail
  refine (HR.out _).mono ?_
  rintro e w1 ⟨rfl, rfl⟩
  go_wp2
  go_quiet (fail)
  go_wp2
  go_ret
  exact ⟨rfl, ((Only.refl _ w).alloc _).drewN _⟩

theorem rpeek_some (d C n top : Nat) (w : World) (hd : Dig d C) (h1 : 1 < C) (ht : top < 4611686018427387904) (hC : C ≤ top) (hn : n < 4294967296) :
    Calls Try.prog 12 #[rxV d top true, .int .u32 (n : Int)] w (Says (.int .u64 ((peekN C top true n : Nat) : Int)) w) := by
  obtain ⟨base, r, k, htop, hr, hb⟩ := mod_parts C top
  have hpos := hd.cir.pos
  have hle := hd.cir.le
  have hev := hd.cir.even h1
  have hrl : r < C := by rw [hr]; exact Nat.mod_lt _ hpos
  obtain ⟨low, hlow⟩ : ∃ low, low = n % C := ⟨_, rfl⟩
  have hll : low < C := by rw [hlow]; exact Nat.mod_lt _ hpos
  have hk : 1 ≤ k := by
    rcases Nat.eq_zero_or_pos k with h | h
    · subst h; omega
    · exact h
  have hbase : C ≤ base := by rw [hb]; exact Nat.le_mul_of_pos_right C hk
  have hlo : lowest C top true = top - C / 2 := rfl
  have m0 : (base + low) % C = n % C := by rw [hb, Nat.mul_add_mod, hlow, Nat.mod_mod]
  by_cases h2 : r ≤ low
  · by_cases h3 : C / 2 ≤ low - r
    · have hv : base + low - C = peekN C top true n := peekN_is hd.cir ht (by rw [← Nat.mod_eq_sub_mod (by omega)]; exact m0) (by rw [hlo]; omega) (by rw [hlo]; omega)
      rw [← hv]
      exact rpeek_a1 d C n top base r low k _ (base + low) (low - r) w hd h1 ht htop hr hb hlow hbase rfl h2 h3 rfl rfl hn
    · have hv : base + low = peekN C top true n := peekN_is hd.cir ht m0 (by rw [hlo]; omega) (by rw [hlo]; omega)
      rw [← hv]
      exact rpeek_a2 d C n top base r low k _ (base + low) (low - r) w hd h1 ht htop hr hb hlow hbase rfl h2 (by omega) rfl rfl hn
  · by_cases h3 : C / 2 < r - low
    · have hv : base + low + C = peekN C top true n := peekN_is hd.cir ht (by rw [Nat.add_mod_right]; exact m0) (by rw [hlo]; omega) (by rw [hlo]; omega)
      rw [← hv]
      exact rpeek_b1 d C n top base r low k _ (base + low) (r - low) _ w hd h1 ht htop hr hb hlow hbase rfl (by omega) h3 rfl rfl rfl hn
    · have hv : base + low = peekN C top true n := peekN_is hd.cir ht m0 (by rw [hlo]; omega) (by rw [hlo]; omega)
      rw [← hv]
      exact rpeek_b2 d C n top base r low k _ (base + low) (r - low) _ w hd h1 ht htop hr hb hlow hbase rfl (by omega) (by omega) rfl rfl rfl hn
/-- An extender's state: what the reference and the program have of it. -/
structure Fine (C top : Nat) (s : Bool) : Prop where
  none : s = false → top = 0
  some : s = true → C ≤ top
theorem rpeek_is (d C n top : Nat) (s : Bool) (w : World) (hd : Dig d C) (h1 : 1 < C) (ht : top < 4611686018427387904) (hf : Fine C top s) (hn : n < 4294967296) :
    Calls Try.prog 12 #[rxV d top s, .int .u32 (n : Int)] w (Says (.int .u64 ((peekN C top s n : Nat) : Int)) w) := by
  cases s
  · rw [hf.none rfl]
    exact rpeek_none d C n w hd hn
  · exact rpeek_some d C n top w hd h1 ht (hf.some rfl) hn
end Go.Proofs.Ythnaekmceakdaaa
