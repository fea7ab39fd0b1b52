/- Digits and bytes: numbers of whole bytes, plainly. Conditions: as each says. -/
import Derived.Test.YtefcimkopgcagaaFdA
import Derived.Test.YtefcimkopgcagaaFcU
import Derived.Test.YtefcimkopgcagaaBtGr
set_option linter.unusedVariables false
set_option linter.unusedSimpArgs false
namespace Go.Proofs.Ytefcimkopgcagaa
open Go.RowKit

theorem num_cat (bs : List Nat) (p a b : Nat) (h : p + a + b ≤ 8 * bs.length) : num bs p (a + b) = num bs p a * 2 ^ b + num bs (p + a) b := by
  unfold num
  rw [List.take_add, List.drop_drop, val_append]
  have e : (((D bs).drop (p + a)).take b).length = b := by
    rw [List.length_take, List.length_drop, D_length]
    omega
  rw [e]
theorem num_bytes (bs : List Nat) (k : Nat) (hb : ∀ x ∈ bs, x < 256) : ∀ n, k + n ≤ bs.length → num bs (8 * k) (8 * n) = vu ((bs.drop k).take n)
  | 0, _ => by simp [num_zero, vu]
  | n + 1, h => by
    rw [show 8 * (n + 1) = 8 * n + 8 by omega, num_cat bs (8 * k) (8 * n) 8 (by omega), num_bytes bs k hb n (by omega), show 8 * k + 8 * n = 8 * (k + n) by omega,
      digs_val_byte bs (k + n) (by omega) hb, List.take_succ_eq_append_getElem (by rw [List.length_drop]; omega), vu_snoc, List.getElem_drop]
theorem num_four (bs : List Nat) (k : Nat) (hb : ∀ x ∈ bs, x < 256) (h : k + 4 ≤ bs.length) : num bs (8 * k) 32 = fourB bs k := num_bytes bs k hb 4 h
theorem num_one8 (bs : List Nat) (k : Nat) (hb : ∀ x ∈ bs, x < 256) (h : k < bs.length) : num bs (8 * k) 8 = bs.getD k 0 := by
  rw [digs_val_byte bs k h hb, List.getD_eq_getElem?_getD, List.getElem?_eq_getElem h]
  rfl
theorem prAt_is (bs : List Nat) (j : Nat) (hb : ∀ x ∈ bs, x < 256) (h : 8 + 4 * j + 4 ≤ bs.length) : prAt bs 64 j = pairAt bs j := by
  have e := num_four bs (8 + 4 * j) hb h
  rw [show 8 * (8 + 4 * j) = 64 + 32 * j by omega] at e
  have e2 : num bs (64 + 32 * j) 32 = num bs (64 + 32 * j) 16 * 65536 + num bs (64 + 32 * j + 16) 16 := num_cat bs (64 + 32 * j) 16 16 (by omega)
  have h1 : num bs (64 + 32 * j + 16) 16 < 65536 := num_lt bs (64 + 32 * j + 16) 16
  unfold prAt pairAt
  rw [← e, e2]
  generalize num bs (64 + 32 * j) 16 = a at *
  generalize num bs (64 + 32 * j + 16) 16 = b at *
  rw [Pr.mk.injEq]
  omega
theorem odAt_is (bs : List Nat) (j : Nat) (hb : ∀ x ∈ bs, x < 256) (h : 8 + 8 * j + 8 ≤ bs.length) : odAt bs 64 j = orderAt bs j := by
  have e := num_four bs (8 + 8 * j) hb (by omega)
  rw [show 8 * (8 + 8 * j) = 64 + 64 * j by omega] at e
  have e2 := num_one8 bs (8 + 8 * j + 4) hb (by omega)
  rw [show 8 * (8 + 8 * j + 4) = 64 + 64 * j + 32 by omega] at e2
  unfold odAt orderAt
  rw [e, e2]
theorem exp_is (bs : List Nat) (hb : ∀ x ∈ bs, x < 256) (h : 16 ≤ bs.length) : num bs 104 6 = fourB bs 12 % 16777216 / 262144 ∧ num bs 110 18 = fourB bs 12 % 16777216 % 262144 := by
  have e : num bs 96 32 = fourB bs 12 := num_four bs 12 hb (by omega)
  have e2 : num bs 96 32 = num bs 96 8 * 16777216 + num bs 104 24 := num_cat bs 96 8 24 (by omega)
  have e3 : num bs 104 24 = num bs 104 6 * 262144 + num bs 110 18 := num_cat bs 104 6 18 (by omega)
  have h1 : num bs 104 6 < 64 := num_lt bs 104 6
  have h2 : num bs 110 18 < 262144 := num_lt bs 110 18
  rw [← e, e2, e3]
  generalize num bs 96 8 = a at *
  generalize num bs 104 6 = b at *
  generalize num bs 110 18 = c at *
  clear e e2 e3
  omega

/-- A reader that has failed gives nothing more. -/
theorem tk_failed (bs : List Nat) (n : Nat) (s : Nat × Int) (h : s.2 ≠ 0) : tk bs n s = (0, s.1, asked s.2 n 64 (8 * bs.length - s.1) 1) ∧ asked s.2 n 64 (8 * bs.length - s.1) 1 ≠ 0 := by
  have hne : asked s.2 n 64 (8 * bs.length - s.1) 1 ≠ 0 := fun e => h (asked_ok e).1
  unfold tk
  rw [if_neg hne]
  exact ⟨rfl, hne⟩
theorem tk_ok (bs : List Nat) (n p : Nat) (hn : n ≤ 64) (h : p + n ≤ 8 * bs.length) : tk bs n (p, 0) = (num bs p n, p + n, 0) := by
  have e : asked 0 n 64 (8 * bs.length - p) 1 = 0 := asked_zero (by omega) (by omega) (by rw [Nat.div_one]; omega)
  unfold tk
  rw [if_pos e]
theorem tk_short (bs : List Nat) (n p : Nat) (h : 8 * bs.length < p + n) (hp : p ≤ 8 * bs.length) : (tk bs n (p, 0)).2.1 = p ∧ (tk bs n (p, 0)).2.2 ≠ 0 := by
  have e : asked 0 n 64 (8 * bs.length - p) 1 ≠ 0 := fun e => by
    have := (asked_ok e).2.2.2
    rw [Nat.div_one] at this
    omega
  unfold tk
  rw [if_neg e]
  exact ⟨rfl, e⟩
theorem tk_bad (bs : List Nat) (n : Nat) (s : Nat × Int) (h : s.2 ≠ 0) : (tk bs n s).2.1 = s.1 ∧ (tk bs n s).2.2 ≠ 0 := by
  obtain ⟨e, hne⟩ := tk_failed bs n s h
  rw [e]
  exact ⟨rfl, hne⟩
theorem tkS_bad (bs : List Nat) (s : Nat × Int) (h : s.2 ≠ 0) : ∀ n, (tkS bs n s).2.2 ≠ 0
  | 0 => h
  | n + 1 => (tk_bad bs 32 _ (tkS_bad bs s h n)).2
theorem tkS_ok (bs : List Nat) (p : Nat) : ∀ n, p + 32 * n ≤ 8 * bs.length → tkS bs n (p, 0) = ((List.range n).map fun j => num bs (p + 32 * j) 32, p + 32 * n, 0)
  | 0, _ => rfl
  | n + 1, h => by
    rw [tkS, tkS_ok bs p n (by omega)]
    simp only
    rw [tk_ok bs 32 (p + 32 * n) (by omega) (by omega), List.range_succ, List.map_append, List.map_singleton]
    rfl
theorem tkS_pos (bs : List Nat) (p : Nat) (hp : p ≤ 8 * bs.length) : ∀ n, (tkS bs n (p, 0)).2.2 = 0 → p + 32 * n ≤ 8 * bs.length
  | 0, _ => by omega
  | n + 1, h => by
    by_cases h0 : (tkS bs n (p, 0)).2.2 = 0
    · have hn := tkS_pos bs p hp n h0
      have e := tkS_ok bs p n hn
      rw [tkS, e] at h
      simp only at h
      by_cases hh : p + 32 * n + 32 ≤ 8 * bs.length
      · omega
      · exact absurd h (tk_short bs 32 (p + 32 * n) (by omega) hn).2
    · exact absurd h (tk_bad bs 32 _ h0).2
end Go.Proofs.Ytefcimkopgcagaa
