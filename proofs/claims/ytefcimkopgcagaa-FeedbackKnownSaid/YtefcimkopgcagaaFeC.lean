/- The numbers of the pairs of numbers are just these; a rate is told closely: plainly. Conditions: as each says. -/
import Derived.Test.YtefcimkopgcagaaFbH
import Derived.Test.YtefcimkopgcagaaFbR
set_option linter.unusedVariables false
set_option linter.unusedSimpArgs false
namespace Go.Proofs.Ytefcimkopgcagaa
open Go.RowKit

theorem bit_div (b j : Nat) : (b / 2 ^ j % 2 = 1) ↔ b.testBit j = true := by
  rw [Nat.testBit_eq_decide_div_mod_eq, decide_eq_true_eq]
theorem setb_bit (b k j : Nat) (hb : b < 65536) (hk : k < 16) : (setb b k / 2 ^ j % 2 = 1) ↔ (j = k ∨ b / 2 ^ j % 2 = 1) := by
  rw [bit_div, bit_div, ← or_setb b k hb hk, Nat.testBit_or, Nat.testBit_two_pow, Bool.or_eq_true, decide_eq_true_eq]
  constructor
  · rintro (h | h)
    · exact .inr h
    · exact .inl h.symm
  · rintro (h | h)
    · exact .inr h.symm
    · exact .inl h
theorem mem_told (p : Pr) (x : Nat) : ∀ k, x ∈ told p k ↔ ∃ j, j < k ∧ p.blp / 2 ^ j % 2 = 1 ∧ x = (p.pid + (j + 1)) % 65536
  | 0 => by simp [told]
  | k + 1 => by
    unfold told
    rw [List.mem_append, mem_told p x k]
    constructor
    · rintro (⟨j, h1, h2⟩ | h)
      · exact ⟨j, by omega, h2⟩
      · split at h
        · rename_i hb
          exact ⟨k, by omega, hb, List.mem_singleton.1 h⟩
        · cases h
    · rintro ⟨j, h1, h2, h3⟩
      by_cases hj : j < k
      · exact .inl ⟨j, hj, h2, h3⟩
      · obtain rfl : j = k := by omega
        rw [if_pos h2]
        exact .inr (List.mem_singleton.2 h3)
theorem mem_nums (p : Pr) (x : Nat) : x ∈ p.nums ↔ x = p.pid ∨ ∃ j, j < 16 ∧ p.blp / 2 ^ j % 2 = 1 ∧ x = (p.pid + (j + 1)) % 65536 := by
  unfold Pr.nums
  rw [List.mem_cons, mem_told]
theorem mem_put1 (i : List Pr) (p : Pr) (n x : Nat) (hp : p.Fit) (hn : n < 65536) : x ∈ numsOf (put1 i p n) ↔ x ∈ numsOf (i ++ [p]) ∨ x = n := by
  have hp1 := hp.1
  unfold put1
  have ha : ahead p n = (n + 65536 - p.pid) % 65536 := rfl
  split
  · rename_i h
    have e : n = p.pid := by omega
    refine ⟨fun h => .inl h, fun h => h.elim id (fun h => ?_)⟩
    rw [numsOf_snoc, List.mem_append, mem_nums]
    exact .inr (.inl (h.trans e))
  · split
    · rename_i h0 h16
      rw [numsOf_snoc, numsOf_snoc, List.mem_append, List.mem_append, mem_nums, mem_nums]
      have hb : ∀ j, (setb p.blp (ahead p n - 1) / 2 ^ j % 2 = 1) ↔ (j = ahead p n - 1 ∨ p.blp / 2 ^ j % 2 = 1) := fun j => setb_bit _ _ _ hp.2 (by omega)
      have he : n = (p.pid + (ahead p n - 1 + 1)) % 65536 := by omega
      constructor
      · rintro (h | h | ⟨j, h1, h2, h3⟩)
        · exact .inl (.inl h)
        · exact .inl (.inr (.inl h))
        · rcases (hb j).1 h2 with rfl | h2
          · exact .inr (h3.trans he.symm)
          · exact .inl (.inr (.inr ⟨j, h1, h2, h3⟩))
      · rintro ((h | h | ⟨j, h1, h2, h3⟩) | h)
        · exact .inl h
        · exact .inr (.inl h)
        · exact .inr (.inr ⟨j, h1, (hb j).2 (.inr h2), h3⟩)
        · exact .inr (.inr ⟨ahead p n - 1, by omega, (hb _).2 (.inl rfl), h.trans he⟩)
    · rw [show i ++ [p, ⟨n, 0⟩] = (i ++ [p]) ++ [⟨n, 0⟩] by simp, numsOf_snoc, List.mem_append, mem_nums]
      constructor
      · rintro (h | h | ⟨j, -, h2, -⟩)
        · exact .inl h
        · exact .inr h
        · simp at h2
      · rintro (h | h)
        · exact .inl h
        · exact .inr (.inl h)
theorem pstep_fit7 (out : List Pr) (n : Nat) (h : ∀ x ∈ out, x.Fit) (hn : n < 65536) : ∀ x ∈ pstep out n, x.Fit := by
  rcases List.eq_nil_or_concat out with rfl | ⟨i, p, rfl⟩
  · rw [pstep_nil]
    intro x hx
    rw [List.mem_singleton.1 hx]
    exact ⟨hn, Nat.succ_pos _⟩
  · rw [List.concat_eq_append] at *
    rw [pstep_snoc]
    exact put1_fit i p n (fun x hx => h x (by simp [hx])) (h p (by simp)) hn
theorem mem_pstep (out : List Pr) (n x : Nat) (h : ∀ x ∈ out, x.Fit) (hn : n < 65536) : x ∈ numsOf (pstep out n) ↔ x ∈ numsOf out ∨ x = n := by
  rcases List.eq_nil_or_concat out with rfl | ⟨i, p, rfl⟩
  · rw [pstep_nil]
    show x ∈ numsOf ([] ++ [⟨n, 0⟩]) ↔ _
    rw [numsOf_snoc, List.mem_append, mem_nums]
    constructor
    · rintro (h | h | ⟨j, -, h2, -⟩)
      · exact .inl h
      · exact .inr h
      · simp at h2
    · rintro (h | h)
      · exact .inl h
      · exact .inr (.inl h)
  · rw [List.concat_eq_append] at *
    rw [pstep_snoc]
    exact mem_put1 i p n x (h p (by simp)) hn
theorem mem_fold (x : Nat) : ∀ (l : List Nat) (out : List Pr), (∀ x ∈ out, x.Fit) → (∀ n ∈ l, n < 65536) → (x ∈ numsOf (l.foldl pstep out) ↔ x ∈ numsOf out ∨ x ∈ l)
  | [], out, _, _ => by simp
  | n :: l, out, h, hl => by
    have hn := hl n (by simp)
    rw [List.foldl_cons, mem_fold x l (pstep out n) (pstep_fit7 out n h hn) (fun m hm => hl m (by simp [hm])), mem_pstep out n x h hn, List.mem_cons, or_assoc]
/-- The numbers of the pairs of some numbers are just these. -/
theorem nums_pairs (l : List Nat) (hl : ∀ n ∈ l, n < 65536) (x : Nat) : x ∈ numsOf (pairsOf l) ↔ x ∈ l := by
  have h := mem_fold x l [] (by simp) hl
  unfold pairsOf
  rw [h]
  simp [numsOf]
theorem pstep_len7 (out : List Pr) (n : Nat) : (pstep out n).length ≤ out.length + 1 := by
  rcases List.eq_nil_or_concat out with rfl | ⟨i, p, rfl⟩
  · simp [pstep_nil]
  · rw [List.concat_eq_append, pstep_snoc]
    unfold put1
    split
    · simp
    · split <;> simp
theorem fold_len : ∀ (l : List Nat) (out : List Pr), (l.foldl pstep out).length ≤ out.length + l.length
  | [], out => by simp
  | n :: l, out => by
    have h1 := pstep_len7 out n
    have h2 := fold_len l (pstep out n)
    rw [List.foldl_cons, List.length_cons]
    omega
theorem pairs_len (l : List Nat) : (pairsOf l).length ≤ l.length := by
  have := fold_len l []
  simpa [pairsOf] using this
theorem fold_fit : ∀ (l : List Nat) (out : List Pr), (∀ x ∈ out, x.Fit) → (∀ n ∈ l, n < 65536) → ∀ x ∈ l.foldl pstep out, x.Fit
  | [], out, h, _ => h
  | n :: l, out, h, hl => by
    rw [List.foldl_cons]
    exact fold_fit l _ (pstep_fit7 out n h (hl n (by simp))) (fun m hm => hl m (by simp [hm]))
theorem pairs_fit (l : List Nat) (hl : ∀ n ∈ l, n < 65536) : ∀ x ∈ pairsOf l, x.Fit := fold_fit l [] (by simp) hl
/-- A rate, told and told back. -/
theorem rate_back (r : Nat) (hr : r < 18446744073709551616) : rexp r ≤ 63 ∧ r / 2 ^ rexp r ≤ 262143 ∧ rateOf (r / 2 ^ rexp r) (rexp r) ≤ r ∧ r - rateOf (r / 2 ^ rexp r) (rexp r) ≤ r / 131072 := by
  have h1 : Lib.bitLen r ≤ 64 := len_lt r 64 (by simpa using hr)
  have h2 := rexp_lt r hr
  have hm := Nat.div_mul_le_self r (2 ^ rexp r)
  have hd := Nat.mod_add_div r (2 ^ rexp r)
  have hml := Nat.mod_lt r (Nat.two_pow_pos (rexp r))
  have hro : rateOf (r / 2 ^ rexp r) (rexp r) = r / 2 ^ rexp r * 2 ^ rexp r := by
    unfold rateOf
    rw [if_pos (by omega)]
  rw [hro]
  refine ⟨by unfold rexp; omega, by omega, hm, ?_⟩
  rw [Nat.mul_comm] at hd
  have hsub : r - r / 2 ^ rexp r * 2 ^ rexp r = r % 2 ^ rexp r := by omega
  rw [hsub]
  by_cases he : rexp r = 0
  · rw [he]
    simp [Nat.mod_one]
  · have hge : 2 ^ (rexp r + 17) ≤ r := by
      rcases Nat.lt_or_ge r (2 ^ (rexp r + 17)) with h | h
      · have := len_lt r _ h
        unfold rexp at this he
        omega
      · exact h
    have e17 : (2 : Nat) ^ 17 = 131072 := by decide
    rw [Nat.pow_add, e17] at hge
    have := (Nat.le_div_iff_mul_le (by decide : 0 < 131072)).2 hge
    omega
end Go.Proofs.Ytefcimkopgcagaa
