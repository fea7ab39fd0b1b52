/- Digits, in plain numbers and lists: what readers and writers of digits are measured by. Conditions: none. -/
import Derived.WalkKit
namespace Go.Proofs.Ytdcclighccejhaa

/-- The k lowest digits of n, the greatest first. -/
def digs : Nat → Nat → List Nat
  | 0, _ => []
  | k + 1, n => (n / 2 ^ k % 2) :: digs k n
/-- The number of digits. -/
def val (d : List Nat) : Nat := d.foldl (fun a x => 2 * a + x) 0
/-- The digits of bytes. -/
def D (bs : List Nat) : List Nat := bs.flatMap (digs 8)

theorem digs_length (k n : Nat) : (digs k n).length = k := by
  induction k with
  | zero => rfl
  | succ k ih => simp [digs, ih]
theorem digs_add (j k n : Nat) : digs (j + k) n = digs j (n / 2 ^ k) ++ digs k n := by
  induction j with
  | zero => simp [digs]
  | succ j ih =>
    rw [Nat.add_right_comm]
    simp only [digs, ih, List.cons_append]
    rw [Nat.div_div_eq_div_mul, ← Nat.pow_add, Nat.add_comm k j]
theorem digs_lt (k n : Nat) : ∀ x ∈ digs k n, x < 2 := by
  induction k with
  | zero => simp [digs]
  | succ k ih =>
    intro x hx
    simp only [digs, List.mem_cons] at hx
    rcases hx with rfl | hx
    · exact Nat.mod_lt _ (by decide)
    · exact ih x hx
theorem foldl_val (d : List Nat) : ∀ c, d.foldl (fun a x => 2 * a + x) c = c * 2 ^ d.length + val d := by
  induction d with
  | nil => intro c; simp [val]
  | cons x d ih =>
    intro c
    have e : val (x :: d) = (2 * 0 + x) * 2 ^ d.length + val d := ih _
    rw [List.foldl_cons, ih, e, List.length_cons, Nat.pow_succ, Nat.add_mul]
    simp only [Nat.mul_zero, Nat.zero_add]
    rw [Nat.mul_comm 2 c, Nat.mul_assoc, Nat.mul_comm 2 (2 ^ d.length), Nat.add_assoc]
theorem val_append (a b : List Nat) : val (a ++ b) = val a * 2 ^ b.length + val b := by
  unfold val
  rw [List.foldl_append, foldl_val b]
  rfl
theorem val_cons (x : Nat) (d : List Nat) : val (x :: d) = x * 2 ^ d.length + val d := by
  have := val_append [x] d
  simpa [val] using this
theorem val_digs (k n : Nat) : val (digs k n) = n % 2 ^ k := by
  induction k with
  | zero => simp [digs, val, Nat.mod_one]
  | succ k ih =>
    rw [digs, val_cons, digs_length, ih, Nat.mod_pow_succ, Nat.mul_comm, Nat.add_comm]
theorem val_lt (d : List Nat) (h : ∀ x ∈ d, x < 2) : val d < 2 ^ d.length := by
  induction d with
  | nil => simp [val]
  | cons x d ih =>
    have hx := h x (by simp)
    have hd := ih (fun y hy => h y (by simp [hy]))
    rw [val_cons, List.length_cons, Nat.pow_succ]
    have : x * 2 ^ d.length ≤ 1 * 2 ^ d.length := Nat.mul_le_mul_right _ (by omega)
    omega
theorem digs_mod (k m n : Nat) (h : k ≤ m) : digs k (n % 2 ^ m) = digs k n := by
  induction k with
  | zero => rfl
  | succ k ih =>
    rw [digs, digs, ih (by omega)]
    congr 1
    obtain ⟨j, rfl⟩ : ∃ j, m = k + (j + 1) := ⟨m - k - 1, by omega⟩
    rw [Nat.pow_add, Nat.mod_mul_right_div_self, Nat.pow_succ, Nat.mod_mul_left_mod]
theorem digs_of_zero (k n : Nat) (h : n % 2 ^ k = 0) : digs k n = List.replicate k 0 := by
  rw [← digs_mod k k n (Nat.le_refl _), h]
  clear h
  induction k with
  | zero => rfl
  | succ k ih => simp [digs, ih, List.replicate_succ]
theorem val_zero (k : Nat) : val (List.replicate k 0) = 0 := by
  induction k with
  | zero => rfl
  | succ k ih => rw [List.replicate_succ, val_cons, ih]; simp
theorem drop_digs (r m n : Nat) : (digs (r + m) n).drop r = digs m n := by
  rw [digs_add, List.drop_append_of_le_length (by simp [digs_length])]
  rw [List.drop_of_length_le (by simp [digs_length])]
  rfl
theorem take_digs (j k n : Nat) : (digs (j + k) n).take j = digs j (n / 2 ^ k) := by
  rw [digs_add, List.take_append_of_le_length (by simp [digs_length]), List.take_of_length_le (by simp [digs_length])]
theorem mid_digs (r k c : Nat) (h : r + k ≤ 8) : ((digs 8 c).drop r).take k = digs k (c / 2 ^ (8 - r - k)) := by
  have e : 8 = r + (k + (8 - r - k)) := by omega
  conv => lhs; rw [e]
  rw [drop_digs, take_digs]

theorem D_nil : D [] = [] := rfl
theorem D_append (a b : List Nat) : D (a ++ b) = D a ++ D b := by simp [D]
theorem D_cons (x : Nat) (b : List Nat) : D (x :: b) = digs 8 x ++ D b := by simp [D]
theorem D_length (bs : List Nat) : (D bs).length = 8 * bs.length := by
  induction bs with
  | nil => rfl
  | cons x bs ih => rw [D_cons, List.length_append, digs_length, ih, List.length_cons]; omega
theorem D_lt (bs : List Nat) : ∀ x ∈ D bs, x < 2 := by
  intro x hx
  simp only [D, List.mem_flatMap] at hx
  obtain ⟨c, _, hx⟩ := hx
  exact digs_lt 8 c x hx
/-- Digits within one byte. -/
theorem D_mid (bs : List Nat) (p k : Nat) (hi : p / 8 < bs.length) (hk : p % 8 + k ≤ 8) : ((D bs).drop p).take k = digs k (bs[p / 8] / 2 ^ (8 - p % 8 - k)) := by
  have e : bs = bs.take (p / 8) ++ bs[p / 8] :: bs.drop (p / 8 + 1) := by
    rw [List.getElem_cons_drop, List.take_append_drop]
  have hl : (D (bs.take (p / 8))).length = 8 * (p / 8) := by rw [D_length, List.length_take]; congr 1; omega
  rw [← mid_digs _ _ _ hk]
  generalize bs[p / 8] = c at *
  rw [e, D_append, D_cons]
  rw [List.drop_append, hl]
  rw [List.drop_of_length_le (by rw [hl]; omega), List.nil_append]
  have e2 : p - 8 * (p / 8) = p % 8 := by omega
  rw [e2, List.drop_append_of_le_length (by rw [digs_length]; omega), List.take_append_of_le_length (by rw [List.length_drop, digs_length]; omega)]

/-- The number of k digits from place p on. -/
def num (bs : List Nat) (p k : Nat) : Nat := val (((D bs).drop p).take k)
theorem num_zero (bs : List Nat) (p : Nat) : num bs p 0 = 0 := by simp [num, val]
theorem num_add (bs : List Nat) (p m k : Nat) (hi : (p + m) / 8 < bs.length) (hk : (p + m) % 8 + k ≤ 8) :
    num bs p (m + k) = num bs p m * 2 ^ k + bs[(p + m) / 8] / 2 ^ (8 - (p + m) % 8 - k) % 2 ^ k := by
  unfold num
  have e : ((D bs).drop p).take (m + k) = ((D bs).drop p).take m ++ (((D bs).drop (p + m)).take k) := by
    rw [List.take_add, List.drop_drop]
  rw [e, val_append, D_mid bs (p + m) k hi hk, val_digs, digs_length]
theorem num_lt (bs : List Nat) (p k : Nat) : num bs p k < 2 ^ k := by
  have h := val_lt (((D bs).drop p).take k) (fun x hx => D_lt bs x (List.mem_of_mem_drop (List.mem_of_mem_take hx)))
  refine Nat.lt_of_lt_of_le h (Nat.pow_le_pow_right (by decide) ?_)
  rw [List.length_take]
  omega

/-- A row that holds the digits d, filled up by noughts. -/
structure Wrote (bs d : List Nat) : Prop where
  digits : D bs = d ++ List.replicate (8 * bs.length - d.length) 0
  rows : bs.length = (d.length + 7) / 8
  bytes : ∀ x ∈ bs, x < 256

theorem Wrote.none : Wrote [] [] := ⟨rfl, rfl, by simp⟩
/-- A byte more, when all are full. -/
theorem wrote_more {bs d : List Nat} (h : Wrote bs d) (h8 : d.length % 8 = 0) : D (bs ++ [0]) = d ++ List.replicate 8 0 ∧ ∀ x ∈ bs ++ [0], x < 256 := by
  have hr := h.rows
  refine ⟨?_, ?_⟩
  · rw [D_append, h.digits]
    have e : 8 * bs.length - d.length = 0 := by omega
    rw [e, List.replicate_zero, List.append_nil]
    rfl
  · intro x hx
    simp only [List.mem_append, List.mem_singleton] at hx
    rcases hx with hx | rfl
    · exact h.bytes x hx
    · decide
theorem D_last (ini : List Nat) (c : Nat) : D (ini ++ [c]) = D ini ++ digs 8 c := by rw [D_append]; simp [D]
/-- Digits put into the last byte. -/
theorem put_part (ini d : List Nat) (c z k part : Nat) (hz : z ≤ 8) (hk : k ≤ z) (hd : d.length + z = 8 * (ini.length + 1)) (h : D (ini ++ [c]) = d ++ List.replicate z 0) (hp : part < 2 ^ k) (hc : c < 256) :
    D (ini ++ [c ||| part * 2 ^ (z - k)]) = d ++ digs k part ++ List.replicate (z - k) 0 ∧ c ||| part * 2 ^ (z - k) < 256 := by
  rw [D_last] at h
  have hl : (D ini).length = 8 * ini.length := D_length ini
  obtain ⟨d2, rfl⟩ : ∃ d2, d = D ini ++ d2 := by
    have h1 := congrArg (List.take (8 * ini.length)) h
    rw [List.take_append_of_le_length (by omega), List.take_of_length_le (by omega), List.take_append_of_le_length (by omega)] at h1
    exact ⟨d.drop (8 * ini.length), by rw [h1, List.take_append_drop]⟩
  rw [List.append_assoc, List.append_cancel_left_eq] at h
  rw [List.length_append, hl] at hd
  have e8 : 8 = (8 - z) + z := by omega
  have hs : digs 8 c = digs (8 - z) (c / 2 ^ z) ++ digs z c := by conv => lhs; rw [e8, digs_add]
  rw [hs] at h
  obtain ⟨h2, h3⟩ := List.append_inj h (by rw [digs_length]; omega)
  have hc0 : c % 2 ^ z = 0 := by rw [← val_digs, h3, val_zero]
  obtain ⟨q, rfl⟩ : ∃ q, c = q * 2 ^ z := ⟨c / 2 ^ z, by have := Nat.div_add_mod c (2 ^ z); rw [hc0] at this; rw [Nat.mul_comm]; omega⟩
  have pz : 2 ^ z = 2 ^ k * 2 ^ (z - k) := by rw [← Nat.pow_add]; congr 1; omega
  have hp0 : 0 < 2 ^ (z - k) := Nat.pow_pos (by decide)
  have hsm : part * 2 ^ (z - k) < 2 ^ z := by rw [pz]; exact Nat.mul_lt_mul_of_pos_right hp hp0
  have hj : q * 2 ^ z ||| part * 2 ^ (z - k) = q * 2 ^ z + part * 2 ^ (z - k) := nat_join z _ _ hc0 hsm
  have hq : q < 2 ^ (8 - z) := by
    have h256 : (256 : Nat) = 2 ^ (8 - z) * 2 ^ z := by rw [← Nat.pow_add, ← e8]
    rw [h256] at hc
    exact Nat.lt_of_mul_lt_mul_right hc
  have hsum : q * 2 ^ z + part * 2 ^ (z - k) = (q * 2 ^ k + part) * 2 ^ (z - k) := by rw [pz, Nat.add_mul, Nat.mul_assoc]
  rw [hj]
  refine ⟨?_, ?_⟩
  · rw [D_last, List.append_assoc, List.append_assoc, List.append_cancel_left_eq]
    have hs2 : ∀ x, digs 8 x = digs (8 - z) (x / 2 ^ z) ++ digs z x := fun x => by conv => lhs; rw [e8, digs_add]
    rw [hs2]
    have e1 : (q * 2 ^ z + part * 2 ^ (z - k)) / 2 ^ z = q := by
      rw [Nat.add_comm, Nat.add_mul_div_right _ _ (Nat.pow_pos (by decide)), Nat.div_eq_of_lt hsm, Nat.zero_add]
    rw [e1, ← h2, Nat.mul_div_cancel _ (Nat.pow_pos (by decide))]
    congr 1
    have ez : z = k + (z - k) := by omega
    have hs3 : ∀ x, digs z x = digs k (x / 2 ^ (z - k)) ++ digs (z - k) x := fun x => by conv => lhs; rw [ez, digs_add]
    rw [hs3, hsum, Nat.mul_div_cancel _ hp0, digs_of_zero (z - k) _ (Nat.mul_mod_left _ _)]
    congr 1
    rw [← digs_mod k k _ (Nat.le_refl _)]
    congr 1
    rw [Nat.add_comm, Nat.add_mul_mod_self_right, Nat.mod_eq_of_lt hp]
  · have h256 : (256 : Nat) = 2 ^ (8 - z) * 2 ^ z := by rw [← Nat.pow_add, ← e8]
    rw [h256]
    have : (q + 1) * 2 ^ z ≤ 2 ^ (8 - z) * 2 ^ z := Nat.mul_le_mul_right _ hq
    rw [Nat.add_mul, Nat.one_mul] at this
    omega

theorem wrap_u64_nat (n : Nat) (h : n < 18446744073709551616) : IntKind.u64.wrap (n : Int) = n := by
  rw [IntKind.wrap_u64]
  omega
theorem pow_cast (k : Nat) : (2 : Int) ^ k = ((2 ^ k : Nat) : Int) := by simp
theorem pow_le_64 (k : Nat) (h : k ≤ 64) : 2 ^ k ≤ 18446744073709551616 := Nat.pow_le_pow_right (n := 2) (by decide) h
theorem mask_u64 (k : Nat) (hk : k < 64) : IntKind.u64.wrap (IntKind.u64.wrap (2 ^ k) - 1) = ((2 ^ k - 1 : Nat) : Int) := by
  have h := Nat.pow_lt_pow_right (a := 2) (by decide) hk
  have hp : 0 < 2 ^ k := Nat.pow_pos (by decide)
  have e64 : 2 ^ 64 = 18446744073709551616 := by decide
  rw [e64] at h
  rw [pow_cast, wrap_u64_nat _ h]
  have e : ((2 ^ k : Nat) : Int) - 1 = ((2 ^ k - 1 : Nat) : Int) := by omega
  rw [e, wrap_u64_nat _ (by omega)]
theorem div_cast (c e : Nat) : (c : Int) / 2 ^ e = ((c / 2 ^ e : Nat) : Int) := by simp
/-- The part of k digits of c from digit e on. -/
theorem part_u64 (c e k : Nat) (hc : c < 18446744073709551616) (hk : k < 64) :
    bits .and .u64 ((c : Int) / 2 ^ e) (IntKind.u64.wrap (IntKind.u64.wrap (2 ^ k) - 1)) = ((c / 2 ^ e % 2 ^ k : Nat) : Int) := by
  have h1 := Nat.div_le_self c (2 ^ e)
  have h2 := Nat.pow_lt_pow_right (a := 2) (by decide) hk
  have e64 : 2 ^ 64 = 18446744073709551616 := by decide
  rw [e64] at h2
  rw [mask_u64 k hk, div_cast, u64_and_nat _ _ (by omega) (by omega), Nat.and_two_pow_sub_one_eq_mod]
theorem part_u64' (c k : Nat) (hc : c < 18446744073709551616) (hk : k < 64) :
    bits .and .u64 (c : Int) (IntKind.u64.wrap (IntKind.u64.wrap (2 ^ k) - 1)) = ((c % 2 ^ k : Nat) : Int) := by
  have h := part_u64 c 0 k hc hk
  rw [Int.pow_zero, Int.ediv_one, Nat.pow_zero, Nat.div_one] at h
  exact h
/-- A round of a reader's loop. -/
theorem take_round (s c e k : Nat) (hs : s * 2 ^ k < 18446744073709551616) (hc : c < 256) (hk : k ≤ 8) :
    bits .or .u64 (IntKind.u64.wrap ((s : Int) * 2 ^ k)) (bits .and .u64 ((c : Int) / 2 ^ e) (IntKind.u64.wrap (IntKind.u64.wrap (2 ^ k) - 1))) = ((s * 2 ^ k + c / 2 ^ e % 2 ^ k : Nat) : Int) := by
  have hm : c / 2 ^ e % 2 ^ k < 2 ^ k := Nat.mod_lt _ (Nat.pow_pos (by decide))
  have h8 : 2 ^ k ≤ 2 ^ 8 := Nat.pow_le_pow_right (by decide) hk
  rw [part_u64 c e k (by omega) (by omega), pow_cast, ← Int.natCast_mul, wrap_u64_nat _ hs, u64_or_nat _ _ hs (by omega)]
  rw [nat_join k _ _ (Nat.mul_mod_left _ _) hm]
theorem take_round0 (s c k : Nat) (hs : s * 2 ^ k < 18446744073709551616) (hc : c < 256) (hk : k ≤ 8) :
    bits .or .u64 (IntKind.u64.wrap ((s : Int) * 2 ^ k)) (bits .and .u64 (c : Int) (IntKind.u64.wrap (IntKind.u64.wrap (2 ^ k) - 1))) = ((s * 2 ^ k + c / 2 ^ 0 % 2 ^ k : Nat) : Int) := by
  have h := take_round s c 0 k hs hc hk
  rw [Int.pow_zero, Int.ediv_one] at h
  exact h
theorem num_room (bs : List Nat) (p m k : Nat) (h : m + k ≤ 64) : num bs p m * 2 ^ k < 18446744073709551616 := by
  have h1 := num_lt bs p m
  have h2 : num bs p m * 2 ^ k < 2 ^ m * 2 ^ k := Nat.mul_lt_mul_of_pos_right h1 (Nat.pow_pos (by decide))
  rw [← Nat.pow_add] at h2
  exact Nat.lt_of_lt_of_le h2 (pow_le_64 _ h)
end Go.Proofs.Ytdcclighccejhaa
