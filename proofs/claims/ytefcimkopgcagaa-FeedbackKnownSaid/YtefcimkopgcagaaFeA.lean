/- What is put is parsed as it was; what is parsed is put so: plainly. Conditions: as each says. -/
import Derived.Test.YtefcimkopgcagaaFdGr
import Derived.Test.YtefcimkopgcagaaFmGr
set_option linter.unusedVariables false
set_option linter.unusedSimpArgs false
namespace Go.Proofs.Ytefcimkopgcagaa
open Go.RowKit

theorem vu_append (a : List Nat) : ∀ n, ∀ b : List Nat, b.length = n → vu (a ++ b) = vu a * 256 ^ n + vu b
  | 0, b, h => by
    obtain rfl : b = [] := List.eq_nil_of_length_eq_zero h
    simp [vu]
  | n + 1, b, h => by
    have hne : b ≠ [] := by intro e; subst e; simp at h
    obtain ⟨c, x, rfl⟩ : ∃ c x, b = c ++ [x] := ⟨b.dropLast, b.getLast hne, (List.dropLast_concat_getLast hne).symm⟩
    have hc : c.length = n := by simpa using h
    rw [← List.append_assoc, vu_snoc, vu_snoc, vu_append a n c hc, Nat.pow_succ]
    have e : (vu a * 256 ^ n + vu c) * 256 = vu a * 256 ^ n * 256 + vu c * 256 := Nat.add_mul _ _ _
    rw [e, Nat.mul_assoc]
    omega
theorem vu_numB : ∀ (k n : Nat), n < 256 ^ k → vu (numB k n) = n
  | 0, n, h => by
    have : n = 0 := by simpa using h
    subst this
    rfl
  | k + 1, n, h => by
    show vu (numB k (n / 256) ++ [n % 256]) = n
    rw [vu_snoc, vu_numB k (n / 256) (by rw [Nat.pow_succ] at h; omega)]
    omega
theorem numB_vu : ∀ (k : Nat) (l : List Nat), l.length = k → (∀ x ∈ l, x < 256) → numB k (vu l) = l
  | 0, l, h, _ => by
    obtain rfl : l = [] := List.eq_nil_of_length_eq_zero h
    rfl
  | k + 1, l, h, hb => by
    have hne : l ≠ [] := by intro e; subst e; simp at h
    obtain ⟨c, x, rfl⟩ : ∃ c x, l = c ++ [x] := ⟨l.dropLast, l.getLast hne, (List.dropLast_concat_getLast hne).symm⟩
    have hc : c.length = k := by simpa using h
    have hx : x < 256 := hb x (by simp)
    rw [vu_snoc]
    show numB k ((vu c * 256 + x) / 256) ++ [(vu c * 256 + x) % 256] = c ++ [x]
    rw [show (vu c * 256 + x) / 256 = vu c by omega, show (vu c * 256 + x) % 256 = x by omega, numB_vu k c hc (fun y hy => hb y (by simp [hy]))]
theorem numB_cat : ∀ (b a n : Nat), numB (a + b) n = numB a (n / 256 ^ b) ++ numB b n
  | 0, a, n => by simp [numB]
  | b + 1, a, n => by
    show numB (a + b) (n / 256) ++ [n % 256] = numB a (n / 256 ^ (b + 1)) ++ (numB b (n / 256) ++ [n % 256])
    rw [numB_cat b a (n / 256), Nat.div_div_eq_div_mul, Nat.pow_succ, Nat.mul_comm 256, List.append_assoc]
theorem numB_mod : ∀ (k j n : Nat), k ≤ j → numB k (n % 256 ^ j) = numB k n
  | 0, _, _, _ => rfl
  | k + 1, j, n, h => by
    obtain ⟨i, rfl⟩ : ∃ i, j = i + 1 := ⟨j - 1, by omega⟩
    show numB k (n % 256 ^ (i + 1) / 256) ++ [n % 256 ^ (i + 1) % 256] = numB k (n / 256) ++ [n % 256]
    have e1 : n % 256 ^ (i + 1) / 256 = n / 256 % 256 ^ i := by
      rw [Nat.pow_succ, Nat.mul_comm, Nat.mod_mul_right_div_self]
    have e2 : n % 256 ^ (i + 1) % 256 = n % 256 := by
      rw [Nat.pow_succ, Nat.mod_mul_left_mod]
    rw [e1, e2, numB_mod k i (n / 256) (by omega)]
theorem flat_at {α : Type} (f : α → List Nat) (c : Nat) : ∀ (l : List α), (∀ x ∈ l, (f x).length = c) → ∀ (j : Nat) (x : α), l[j]? = some x → ((l.flatMap f).drop (c * j)).take c = f x
  | [], _, j, x, h => by simp at h
  | y :: l, hf, 0, x, h => by
    simp at h
    subst h
    have := hf y (by simp)
    rw [List.flatMap_cons, Nat.mul_zero, List.drop_zero, List.take_append_of_le_length (by omega), List.take_of_length_le (by omega)]
  | y :: l, hf, j + 1, x, h => by
    have h0 := hf y (by simp)
    rw [List.flatMap_cons, List.drop_append, List.drop_of_length_le (by rw [h0, Nat.mul_add]; omega), List.nil_append, h0, show c * (j + 1) - c = c * j by rw [Nat.mul_add]; omega]
    exact flat_at f c l (fun z hz => hf z (by simp [hz])) j x (by simpa using h)
theorem flat_pieces (bs : List Nat) (c : Nat) : ∀ n, (List.range n).flatMap (fun j => (bs.drop (c * j)).take c) = bs.take (c * n)
  | 0 => by simp
  | n + 1 => by
    rw [List.range_succ, List.flatMap_append, flat_pieces bs c n, Nat.mul_add, Nat.mul_one, List.take_add]
    simp
theorem four_numB (a b : List Nat) (n k : Nat) (ha : a.length = k) (hn : n < 4294967296) : fourB (a ++ (numB 4 n ++ b)) k = n := by
  unfold fourB
  rw [List.drop_append, List.drop_of_length_le (by omega), List.nil_append, ha, Nat.sub_self, List.drop_zero, List.take_append_of_le_length (by rw [numB_len]; omega), List.take_of_length_le (by rw [numB_len]; omega)]
  exact vu_numB 4 n hn
theorem four_piece (bs : List Nat) (k : Nat) (hb : ∀ x ∈ bs, x < 256) (h : k + 4 ≤ bs.length) : numB 4 (fourB bs k) = (bs.drop k).take 4 :=
  numB_vu 4 _ (by rw [List.length_take, List.length_drop]; omega) (fun x hx => hb x (List.mem_of_mem_drop (List.mem_of_mem_take hx)))
theorem map_get {α : Type} (l : List α) (f : Nat → α) (n : Nat) (hn : l.length = n) (h : ∀ j (hj : j < l.length), f j = l[j]) : (List.range n).map f = l := by
  apply List.ext_getElem
  · simp [hn]
  · intro i h1 h2
    rw [List.getElem_map, List.getElem_range, h i h2]

theorem sOf_kd {s : Nat} (h1 : 1 ≤ s) (h4 : s ≤ 4) : sOf (kdOf s) (ctOf s) = s := by
  have h : s = 1 ∨ s = 2 ∨ s = 3 ∨ s = 4 := by omega
  rcases h with rfl | rfl | rfl | rfl <;> rfl
/-- Behind the head of eight bytes. -/
theorem four_back (a b : List Nat) (k : Nat) (ha : a.length = 8) : fourB (a ++ b) (8 + k) = vu ((b.drop k).take 4) := by
  unfold fourB
  rw [List.drop_append, List.drop_of_length_le (by omega), List.nil_append, ha, show 8 + k - 8 = k by omega]
theorem head_four (m : Ms) (b : List Nat) (hf : MFit m) : fourB (headB m ++ b) 0 = m.sender ∧ fourB (headB m ++ b) 4 = m.media := by
  unfold headB
  refine ⟨?_, ?_⟩
  · have := four_numB [] (numB 4 m.media ++ b) m.sender 0 rfl hf.snd
    rw [List.nil_append] at this
    rw [List.append_assoc]
    exact this
  · rw [List.append_assoc]
    exact four_numB (numB 4 m.sender) b m.media 4 (numB_len _ _) hf.med
theorem none_of {α : Type} {l : List α} (h : l.length = 0) : l = [] := List.eq_nil_of_length_eq_zero h
theorem pairB_len (p : Pr) : (pairB p).length = 4 := by unfold pairB; rw [List.length_append, numB_len, numB_len]
theorem orderB_len (p : Od) : (orderB p).length = 8 := by unfold orderB; rw [List.length_append, numB_len]; rfl
theorem vu_pair (p : Pr) (hp : p.Fit) : vu (pairB p) = p.pid * 65536 + p.blp := by
  unfold pairB
  rw [vu_append _ 2 _ (numB_len _ _), vu_numB 2 _ hp.1, vu_numB 2 _ hp.2]
/-- What is put is parsed as it was. -/
theorem parse_put (m : Ms) (hr : rightMs m = true) (hf : MFit m) : rparse (kdOf m.sort) (ctOf m.sort) (bodyB m) = (m, 0) := by
  have h := of_decide_eq_true hr
  unfold okMs at h
  obtain ⟨s, a, b, P, O, e, t, S⟩ := m
  simp only at h
  rcases h with ⟨rfl, hp1, hp2, ho, hs, he, ht⟩ | ⟨rfl, hp, ho, hs, he, ht⟩ | ⟨rfl, hp, ho1, ho2, hs, he, ht⟩ | ⟨rfl, hp, ho, hs, he, ht⟩
  · obtain rfl := none_of ho
    obtain rfl := none_of hs
    subst he ht
    have eb : bodyB ⟨1, a, b, P, [], 0, 0, []⟩ = headB ⟨1, a, b, P, [], 0, 0, []⟩ ++ P.flatMap pairB := by simp [bodyB, partB]
    obtain ⟨h0, h4⟩ := head_four ⟨1, a, b, P, [], 0, 0, []⟩ (P.flatMap pairB) hf
    have hh := headB_len ⟨1, a, b, P, [], 0, 0, []⟩
    have hl := pairsB_len P
    rw [eb]
    generalize headB ⟨1, a, b, P, [], 0, 0, []⟩ = hd at *
    have hL : (hd ++ P.flatMap pairB).length = 8 + 4 * P.length := by rw [List.length_append, hh, hl]
    unfold rparse
    rw [show sOf (kdOf 1) (ctOf 1) = 1 from rfl, if_neg (by decide), if_neg (by omega), if_pos rfl, if_pos (by omega), hL, show (8 + 4 * P.length - 8) / 4 = P.length by omega]
    unfold msAt
    rw [h0, h4, map_get P _ _ rfl (fun j hj => ?_)]
    unfold pairAt
    have hpf := hf.pairs P[j] (List.getElem_mem hj)
    rw [four_back hd _ _ hh, flat_at pairB 4 P (fun x _ => pairB_len x) j P[j] (List.getElem?_eq_getElem hj), vu_pair _ hpf]
    have h1 := hpf.1
    have h2 := hpf.2
    generalize P[j] = q at *
    obtain ⟨q1, q2⟩ := q
    simp only at h1 h2 ⊢
    rw [Pr.mk.injEq]
    omega
  · obtain rfl := none_of hp
    obtain rfl := none_of ho
    obtain rfl := none_of hs
    subst he ht
    have eb : bodyB ⟨2, a, b, [], [], 0, 0, []⟩ = headB ⟨2, a, b, [], [], 0, 0, []⟩ ++ [] := by simp [bodyB, partB]
    obtain ⟨h0, h4⟩ := head_four ⟨2, a, b, [], [], 0, 0, []⟩ [] hf
    have hh := headB_len ⟨2, a, b, [], [], 0, 0, []⟩
    rw [eb]
    generalize headB ⟨2, a, b, [], [], 0, 0, []⟩ = hd at *
    have hL : (hd ++ ([] : List Nat)).length = 8 := by rw [List.append_nil, hh]
    unfold rparse
    rw [show sOf (kdOf 2) (ctOf 2) = 2 from rfl, if_neg (by decide), if_neg (by omega), if_neg (by decide), if_pos rfl, if_pos (by omega)]
    unfold msAt
    rw [h0, h4]
  · obtain rfl := none_of hp
    obtain rfl := none_of hs
    subst he ht
    have eb : bodyB ⟨3, a, b, [], O, 0, 0, []⟩ = headB ⟨3, a, b, [], O, 0, 0, []⟩ ++ O.flatMap orderB := by simp [bodyB, partB]
    obtain ⟨h0, h4⟩ := head_four ⟨3, a, b, [], O, 0, 0, []⟩ (O.flatMap orderB) hf
    have hh := headB_len ⟨3, a, b, [], O, 0, 0, []⟩
    have hl := ordersB_len O
    rw [eb]
    generalize headB ⟨3, a, b, [], O, 0, 0, []⟩ = hd at *
    have hL : (hd ++ O.flatMap orderB).length = 8 + 8 * O.length := by rw [List.length_append, hh, hl]
    unfold rparse
    rw [show sOf (kdOf 3) (ctOf 3) = 3 from rfl, if_neg (by decide), if_neg (by omega), if_neg (by decide), if_neg (by decide), if_pos rfl, if_pos (by omega), hL, show (8 + 8 * O.length - 8) / 8 = O.length by omega]
    unfold msAt
    rw [h0, h4, map_get O _ _ rfl (fun j hj => ?_)]
    unfold orderAt
    have hpf := hf.orders O[j] (List.getElem_mem hj)
    have hfa := flat_at orderB 8 O (fun x _ => orderB_len x) j O[j] (List.getElem?_eq_getElem hj)
    have e4 : ((O.flatMap orderB).drop (8 * j)).take 4 = (((O.flatMap orderB).drop (8 * j)).take 8).take 4 := by rw [List.take_take]; rfl
    have e5 : (hd ++ O.flatMap orderB).getD (8 + 8 * j + 4) 0 = (((O.flatMap orderB).drop (8 * j)).take 8).getD 4 0 := by
      rw [List.getD_eq_getElem?_getD, List.getD_eq_getElem?_getD, List.getElem?_append_right (by omega), hh, List.getElem?_take_of_lt (by omega), List.getElem?_drop, show 8 + 8 * j + 4 - 8 = 8 * j + 4 by omega]
    rw [four_back hd _ _ hh, e4, e5, hfa]
    have h1 := hpf.1
    generalize O[j] = q at *
    obtain ⟨q1, q2⟩ := q
    simp only at h1
    rw [Od.mk.injEq]
    refine ⟨?_, ?_⟩
    · unfold orderB
      rw [List.take_append_of_le_length (by rw [numB_len]; omega), List.take_of_length_le (by rw [numB_len]; omega)]
      exact vu_numB 4 q1 h1
    · unfold orderB
      rw [List.getD_eq_getElem?_getD, List.getElem?_append_right (by rw [numB_len]; omega), numB_len]
      rfl
  · obtain rfl := none_of hp
    obtain rfl := none_of ho
    have eb : bodyB ⟨4, a, b, [], [], e, t, S⟩ = headB ⟨4, a, b, [], [], e, t, S⟩ ++ ([82, 69, 77, 66] ++ ([S.length] ++ (numB 3 (e * 262144 + t) ++ S.flatMap (numB 4)))) := by simp [bodyB, partB, rateB]
    obtain ⟨h0, h4⟩ := head_four ⟨4, a, b, [], [], e, t, S⟩ ([82, 69, 77, 66] ++ ([S.length] ++ (numB 3 (e * 262144 + t) ++ S.flatMap (numB 4)))) hf
    have hh := headB_len ⟨4, a, b, [], [], e, t, S⟩
    have hl := srcsB_len S
    have hl3 := numB_len 3 (e * 262144 + t)
    rw [eb]
    have hsf := hf.srcs
    generalize headB ⟨4, a, b, [], [], e, t, S⟩ = hd at *
    have hL : (hd ++ ([82, 69, 77, 66] ++ ([S.length] ++ (numB 3 (e * 262144 + t) ++ S.flatMap (numB 4))))).length = 16 + 4 * S.length := by simp only [List.length_append, List.length_cons, List.length_nil, hh, hl, hl3]; omega
    have hn : (hd ++ ([82, 69, 77, 66] ++ ([S.length] ++ (numB 3 (e * 262144 + t) ++ S.flatMap (numB 4))))).getD 12 0 = S.length := by
      rw [List.getD_eq_getElem?_getD, List.getElem?_append_right (by omega), hh]
      rfl
    have hnm : ((hd ++ ([82, 69, 77, 66] ++ ([S.length] ++ (numB 3 (e * 262144 + t) ++ S.flatMap (numB 4))))).drop 8).take 4 = [82, 69, 77, 66] := by
      rw [List.drop_append, List.drop_of_length_le (by omega), List.nil_append, hh]
      rfl
    have h12 : fourB (hd ++ ([82, 69, 77, 66] ++ ([S.length] ++ (numB 3 (e * 262144 + t) ++ S.flatMap (numB 4))))) 12 = S.length * 16777216 + (e * 262144 + t) := by
      rw [show 12 = 8 + 4 from rfl, four_back hd _ _ hh]
      have e1 : (([82, 69, 77, 66] ++ ([S.length] ++ (numB 3 (e * 262144 + t) ++ S.flatMap (numB 4)))).drop 4).take 4 = [S.length] ++ numB 3 (e * 262144 + t) := by
        show ([S.length] ++ (numB 3 (e * 262144 + t) ++ S.flatMap (numB 4))).take 4 = _
        rw [← List.append_assoc, List.take_append_of_le_length (by simp [hl3]), List.take_of_length_le (by simp [hl3])]
      rw [e1, vu_append _ 3 _ hl3, vu_numB 3 _ (by show e * 262144 + t < 16777216; omega)]
      simp [vu]
    have hs4 : ∀ j (hj : j < S.length), fourB (hd ++ ([82, 69, 77, 66] ++ ([S.length] ++ (numB 3 (e * 262144 + t) ++ S.flatMap (numB 4))))) (16 + 4 * j) = S[j] := fun j hj => by
      have e1 : hd ++ ([82, 69, 77, 66] ++ ([S.length] ++ (numB 3 (e * 262144 + t) ++ S.flatMap (numB 4)))) = (hd ++ ([82, 69, 77, 66] ++ ([S.length] ++ numB 3 (e * 262144 + t)))) ++ S.flatMap (numB 4) := by simp
      have e2 : (hd ++ ([82, 69, 77, 66] ++ ([S.length] ++ numB 3 (e * 262144 + t)))).length = 16 := by simp [hh, hl3]
      rw [e1]
      unfold fourB
      rw [List.drop_append, List.drop_of_length_le (by omega), List.nil_append, e2, show 16 + 4 * j - 16 = 4 * j by omega, flat_at (numB 4) 4 S (fun x _ => numB_len 4 x) j S[j] (List.getElem?_eq_getElem hj)]
      exact vu_numB 4 _ (hsf _ (List.getElem_mem hj))
    generalize hd ++ ([82, 69, 77, 66] ++ ([S.length] ++ (numB 3 (e * 262144 + t) ++ S.flatMap (numB 4)))) = B at *
    unfold rparse
    rw [show sOf (kdOf 4) (ctOf 4) = 4 from rfl, if_neg (by decide), if_neg (by omega), if_neg (by decide), if_neg (by decide), if_neg (by decide), hn, if_pos ⟨by omega, hnm, by omega⟩, hL, show (16 + 4 * S.length - 16) / 4 = S.length by omega, h12]
    unfold msAt
    rw [h0, h4, map_get S _ _ rfl hs4, show (S.length * 16777216 + (e * 262144 + t)) % 16777216 / 262144 = e by omega, show (S.length * 16777216 + (e * 262144 + t)) % 16777216 % 262144 = t by omega]
end Go.Proofs.Ytefcimkopgcagaa
