/- What is parsed is right, and put so: plainly. Conditions: as each says. -/
import Derived.Test.YtefcimkopgcagaaFeA
set_option linter.unusedVariables false
set_option linter.unusedSimpArgs false
namespace Go.Proofs.Ytefcimkopgcagaa
open Go.RowKit

theorem sOf_inv (kd ct : Nat) (h : sOf kd ct ≠ 0) : kdOf (sOf kd ct) = kd ∧ ctOf (sOf kd ct) = ct := by
  unfold sOf at h ⊢
  split
  · rename_i c; obtain ⟨rfl, rfl⟩ := c; exact ⟨rfl, rfl⟩
  split
  · rename_i c; obtain ⟨rfl, rfl⟩ := c; exact ⟨rfl, rfl⟩
  split
  · rename_i c; obtain ⟨rfl, rfl⟩ := c; exact ⟨rfl, rfl⟩
  split
  · rename_i c; obtain ⟨rfl, rfl⟩ := c; exact ⟨rfl, rfl⟩
  · rename_i h1 h2 h3 h4
    rw [if_neg h1, if_neg h2, if_neg h3, if_neg h4] at h
    exact absurd rfl h
theorem head_back (bs : List Nat) (hb : ∀ x ∈ bs, x < 256) (h : 8 ≤ bs.length) : numB 4 (fourB bs 0) ++ numB 4 (fourB bs 4) = bs.take 8 := by
  rw [four_piece bs 0 hb (by omega), four_piece bs 4 hb (by omega), List.drop_zero]
  exact (List.take_add (l := bs) (i := 4) (j := 4)).symm
theorem flatMap_eq {f g : Nat → List Nat} {n : Nat} (h : ∀ j, j < n → f j = g j) : (List.range n).flatMap f = (List.range n).flatMap g := by
  rw [List.flatMap_def, List.flatMap_def, map_eq f g n h]
theorem pieces_back (bs : List Nat) (k c n : Nat) (h : bs.length = k + c * n) : (List.range n).flatMap (fun j => (bs.drop (k + c * j)).take c) = bs.drop k := by
  have e := flat_pieces (bs.drop k) c n
  rw [List.take_of_length_le (by rw [List.length_drop]; omega)] at e
  rw [← e]
  exact flatMap_eq (fun j _ => by rw [List.drop_drop])
theorem pairB_back (bs : List Nat) (j : Nat) (hb : ∀ x ∈ bs, x < 256) (h : 8 + 4 * j + 4 ≤ bs.length) : pairB (pairAt bs j) = (bs.drop (8 + 4 * j)).take 4 := by
  rw [← four_piece bs (8 + 4 * j) hb h]
  unfold pairB pairAt
  show numB 2 (fourB bs (8 + 4 * j) / 65536) ++ numB 2 (fourB bs (8 + 4 * j) % 65536) = numB (2 + 2) (fourB bs (8 + 4 * j))
  rw [numB_cat 2 2, show 65536 = 256 ^ 2 from rfl, numB_mod 2 2 _ (Nat.le_refl _)]
/-- What is told of a message that was parsed. -/
structure Back (kd ct : Nat) (bs : List Nat) (m : Ms) : Prop where
  right : rightMs m = true
  fit : MFit m
  kd : kdOf m.sort = kd
  ct : ctOf m.sort = ct
  len : (bodyB m).length = bs.length
  same : m.sort ≠ 3 → bodyB m = bs
  few : m.pairs.length ≤ 300 ∧ m.orders.length ≤ 300 ∧ m.srcs.length ≤ 300
theorem put_parse (kd ct : Nat) (bs : List Nat) (m : Ms) (hb : ∀ x ∈ bs, x < 256) (hl : bs.length ≤ 1200) (h : rparse kd ct bs = (m, 0)) : Back kd ct bs m := by
  unfold rparse at h
  split at h
  · simp at h
  rename_i hs0
  obtain ⟨hkd, hct⟩ := sOf_inv kd ct hs0
  split at h
  · simp at h
  rename_i hL
  have hL8 : 8 ≤ bs.length := by omega
  have f0 := four_lt bs 0 hb (by omega)
  have f4 := four_lt bs 4 hb (by omega)
  have hhd := head_back bs hb hL8
  split at h
  · rename_i hs
    split at h
    · rename_i hc
      obtain ⟨rfl, -⟩ := Prod.mk.inj h
      rw [hs] at hkd hct
      have hn : bs.length = 8 + 4 * ((bs.length - 8) / 4) := by omega
      have hbody : bodyB { msAt 1 bs with pairs := (List.range ((bs.length - 8) / 4)).map (pairAt bs) } = bs := by
        have e : bodyB { msAt 1 bs with pairs := (List.range ((bs.length - 8) / 4)).map (pairAt bs) } = (numB 4 (fourB bs 0) ++ numB 4 (fourB bs 4)) ++ ((List.range ((bs.length - 8) / 4)).map (pairAt bs)).flatMap pairB := by simp [bodyB, partB, headB, msAt]
        rw [e, hhd, List.flatMap_map, flatMap_eq (fun j hj => pairB_back bs j hb (by omega)), pieces_back bs 8 4 _ hn, List.take_append_drop]
      refine ⟨decide_eq_true ?_, ⟨by simp [msAt], f0, f4, by simp [msAt], by simp [msAt], ?_, by simp [msAt], by simp [msAt]⟩, hkd, hct, by rw [hbody], fun _ => hbody, by simp [msAt]; omega⟩
      · unfold okMs
        simp [msAt]
        omega
      · intro p hp
        obtain ⟨j, hj, rfl⟩ := List.mem_map.1 hp
        rw [List.mem_range] at hj
        have h1 := four_lt bs (8 + 4 * j) hb (by omega)
        refine ⟨?_, ?_⟩
        · show fourB bs (8 + 4 * j) / 65536 < 65536
          omega
        · show fourB bs (8 + 4 * j) % 65536 < 65536
          omega
    · simp at h
  split at h
  · rename_i hs
    split at h
    · rename_i hc
      obtain ⟨rfl, -⟩ := Prod.mk.inj h
      rw [hs] at hkd hct
      have hbody : bodyB (msAt 2 bs) = bs := by
        have e : bodyB (msAt 2 bs) = numB 4 (fourB bs 0) ++ numB 4 (fourB bs 4) := by simp [bodyB, partB, headB, msAt]
        rw [e, hhd, List.take_of_length_le (by omega)]
      exact ⟨decide_eq_true (by unfold okMs; simp [msAt]), ⟨by simp [msAt], f0, f4, by simp [msAt], by simp [msAt], by simp [msAt], by simp [msAt], by simp [msAt]⟩, hkd, hct, by rw [hbody], fun _ => hbody, by simp [msAt]⟩
    · simp at h
  split at h
  · rename_i hs
    split at h
    · rename_i hc
      obtain ⟨rfl, -⟩ := Prod.mk.inj h
      rw [hs] at hkd hct
      have e : bodyB { msAt 3 bs with orders := (List.range ((bs.length - 8) / 8)).map (orderAt bs) } = (numB 4 (fourB bs 0) ++ numB 4 (fourB bs 4)) ++ ((List.range ((bs.length - 8) / 8)).map (orderAt bs)).flatMap orderB := by simp [bodyB, partB, headB, msAt]
      refine ⟨decide_eq_true ?_, ⟨by simp [msAt], f0, f4, by simp [msAt], by simp [msAt], by simp [msAt], ?_, by simp [msAt]⟩, hkd, hct, ?_, fun h => absurd rfl h, by simp [msAt]; omega⟩
      · unfold okMs
        simp [msAt]
        omega
      · intro p hp
        obtain ⟨j, hj, rfl⟩ := List.mem_map.1 hp
        rw [List.mem_range] at hj
        refine ⟨four_lt bs _ hb (by omega), ?_⟩
        show bs.getD (8 + 8 * j + 4) 0 < 256
        rw [List.getD_eq_getElem?_getD, List.getElem?_eq_getElem (by omega)]
        exact hb _ (List.getElem_mem (by omega))
      · rw [e, hhd, List.length_append, ordersB_len, List.length_map, List.length_range, List.length_take]
        omega
    · simp at h
  rename_i n1 n2 n3
  have hs : sOf kd ct = 4 := by have := sOf_lt kd ct; omega
  split at h
  · rename_i hc
    obtain ⟨hc1, hc2, hc3⟩ := hc
    obtain ⟨rfl, -⟩ := Prod.mk.inj h
    rw [hs] at hkd hct
    have hn : bs.length = 16 + 4 * ((bs.length - 16) / 4) := by omega
    have h12 : (bs.drop 12).take 4 = [bs.getD 12 0] ++ (bs.drop 13).take 3 := by
      have h1 : (bs.drop 12).take (1 + 3) = (bs.drop 12).take 1 ++ ((bs.drop 12).drop 1).take 3 := List.take_add
      rw [List.drop_drop] at h1
      rw [show 4 = 1 + 3 from rfl, h1]
      congr 1
      rw [List.getD_eq_getElem?_getD, List.getElem?_eq_getElem (show 12 < bs.length by omega), List.drop_eq_getElem_cons (show 12 < bs.length by omega)]
      rfl
    have h3l : ((bs.drop 13).take 3).length = 3 := by rw [List.length_take, List.length_drop]; omega
    have hb3 : ∀ x ∈ (bs.drop 13).take 3, x < 256 := fun x hx => hb x (List.mem_of_mem_drop (List.mem_of_mem_take hx))
    have hv := vu_lt 3 ((bs.drop 13).take 3) (by omega) hb3
    have hv : vu ((bs.drop 13).take 3) < 16777216 := hv
    have hf12 : fourB bs 12 % 16777216 = vu ((bs.drop 13).take 3) := by
      unfold fourB
      rw [h12, vu_append _ 3 _ h3l]
      show (vu [bs.getD 12 0] * 16777216 + vu ((bs.drop 13).take 3)) % 16777216 = _
      omega
    have hx24 : fourB bs 12 % 16777216 / 262144 * 262144 + fourB bs 12 % 16777216 % 262144 = fourB bs 12 % 16777216 := by omega
    have hbody : bodyB { msAt 4 bs with exp := fourB bs 12 % 16777216 / 262144, mant := fourB bs 12 % 16777216 % 262144, srcs := (List.range ((bs.length - 16) / 4)).map fun j => fourB bs (16 + 4 * j) } = bs := by
      have e : bodyB { msAt 4 bs with exp := fourB bs 12 % 16777216 / 262144, mant := fourB bs 12 % 16777216 % 262144, srcs := (List.range ((bs.length - 16) / 4)).map fun j => fourB bs (16 + 4 * j) } = (numB 4 (fourB bs 0) ++ numB 4 (fourB bs 4)) ++ ([82, 69, 77, 66] ++ ([(bs.length - 16) / 4] ++ (numB 3 (fourB bs 12 % 16777216 / 262144 * 262144 + fourB bs 12 % 16777216 % 262144) ++ ((List.range ((bs.length - 16) / 4)).map fun j => fourB bs (16 + 4 * j)).flatMap (numB 4)))) := by simp [bodyB, partB, headB, rateB, msAt]
      rw [e, hhd, hx24, hf12, numB_vu 3 _ h3l hb3, List.flatMap_map, flatMap_eq (fun j hj => four_piece bs (16 + 4 * j) hb (by omega)), pieces_back bs 16 4 _ hn, show (bs.length - 16) / 4 = bs.getD 12 0 by omega, ← hc2]
      have p1 : bs.take (8 + 4) = bs.take 8 ++ (bs.drop 8).take 4 := List.take_add
      have p2 : bs.take (12 + 4) = bs.take 12 ++ (bs.drop 12).take 4 := List.take_add
      rw [h12] at p2
      have p3 := List.take_append_drop 16 bs
      rw [show 16 = 12 + 4 from rfl, p2, show 12 = 8 + 4 from rfl, p1] at p3
      simp only [List.append_assoc] at p3
      exact p3
    refine ⟨decide_eq_true ?_, ⟨by simp [msAt], f0, f4, ?_, ?_, by simp [msAt], by simp [msAt], ?_⟩, hkd, hct, by rw [hbody], fun _ => hbody, by simp [msAt]; omega⟩
    · unfold okMs
      have h1 : bs.getD 12 0 < 256 := by rw [List.getD_eq_getElem?_getD, List.getElem?_eq_getElem (by omega)]; exact hb _ (List.getElem_mem (by omega))
      generalize bs.getD 12 0 = c at *
      simp [msAt]
      omega
    · show fourB bs 12 % 16777216 / 262144 < 256
      omega
    · show fourB bs 12 % 16777216 % 262144 < 4294967296
      omega
    · intro x hx
      obtain ⟨j, hj, rfl⟩ := List.mem_map.1 hx
      rw [List.mem_range] at hj
      exact four_lt bs _ hb (by omega)
  · simp at h
end Go.Proofs.Ytefcimkopgcagaa
