/- slices.Insert of a packet that waits: amid, where there is room. Conditions: as each says. -/
import Derived.Test.YtcjbiiphjahjpaaRoF
set_option linter.unusedVariables false
set_option linter.unusedSimpArgs false
namespace Go.Proofs.Ytcjbiiphjahjpaa
open Go Go.RowKit

theorem ins_cells {cur : Array Value} {P xs D : List Value} {a b sz : Nat} (hP : P.length = a) (hD : D.length = b) (hx : xs.length = sz) (hs : a + sz + b ≤ cur.size) (ht : cur.toList.take a = P) :
    (setA (setA cur (a + sz) D) a xs).toList.take (a + sz + b) = P ++ (xs ++ D) := by
  apply List.ext_getElem?
  intro j
  rw [List.getElem?_take, Array.getElem?_toList]
  by_cases hj : j < a + sz + b
  · rw [if_pos hj, setA_get xs _ a j (by rw [setA_size]; omega)]
    by_cases h1 : j < a
    · rw [if_neg (by omega), setA_get D cur _ j (by omega), if_neg (by omega), List.getElem?_append_left (by omega), ← ht, List.getElem?_take_of_lt h1, Array.getElem?_toList]
    · rw [List.getElem?_append_right (by omega), hP]
      by_cases h2 : j < a + sz
      · rw [if_pos (by omega), List.getElem?_append_left (by omega)]
      · rw [if_neg (by omega), setA_get D cur _ j (by omega), if_pos (by omega), List.getElem?_append_right (by omega), hx, Nat.sub_sub]
  · rw [if_neg hj, List.getElem?_eq_none (by simp; omega)]
theorem flat_part {xss : List (List Value)} {sz i n : Nat} (h2 : ∀ xs ∈ xss, xs.length = sz) (hn : xss.length = n) (hi : i ≤ n) : (xss.take i).flatten.length = i * sz ∧ (xss.drop i).flatten.length = (n - i) * sz ∧ xss.flatten.take (i * sz) = (xss.take i).flatten := by
  have h3 : (xss.take i).flatten.length = i * sz := by
    rw [flat_length _ (fun ys hy => h2 ys (List.mem_of_mem_take hy)), List.length_take, hn, Nat.min_eq_left hi]
  have h4 : (xss.drop i).flatten.length = (n - i) * sz := by
    rw [flat_length _ (fun ys hy => h2 ys (List.mem_of_mem_drop hy)), List.length_drop, hn]
  refine ⟨h3, h4, ?_⟩
  have e0 : xss.flatten = (xss.take i).flatten ++ (xss.drop i).flatten := by rw [← List.flatten_append, List.take_append_drop]
  rw [e0, List.take_append_of_le_length (by rw [h3]; exact Nat.le_refl _)]
  exact List.take_of_length_le (by rw [h3]; exact Nat.le_refl _)
theorem own_ins {w : World} {B g n c i : Nat} {T : TypeId} {sz : Nat} {xss : List (List Value)} {xs : List Value} (h : OwnS w B T sz (.slice (some ⟨g, 0, none⟩) n c) xss) (hn : xss.length = n) (hi : i < n) (hx : xs.length = sz) (hroom : n + 1 ≤ c) :
    OwnS ((w.setCells g ((i + 1) * sz) (xss.drop i).flatten).setCells g (i * sz) xs) B T sz (.slice (some ⟨g, 0, none⟩) (n + 1) c) (xss.take i ++ xs :: xss.drop i) ∧ Only (fun j => j = g) w ((w.setCells g ((i + 1) * sz) (xss.drop i).flatten).setCells g (i * sz) xs) := by
  obtain ⟨hP, hD, hT⟩ := flat_part h.2 hn (Nat.le_of_lt hi)
  have hl : (xss.take i ++ xs :: xss.drop i).length = n + 1 := by rw [List.length_append, List.length_cons, List.length_take, List.length_drop]; omega
  have h2 : ∀ ys ∈ xss.take i ++ xs :: xss.drop i, ys.length = sz := fun ys hy => by
    rcases List.mem_append.1 hy with hy | hy
    · exact h.2 ys (List.mem_of_mem_take hy)
    · rcases List.mem_cons.1 hy with rfl | hy
      · exact hx
      · exact h.2 ys (List.mem_of_mem_drop hy)
  have hfl := flat_length _ h2
  have hff : (xss.take i ++ xs :: xss.drop i).flatten = (xss.take i).flatten ++ (xs ++ (xss.drop i).flatten) := by rw [List.flatten_append, List.flatten_cons]
  rcases h.1.2 with ⟨e, h0⟩ | ⟨g', cap, cur, e, hb, hg, hc, hmx, hcs, ht⟩
  · cases e
  · injection e with e1 e2 e3
    injection e1 with e1
    injection e1 with e1
    subst e1 e3
    have hin : i * sz ≤ xss.length * sz := Nat.mul_le_mul_right _ (by omega)
    have hcm : (n + 1) * sz ≤ c * sz := Nat.mul_le_mul_right _ hroom
    have hsum : (n + 1) * sz = i * sz + sz + (n - i) * sz := by
      rw [show n + 1 = i + 1 + (n - i) by omega, Nat.add_mul, Nat.succ_mul]
    have ht2 : cur.toList.take (i * sz) = (xss.take i).flatten := by rw [← hT, ← ht, List.take_take, Nat.min_eq_left hin]
    rw [Nat.succ_mul i sz]
    refine ⟨⟨⟨hfl, .inr ⟨g, c, setA (setA cur (i * sz + sz) (xss.drop i).flatten) (i * sz) xs, by rw [hl], hb, Is.many _ _ _ _ _ (Is.many _ _ _ _ _ hg), by rw [hl]; exact hroom, hmx, by rw [setA_size, setA_size]; exact hcs, ?_⟩⟩, h2⟩, Only.many _ _ _ (Only.many _ _ _ (Only.refl _ w) (fun _ => rfl)) (fun _ => rfl)⟩
    rw [hl, hff, hsum]
    exact ins_cells hP hD hx (by omega) ht2
set_option maxRecDepth 20000 in
set_option maxHeartbeats 4000000 in
theorem insert_room (g n c i gx B : Nat) (xss : List (List Value)) (xs : List Value) (w : World) (h : OwnS w B 79 13 (.slice (some ⟨g, 0, none⟩) n c) xss) (hn : xss.length = n) (hi : i < n) (hI : Is w gx 79 xs.toArray) (hx : xs.length = 13) (h1 : ∀ u ∈ xs, u.oneCell' = true) (h1s : ∀ u ∈ xss.flatten, u.oneCell' = true) (hne : gx ≠ g) (hroom : n + 1 ≤ c) :
    Calls Try.prog 33 #[.slice (some ⟨g, 0, none⟩) n c, .int .i64 (i : Int), .slice (some ⟨gx, 0, none⟩) 1 1] w (Inserted (.slice (some ⟨g, 0, none⟩) n c) i B xss xs w) := by
  obtain ⟨cur, hG, hcs, hxc, hcm, -⟩ := own_is h
  unfold maxLen at hcm
  obtain ⟨hP, hD, -⟩ := flat_part h.2 hn (Nat.le_of_lt hi)
  have hI1 := hI
  have hsize : ∀ w, (Go.sizeOf 79).run Try.prog w = .ok 13 w := fun w => Try.sizeOf79 w
  have hshA : w.shape? gx = some (79, 13) := by
    have hq : w.heap[gx]? = some (.cells xs.toArray 79 (0, 0)) := hI
    simp [World.shape?, hq, hx]
  have hshB : w.shape? g = some (79, c * 13) := by
    have hq : w.heap[g]? = some (.cells cur 79 (0, 0)) := hG
    simp [World.shape?, hq, hcs]
  have hov : ∀ lb cb, (callFunc 44 #[.slice (some ⟨gx, 0, none⟩) 1 1, .slice (some ⟨g, (i + 1) * 13, none⟩) lb cb]).run Try.prog w = .ok (.value (.bool false)) w := fun lb cb => by
    rw [run_callFunc_extern Try.func44 (by kernel_rfl) (by kernel_rfl) (by kernel_rfl) (e := Extern.SlicesOverlaps.overlaps #[63, 63] #[4]) (by kernel_rfl),
      Lib.run_overlaps_apart w 63 4 79 Try.underlying63 13 hsize ⟨gx, 0, none⟩ ⟨g, (i + 1) * 13, none⟩ 1 1 lb cb hne _ _ 13 (c * 13) hshA hshB (by omega) (hI.free 0) (hI.free 13)]
    rfl
  have hmul : (n + 1) * 13 ≤ c * 13 := Nat.mul_le_mul_right _ hroom
  have hcp1 := Lib.hid (fun ty => run_copy_wide (P := Try.prog) w.drew 63 63 ty 79 g ((i + 1) * 13) (n + 1 - (i + 1)) (c - (i + 1)) ⟨g, i * 13, none⟩ (n + 1 - i) (c - i) 13 (n - i) (xss.drop i).flatten Try.underlying63 Try.sizeWt (by simp only [Nat.min_def]; split <;> omega) hD
    (fun j u hj => by rw [Addr.add_lit]; exact h.from_ j u hj)
    (fun j hj => by
      rw [hD] at hj
      show (w.cell? _).isSome = true
      rw [hG.cell, Array.getElem?_eq_getElem (by omega)]
      rfl)
    (fun j _ => hG.free _)
    (fun u hu => h1s u (by rw [show xss.flatten = (xss.take i).flatten ++ (xss.drop i).flatten by rw [← List.flatten_append, List.take_append_drop]]; exact List.mem_append_right _ hu)))
  have HF := Lib.hid (own_ins (w := w.drew) (OwnS.only h ((Only.refl (fun _ => False) w).drewN 1) (by simp)) hn hi hx hroom)
  obtain ⟨W1, hW1⟩ : ∃ W1, W1 = w.drew.setCells g ((i + 1) * 13) (xss.drop i).flatten := ⟨_, rfl⟩
  have hW := Lib.hid hW1
  have hG1 : Is W1 g 79 (setA cur ((i + 1) * 13) (xss.drop i).flatten) := by rw [hW1]; exact Is.many _ _ _ _ _ hG
  have hX1 : Is W1 gx 79 xs.toArray := by
    rw [hW1]
    exact Is.only (w := w.drew) hI (Only.many (S := fun k => k = g) _ _ _ (Only.refl _ _) (fun _ => rfl)) hne
  have hcp2 := Lib.hid (fun ty => run_copy_wide (P := Try.prog) W1 63 63 ty 79 g (i * 13) (n + 1 - i) (c - i) ⟨gx, 0, none⟩ 1 1 13 1 xs Try.underlying63 Try.sizeWt (by simp only [Nat.min_def]; split <;> omega) (by omega)
    (fun j u hj => by rw [Addr.add_lit, Nat.zero_add, hX1.cell, ← hj]; simp)
    (fun j hj => by
      rw [hG1.cell, Array.getElem?_eq_getElem (by rw [setA_size]; omega)]
      rfl)
    (fun j _ => hG1.free _) h1)
  have hb1 : ¬ c = i + 1 := by omega
  have hb2 : ¬ c = i := by omega
  have hb3 : (i : Int) < (n : Int) := by omega
  have hb4 : (n : Int) + 1 ≤ (c : Int) := by omega
  have hw1 : IntKind.i64.wrap ((i : Int) + 1) = (i : Int) + 1 := by rw [IntKind.wrap_i64]; omega
  have hb5 : (0 : Int) ≤ (i : Int) + 1 := by omega
  have htn : ((i : Int) + 1).toNat = i + 1 := by omega
  have hb6 : (i : Int) ≤ (n : Int) + 1 := by omega
  have hb7 : (i : Int) + 1 ≤ (n : Int) + 1 := by omega
  have hb8 : i ≤ n := by omega
  have hb9 : (i : Int) ≤ (n : Int) := by omega
  clear hW1 hG1 hX1 hI1 hsize hshA hshB hP hD hcs hG h hI h1 h1s hmul
  go_enter Try.func33, Try.ntmps33
  go_wp2_with (simp only [hov])
  go_region_law (refine step_copy_of rfl _ _ 63 63 rfl _ _ (by simp [Act.eval, Act.put]) (by simp [Act.eval, Act.put]) hcp1.out ?_; rw [← hW.out])
  have e2 := hcp2.out
  go_wp2
  go_ret
  have HH := HF.out
  rw [← hW.out] at HH
  exact ⟨_, rfl, HH.1, ((Only.refl _ w).drewN 1).trans HH.2 (fun k _ e => by subst e; rfl)⟩
end Go.Proofs.Ytcjbiiphjahjpaa
