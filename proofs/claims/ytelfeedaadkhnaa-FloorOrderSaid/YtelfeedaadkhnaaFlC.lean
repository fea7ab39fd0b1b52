/- floor: slices.Delete of the first who waits. Conditions: as each says. -/
import Derived.Test.YtelfeedaadkhnaaFlB
set_option linter.unusedVariables false
set_option linter.unusedSimpArgs false
namespace Go.Proofs.Ytelfeedaadkhnaa
open Go Go.RowKit

def FDeleted (g m c k B : Nat) (xss : List (List Value)) (w : World) (e : Ending) (w' : World) : Prop :=
  e = .returned (.slice (some ⟨g, 0, none⟩) m c) ∧ OwnS w' B 30 1 (.slice (some ⟨g, 0, none⟩) m c) (xss.drop k) ∧ Only (fun j => j = g) w w'
set_option maxRecDepth 20000 in
set_option maxHeartbeats 2000000 in
theorem fdelete_is (g n c k m B : Nat) (xss : List (List Value)) (w : World) (h : OwnS w B 30 1 (.slice (some ⟨g, 0, none⟩) n c) xss) (hn : xss.length = n) (hk : 0 < k) (hkn : k ≤ n) (hm : n - k = m) (h1 : ∀ u ∈ xss.flatten, u.oneCell' = true) :
    Calls Try.prog 60 #[.slice (some ⟨g, 0, none⟩) n c, .int .i64 0, .int .i64 (k : Int)] w (FDeleted g m c k B xss w) := by
  obtain ⟨cur, hI, hcs, hxc, hcm, -⟩ := own_is h
  rw [hn] at hxc
  unfold maxLen at hcm
  obtain ⟨i0, z, hi, hz0, hz1, hz2, hz3⟩ := sty_32.info
  obtain ⟨news, hnews⟩ : ∃ news, (xss.drop k).flatten = news := ⟨_, rfl⟩
  have s1 := Lib.hid (show news.length = m * 1 from by
    rw [← hnews, flat_length _ (fun ys hy => h.2 ys (List.mem_of_mem_drop hy)), List.length_drop, hn, hm])
  have s2 := Lib.hid (show ∀ u ∈ news, u.oneCell' = true from fun u hu => h1 u (by
    rw [show xss.flatten = (xss.take k).flatten ++ (xss.drop k).flatten by rw [← List.flatten_append, List.take_append_drop]]
    rw [← hnews] at hu
    exact List.mem_append_right _ hu))
  have s3 := Lib.hid (show ∀ t, t < news.length → (w.drew.cell? ⟨g, 0 + 0 * 1 + t, none⟩).isSome = true ∧ w.drew.frozen? ⟨g, 0 + 0 * 1 + t, none⟩ = false from fun t ht => by
    rw [s1.out] at ht
    have hmc : m * 1 ≤ c * 1 := Nat.mul_le_mul_right _ (by omega)
    refine ⟨?_, hI.free _⟩
    have := hI.cell (0 + 0 * 1 + t)
    show (w.cell? _).isSome = true
    rw [this, Array.getElem?_eq_getElem (by omega)]
    rfl)
  obtain ⟨A, hA, hsrc⟩ : ∃ A : Addr, (if c = k then some (⟨g, 0, none⟩ : Addr) else some ⟨g, k, none⟩) = some A ∧ (∀ t u, news[t]? = some u → w.drew.cell? (A.add t) = some u) := by
    by_cases hq : c = k
    · refine ⟨⟨g, 0, none⟩, by simp [hq], fun t u hu => ?_⟩
      have h0 : news.length = 0 := by rw [s1.out]; omega
      rw [List.length_eq_zero_iff.1 h0] at hu
      simp at hu
    · refine ⟨⟨g, k, none⟩, by simp [hq], fun t u hu => ?_⟩
      rw [Addr.add_lit]
      rw [← hnews] at hu
      have := h.from_ (k := k) t u hu
      rw [Nat.mul_one] at this
      exact this
  replace hsrc := Lib.hid hsrc
  obtain ⟨hS, hO⟩ := own_shift (OwnS.only h ((Only.refl (fun _ => False) w).drewN 1) (by simp)) hn hm hkn
  rw [hnews] at hS hO
  obtain ⟨W1, hW1⟩ : ∃ W1, W1 = w.drew.setCells g (0 + 0 * 1) news := ⟨_, rfl⟩
  have hW := Lib.hid hW1
  have S1 := Lib.hid (show OwnS W1 B 30 1 (.slice (some ⟨g, 0, none⟩) m c) (xss.drop k) from by rw [hW1]; exact hS)
  have O1 := Lib.hid (show Only (fun j => j = g) w W1 from by rw [hW1]; exact ((Only.refl _ w).drewN 1).trans hO (fun i _ e => e))
  have hdl : (xss.drop k).length = m := by rw [List.length_drop]; omega
  have hzl : ∀ l, (Builtin.zeroCells zero32.cells l).toList.length = l * 1 := fun l => by rw [Array.length_toList, zeroCells_size]; rfl
  obtain ⟨cur1, hI1, hcs1, -, -, -⟩ := own_is S1.out
  have hcl := fun ty => run_clear_wide (P := Try.prog) W1 33 30 ty zero32 Try.underlying33 zeroV32 g m (n - m) (c - m) (by omega)
    (fun j hj => by
      have hj2 : j < (n - m) * 1 := by rw [← hzl (n - m)]; exact hj
      rw [hI1.cell, Array.getElem?_eq_getElem (by omega)]
      rfl)
    (fun j _ => hI1.free _) (zero32_one (n - m))
  have ht := own_tail S1.out hdl (Builtin.zeroCells zero32.cells (n - m)).toList (by rw [hzl]; omega)
  rw [Nat.mul_one] at ht
  have HT := Lib.hid ht
  clear ht
  have hb1 : ¬ c = m := by omega
  have hb2 : ¬ (k : Int) = 0 := by omega
  have hb3 : (k : Int) ≤ (n : Int) := by omega
  have hb4 : (m : Int) ≤ (n : Int) := by omega
  have hb5 : (n : Int) ≤ (c : Int) := by omega
  have hb6 : k ≤ c := by omega
  clear hS hO hW1 hI hI1 hcs1 hnews hcs h1 h hdl hzl hcm hz0 hz2 hz3
  go_enter Try.func60, Try.ntmps60
  go_wp2_with fail
  go_region_law (refine step_append_room rfl (.tmp 22) (.tmp 25) 33 rfl 30 i0 1 Try.underlying33 hi hz1 g 0 0 c (by simp [Act.eval, Act.put]) A m (c - k) news (by simp [Act.eval, Act.put, hm, hA]) s1.out hsrc.out s2.out (by omega) s3.out ?_; rw [← hW.out, Nat.zero_add])
  go_wp2
  go_ret
  exact ⟨rfl, HT.out.1, O1.out.trans HT.out.2 (fun i _ e => e)⟩
end Go.Proofs.Ytelfeedaadkhnaa
