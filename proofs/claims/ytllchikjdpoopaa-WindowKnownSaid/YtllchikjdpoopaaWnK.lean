/- The reference's Missing. Conditions: as each says. -/
import Derived.Test.YtllchikjdpoopaaWnJ
set_option linter.unusedVariables false
namespace Go.Proofs.Ytllchikjdpoopaa
open Go Go.RowKit

theorem rMissTo_start (L : List Nat) (lo k : Nat) (h : k ≤ lo) : rMissTo L lo k = [] := by
  unfold rMissTo
  rw [show k - lo = 0 by omega]
  rfl
theorem rMissTo_succ (L : List Nat) (lo k : Nat) (h : lo ≤ k) : rMissTo L lo (k + 1) = rMissTo L lo k ++ (if k ∈ L then [] else [k]) := by
  unfold rMissTo
  rw [show k + 1 - lo = (k - lo) + 1 by omega, List.range'_concat, List.filter_append, Nat.one_mul, show lo + (k - lo) = k by omega]
  congr 1
  by_cases hf : k ∈ L <;> simp [hf]
theorem rMissTo_len (L : List Nat) (lo k : Nat) : (rMissTo L lo k).length ≤ k - lo := by
  unfold rMissTo
  refine Nat.le_trans (List.length_filter_le _ _) ?_
  rw [List.length_range']
  exact Nat.le_refl _
/-- What the reference's Missing answers. -/
def RMissed (s : Nat) (L : List Nat) (w : World) (e : Ending) (w' : World) : Prop := ∃ v, e = .returned v ∧ Rd .u64 w' v (nats (rMiss s L)) ∧ Only (fun _ => False) w w'
theorem bot_near {s : Nat} {L : List Nat} (hs1 : 1 ≤ s) : rTop L ≤ rBot s L + (s - 1) := by
  unfold rBot
  split <;> omega
set_option maxRecDepth 20000 in
set_option maxHeartbeats 2000000 in
theorem rmissing_is (s : Nat) (v : Value) (L : List Nat) (w : World) (hv : Rd .u64 w v (nats L)) (hl : L.length ≤ 1000) (hs1 : 1 ≤ s) (hs2 : s ≤ 1024) (hL : ∀ x ∈ L, x < 18446744073709551616) :
    Calls Try.prog 17 #[rwV s v] w (RMissed s L w) := by
  have HT := Lib.hid (fun (w1 : World) (ho : Only (fun _ => False) w w1) => rtop_is s v L w1 (hv.said ho) (by omega))
  have HB := Lib.hid (fun (w1 : World) (ho : Only (fun _ => False) w w1) => rbot_is s v L w1 (hv.said ho) (by omega) hs1 hs2 hL)
  have HH := Lib.hid (fun n (w1 : World) (ho : Only (fun _ => False) w w1) => rhas_is n v L w1 (hv.said ho) (by omega))
  have hM : rMiss s L = if L = [] then [] else rMissTo L (max (rBot s L) (L.foldl min (rTop L))) (rTop L) := rfl
  have hnear := bot_near (L := L) hs1
  have htop := rTop_lt hL
  obtain ⟨A, c, rfl, hlc, hh⟩ := hv
  rw [nats_length] at hlc
  simp only [nats_length] at HT HB HH
  rw [nats_length]
  obtain ⟨q, hq⟩ : ∃ q, decide (L ≠ []) = q := ⟨_, rfl⟩
  rw [hq] at HT
  have HQ := Lib.hid hq
  unfold RMissed
  generalize rMiss s L = ms at *
  obtain ⟨N, hN⟩ : ∃ N, L.length = N := ⟨_, rfl⟩
  have HN := Lib.hid hN
  have HCE := Lib.hid hh
  rw [hN] at hl hlc HT HB HH ⊢
  obtain ⟨t, ht⟩ : ∃ t, rTop L = t := ⟨_, rfl⟩
  rw [ht] at hM htop hnear HT
  obtain ⟨bo, hbo⟩ : ∃ b, rBot s L = b := ⟨_, rfl⟩
  rw [hbo] at hM hnear HB
  have HM := Lib.hid hM
  have HNEAR := Lib.hid hnear
  clear hN hh hq hL hM ht hbo hnear
  go_enter Try.func17, Try.ntmps17
  go_upto_region 1 with (fail)
  obtain ⟨p, hp⟩ : ∃ p, w.heap.size = p := ⟨_, rfl⟩
  generalize hw2 : World.alloc w _ = w2
  have I1 := Lib.hid (show Is w2 p 30 #[.int .i64 (s : Int), .slice A N c] from by rw [← hw2, ← hp]; exact Is.made w _ _)
  have O2 := Lib.hid (show Only (fun _ => False) w w2 from by rw [← hw2]; exact (Only.refl _ w).alloc _)
  rw [hp]
  have HWP := Lib.hid (show w.heap.size ≤ p from by omega)
  clear hw2 hp
  go_wp2_with (refine wpList_load_want (o := ⟨some 10, _, _, _, _, _⟩) rfl _ _ rfl p rfl _ _ _ I1.out Try.underlying30 rfl Try.sizeRw ?_)
  refine (HT.out _ O2.out).mono ?_
  rintro e w3 ⟨rfl, ho⟩
  have J1 := Lib.hid (I1.out.only ho (by simp))
  have O3 := Lib.hid (O2.out.trans ho (fun _ _ e => e))
  clear ho I1 O2 HT
  cases q
  · have HMM := Lib.hid (show ms = [] from by
      rw [HM.out, if_pos]
      have := HQ.out
      simpa using this)
    go_wp2
    go_ret
    exact ⟨_, rfl, by rw [HMM.out]; exact Rd.nil _ _, O3.out⟩
  · have hne : L ≠ [] := by
      have := HQ.out
      simpa using this
    have HMM := Lib.hid (show ms = rMissTo L (max bo (L.foldl min t)) t from by rw [HM.out, if_neg hne])
    clear HM hne
    have c1 := J1.out.cell 1
    simp at c1
    go_wp2
    go_loopw [6, 7] (fun s6 s7 wr => ∃ k : Nat, k ≤ N ∧ s7 = .int .i64 k ∧ wr = w3 ∧ s6 = .int .u64 (((L.take k).foldl min t : Nat) : Int)) (fun _ s7 _ => N - (intOf s7).toNat)
    case atStart => exact ⟨0, by omega, rfl, rfl, rfl⟩
    case round =>
      obtain ⟨k, hk, rfl, rfl, rfl⟩ := hrel
      by_cases hkl : k < N
      · have hkI : (k : Int) < (N : Int) := by omega
        obtain ⟨g1, o1, rfl, hc1⟩ := HCE.out (by rw [nats_length, HN.out]; omega)
        have hkn : k < (nats L).length := by rw [nats_length, HN.out]; exact hkl
        have hkx : k < L.length := by rw [HN.out]; exact hkl
        have r0 := hc1 k hkn
        rw [show (nats L)[k] = ((L[k] : Nat) : Int) from by simp [nats]] at r0
        have r1 := (O3.out.cell (World.block_lt_of_cell? w ⟨g1, o1 + k, none⟩ r0) (by simp)).trans r0
        have HTK := Lib.hid (foldl_take min t L k hkx)
        generalize L[k] = z at *
        generalize (L.take k).foldl min t = a at *
        clear hc1 hkn hkx r0
        go_wp2
        exact ⟨⟨k + 1, by omega, by go_num, trivial, int_congr (by rw [HTK.out]; split <;> omega)⟩, by simp [intOf]; omega⟩
      · obtain rfl : k = N := by omega
        have HTK := Lib.hid (show L.take k = L from List.take_of_length_le (by rw [HN.out]; exact Nat.le_refl _))
        rw [HTK.out]
        generalize L.foldl min t = le at *
        clear hkl hk HTK
        go_wp2_with (refine wpList_load_want (o := ⟨some 32, _, _, _, _, _⟩) rfl _ _ rfl p rfl _ _ _ J1.out Try.underlying30 rfl Try.sizeRw ?_)
        refine (HB.out _ O3.out).mono ?_
        rintro e w4 ⟨rfl, ho⟩
        have K1 := Lib.hid (J1.out.only ho (by simp))
        have O4 := Lib.hid (O3.out.trans ho (fun _ _ e => e))
        clear ho J1 O3 HB c1
        obtain ⟨lo, hlo⟩ : ∃ m, max bo le = m := ⟨_, rfl⟩
        have hnear := HNEAR.out
        have hlo2 : t ≤ lo + 1023 := by omega
        rw [hlo] at HMM
        have HLO := Lib.hid hlo
        clear hnear hlo
        have HLE1 := Lib.hid (fun (h : bo < le) => (show lo = le from by have := HLO.out; omega))
        have HLE2 := Lib.hid (fun (h : ¬ bo < le) => (show lo = bo from by have := HLO.out; omega))
        go_wp2
        · obtain rfl := HLE1.out (by assumption)
          go_loopw [3, 8] (fun s3 s8 wr => ∃ j : Nat, s8 = .int .u64 (j : Int) ∧ lo ≤ j ∧ (j ≤ t ∨ j = lo) ∧ wr.ownsRow w.heap.size 23 1 s3 (rMissTo L lo j).length (cells64 (rMissTo L lo j)) ∧ Only (fun _ => False) w wr ∧ Is wr p 30 #[.int .i64 (s : Int), .slice A k c]) (fun _ s8 _ => t - (intOf s8).toNat)
          case atStart =>
            refine ⟨_, rfl, Nat.le_refl _, .inr rfl, ?_, O4.out, K1.out⟩
            rw [rMissTo_start _ _ _ (Nat.le_refl _)]
            exact World.ownsRow_nil _ _ _ _
          case round =>
            obtain ⟨j, rfl, hj1, hj2, hown, ho, hi⟩ := hrel
            have HOWN := Lib.hid hown
            have HO := Lib.hid ho
            have HI := Lib.hid hi
            have c1 := hi.cell 1
            simp at c1
            have HHJ := Lib.hid (HH.out j _ ho)
            have HSUC := Lib.hid (rMissTo_succ L lo j hj1)
            have HLEN := Lib.hid (rMissTo_len L lo j)
            clear hown ho hi K1 O4
            by_cases hlt : j < t
            · have hst : IntKind.u64.wrap ((j : Int) + 1) = ((j + 1 : Nat) : Int) := by rw [IntKind.wrap_u64]; omega
              by_cases hjl : j ∈ L
              · rw [decide_eq_true hjl] at HHJ
                rw [if_pos hjl, List.append_nil] at HSUC
                clear hjl
                go_wp2_with fail
                refine HHJ.out.mono ?_
                rintro e w5 ⟨rfl, rfl⟩
                go_wp2
                refine ⟨?_, ?_⟩
                · exact ⟨j + 1, by go_num, by omega, by omega, by rw [HSUC.out]; exact HOWN.out, HO.out, HI.out⟩
                · simp [intOf]; omega
              · rw [decide_eq_false hjl] at HHJ
                rw [if_neg hjl] at HSUC
                clear hjl
                go_wp2_with fail
                refine HHJ.out.mono ?_
                rintro e w5 ⟨rfl, rfl⟩
                go_wp2_with (refine wpList_app64one _ rfl _ _ rfl w.heap.size _ (rMissTo L lo j) j _ rfl (owned_only HOWN.out ((Only.refl (fun _ => False) _).alloc _) (by simp)) rfl (Is.made _ _ _) (by have := HLEN.out; omega) (by have := HO.out.size; simp; omega) ?_; intro A2 c2 w6 hown6 ho6)
                have hoff := owned_only HOWN.out ((Only.refl (fun _ => False) _).alloc (.cells #[.int .u64 (j : Int)] 23)) (by simp)
                have HO6 := Lib.hid (show Only (fun _ => False) w w6 from (HO.out.alloc _).trans ho6 (fun i hi e => by have := own_base hoff e; omega))
                have HI6 := Lib.hid ((Is.alloc HI.out _).only ho6 (owned_off hoff (Is.alloc HI.out _) (by decide)))
                have HW6 := Lib.hid (show w6.ownsRow w.heap.size 23 1 (.slice A2 ((rMissTo L lo j).length + 1) c2) (rMissTo L lo (j + 1)).length (cells64 (rMissTo L lo (j + 1))) from by
                  rw [HSUC.out]
                  simpa only [List.length_append, List.length_singleton] using hown6)
                clear hown6 ho6 hoff
                refine ⟨?_, ?_⟩
                · exact ⟨j + 1, by go_num, by omega, by omega, HW6.out, HO6.out, HI6.out⟩
                · simp [intOf]; omega
            · have HMS := Lib.hid (show ms = rMissTo L lo j from by
                rw [HMM.out]
                rcases hj2 with h | rfl
                · obtain rfl : j = t := by omega
                  rfl
                · rw [rMissTo_start _ _ _ (Nat.le_refl _), rMissTo_start _ _ _ (by omega)])
              go_wp2
              go_ret
              exact ⟨_, rfl, by rw [HMS.out]; exact own_rd64 HOWN.out, HO.out⟩
        · obtain rfl := HLE2.out (by first | assumption | omega)
          go_loopw [3, 8] (fun s3 s8 wr => ∃ j : Nat, s8 = .int .u64 (j : Int) ∧ lo ≤ j ∧ (j ≤ t ∨ j = lo) ∧ wr.ownsRow w.heap.size 23 1 s3 (rMissTo L lo j).length (cells64 (rMissTo L lo j)) ∧ Only (fun _ => False) w wr ∧ Is wr p 30 #[.int .i64 (s : Int), .slice A k c]) (fun _ s8 _ => t - (intOf s8).toNat)
          case atStart =>
            refine ⟨_, rfl, Nat.le_refl _, .inr rfl, ?_, O4.out, K1.out⟩
            rw [rMissTo_start _ _ _ (Nat.le_refl _)]
            exact World.ownsRow_nil _ _ _ _
          case round =>
            obtain ⟨j, rfl, hj1, hj2, hown, ho, hi⟩ := hrel
            have HOWN := Lib.hid hown
            have HO := Lib.hid ho
            have HI := Lib.hid hi
            have c1 := hi.cell 1
            simp at c1
            have HHJ := Lib.hid (HH.out j _ ho)
            have HSUC := Lib.hid (rMissTo_succ L lo j hj1)
            have HLEN := Lib.hid (rMissTo_len L lo j)
            clear hown ho hi K1 O4
            by_cases hlt : j < t
            · have hst : IntKind.u64.wrap ((j : Int) + 1) = ((j + 1 : Nat) : Int) := by rw [IntKind.wrap_u64]; omega
              by_cases hjl : j ∈ L
              · rw [decide_eq_true hjl] at HHJ
                rw [if_pos hjl, List.append_nil] at HSUC
                clear hjl
                go_wp2_with fail
                refine HHJ.out.mono ?_
                rintro e w5 ⟨rfl, rfl⟩
                go_wp2
                refine ⟨?_, ?_⟩
                · exact ⟨j + 1, by go_num, by omega, by omega, by rw [HSUC.out]; exact HOWN.out, HO.out, HI.out⟩
                · simp [intOf]; omega
              · rw [decide_eq_false hjl] at HHJ
                rw [if_neg hjl] at HSUC
                clear hjl
                go_wp2_with fail
                refine HHJ.out.mono ?_
                rintro e w5 ⟨rfl, rfl⟩
                go_wp2_with (refine wpList_app64one _ rfl _ _ rfl w.heap.size _ (rMissTo L lo j) j _ rfl (owned_only HOWN.out ((Only.refl (fun _ => False) _).alloc _) (by simp)) rfl (Is.made _ _ _) (by have := HLEN.out; omega) (by have := HO.out.size; simp; omega) ?_; intro A2 c2 w6 hown6 ho6)
                have hoff := owned_only HOWN.out ((Only.refl (fun _ => False) _).alloc (.cells #[.int .u64 (j : Int)] 23)) (by simp)
                have HO6 := Lib.hid (show Only (fun _ => False) w w6 from (HO.out.alloc _).trans ho6 (fun i hi e => by have := own_base hoff e; omega))
                have HI6 := Lib.hid ((Is.alloc HI.out _).only ho6 (owned_off hoff (Is.alloc HI.out _) (by decide)))
                have HW6 := Lib.hid (show w6.ownsRow w.heap.size 23 1 (.slice A2 ((rMissTo L lo j).length + 1) c2) (rMissTo L lo (j + 1)).length (cells64 (rMissTo L lo (j + 1))) from by
                  rw [HSUC.out]
                  simpa only [List.length_append, List.length_singleton] using hown6)
                clear hown6 ho6 hoff
                refine ⟨?_, ?_⟩
                · exact ⟨j + 1, by go_num, by omega, by omega, HW6.out, HO6.out, HI6.out⟩
                · simp [intOf]; omega
            · have HMS := Lib.hid (show ms = rMissTo L lo j from by
                rw [HMM.out]
                rcases hj2 with h | rfl
                · obtain rfl : j = t := by omega
                  rfl
                · rw [rMissTo_start _ _ _ (Nat.le_refl _), rMissTo_start _ _ _ (by omega)])
              go_wp2
              go_ret
              exact ⟨_, rfl, by rw [HMS.out]; exact own_rd64 HOWN.out, HO.out⟩
end Go.Proofs.Ytllchikjdpoopaa
