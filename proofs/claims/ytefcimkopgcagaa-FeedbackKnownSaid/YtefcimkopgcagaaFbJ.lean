/- easelref07.Pairs. Conditions: as it says. -/
import Derived.Test.YtefcimkopgcagaaFbH
import Derived.Test.YtefcimkopgcagaaFbC
set_option linter.unusedVariables false
namespace Go.Proofs.Ytefcimkopgcagaa
open Go.RowKit

set_option maxRecDepth 100000 in
set_option maxHeartbeats 4000000 in
theorem rpairs_is (v : Value) (l : List Nat) (w : World) (hr : Rd .u16 w v (nats l)) (hl : l.length ≤ 1000) (hf : ∀ x ∈ l, x < 65536) :
    Calls Try.prog 35 #[v] w fun e w' => ∃ v', e = .returned v' ∧ OwnP w.heap.size 83 v' (pairsOf l) w' ∧ Only (fun _ => False) w w' := by
  obtain ⟨A1, c1, rfl, hlc1, hh1⟩ := hr
  rw [nats_length] at *
  have H1 := Lib.hid hh1
  have HF := Lib.hid hf
  have HAL := Lib.hid (pairsOf_all l hf)
  obtain ⟨L, hL⟩ : ∃ L, l.length = L := ⟨_, rfl⟩
  have HL := Lib.hid hL
  rw [hL] at hl hlc1 ⊢
  obtain ⟨B, hB⟩ : ∃ n, w.heap.size = n := ⟨_, rfl⟩
  have HB := Lib.hid hB
  rw [hB]
  clear hL hh1 hB hf
  go_enter Try.func35, Try.ntmps35
  go_wp2
  go_loopw [3, 4] (fun s3 s10 wr => ∃ k : Nat, k ≤ L ∧ s10 = .int .i64 k ∧ OwnP B 83 s3 (pairsOf (l.take k)) wr ∧ Only (fun _ => False) w wr) (fun _ s10 _ => L - (intOf s10).toNat)
  case atStart => exact ⟨0, by omega, rfl, OwnP.nil w B _, Only.refl _ _⟩
  case round =>
    obtain ⟨k, hk, rfl, hown, ho⟩ := hrel
    have OW := Lib.hid hown
    have O3 := Lib.hid ho
    clear hown ho
    by_cases hkl : k < L
    · have hkI : (k : Int) < (L : Int) := by omega
      obtain ⟨g1, o1, rfl, hc1⟩ := H1.out (by rw [nats_length, HL.out]; omega)
      have hkn : k < (nats l).length := by rw [nats_length, HL.out]; exact hkl
      have hkl2 : k < l.length := by rw [HL.out]; exact hkl
      have r1 := hc1 k hkn
      obtain ⟨n, hn⟩ : ∃ n, l[k]? = some n := ⟨_, List.getElem?_eq_getElem hkl2⟩
      have ez : (nats l)[k] = (n : Int) := by
        have := List.getElem?_eq_getElem hkl2
        rw [hn] at this
        injection this with this
        simp [nats, ← this]
      rw [ez] at r1
      have hn6 := HF.out n (List.mem_of_getElem? hn)
      have HTK := Lib.hid (show pairsOf (l.take (k + 1)) = pstep (pairsOf (l.take k)) n from by rw [take_snoc hn, pairsOf_snoc])
      have q1 : wr.cell? ⟨g1, o1 + k, none⟩ = some (.int .u16 (n : Nat)) := (O3.out.cell (World.block_lt_of_cell? w _ r1) (by simp)).trans r1
      have SZ := Lib.hid (show B ≤ wr.heap.size from by rw [← HB.out]; exact O3.out.size)
      obtain ⟨hlen, hfit⟩ := HAL.out k
      clear hc1 hkn r1 hn ez hkl2
      rcases List.eq_nil_or_concat (pairsOf (l.take k)) with e0 | ⟨i, p, e0⟩
      · rw [e0] at OW HTK
        rw [pstep_nil] at HTK
        obtain ⟨A3, c3, e3, -⟩ := OW.out.slice
        rw [List.length_nil] at e3
        subst e3
        clear hlen hfit e0
        go_wp2_with (refine wpList_append_pr sty_rp _ rfl (.tmp 36) (.tmp 42) rfl B (.slice A3 0 c3) [] ⟨n, 0⟩ rfl OW.out _ _ rfl rfl rfl (by simp) SZ.out ?_; intro v5 w5 h5 ho5; have OW5 := Lib.hid h5; have O5 := Lib.hid ho5; clear h5 ho5)
        rw [List.nil_append, ← HTK.out] at OW5
        have T5 := Lib.hid (O3.out.trans O5.out (fun i hi e => by have := (OW.out.1.lt i e).1; have := HB.out; omega))
        exact ⟨⟨k + 1, by omega, by go_num, OW5.out, T5.out⟩, by simp [intOf]; omega⟩
      · rw [e0, List.concat_eq_append] at OW HTK hlen hfit
        rw [pstep_snoc] at HTK
        obtain ⟨g, c3, e3, hpc, hbg, hfz⟩ := OW.out.last
        subst e3
        obtain ⟨m, hm⟩ : ∃ m, i.length = m := ⟨_, rfl⟩
        have HM := Lib.hid hm
        rw [List.length_append, List.length_singleton] at hlen
        rw [hm] at hpc hlen OW ⊢
        obtain ⟨hp1, hp2⟩ := hfit p (by simp)
        obtain ⟨p0, p1⟩ := hpc
        rw [Nat.zero_add] at p0 p1
        have f1 := hfz (m * 2 + 1)
        clear e0 hfit hfz hm
        obtain ⟨d, hd⟩ : ∃ d, ahead p n = d := ⟨_, rfl⟩
        have hd6 : d < 65536 := by rw [← hd]; exact Nat.mod_lt _ (by decide)
        have hw : ((n : Int) - (p.pid : Int) + 65536).tmod 65536 = (d : Int) := by rw [← hd]; unfold ahead; rw [Int.tmod_eq_emod_of_nonneg (by omega)]; omega
        unfold put1 at HTK
        rw [hd] at HTK
        clear hd
        go_upto_region 8 with (fail)
        go_quiet (fail)
        generalize hwq : World.drewN _ _ = w6
        have A6 := Lib.hid (show Only (fun _ => False) wr w6 from by rw [← hwq]; exact only_drewN _ _)
        have O6 := Lib.hid (only_more O3.out A6.out)
        have OW6 := Lib.hid (OW.out.only A6.out (by simp))
        have SZ6 := Lib.hid (show B ≤ w6.heap.size from by rw [← HB.out]; exact O6.out.size)
        have q6 : w6.cell? ⟨g1, o1 + k, none⟩ = some (.int .u16 (n : Nat)) := (A6.out.cell (World.block_lt_of_cell? _ _ q1) (by simp)).trans q1
        have p6 : w6.cell? ⟨g, m * 2, none⟩ = some (.int .u16 (p.pid : Nat)) := (A6.out.cell (World.block_lt_of_cell? _ _ p0) (by simp)).trans p0
        have p7 : w6.cell? ⟨g, m * 2 + 1, none⟩ = some (.int .u16 (p.blp : Nat)) := (A6.out.cell (World.block_lt_of_cell? _ _ p1) (by simp)).trans p1
        have f6 : w6.frozen? ⟨g, m * 2 + 1, none⟩ = false := by rw [← hwq]; exact f1
        clear hwq q1 p0 p1 f1 hw
        by_cases hd16 : d ≤ 16
        · have zd2 : ¬ (16 : Int) < (d : Int) := by omega
          by_cases hd0 : d = 0
          · rw [if_pos hd0] at HTK
            have zd : ¬ (0 : Int) < (d : Int) := by omega
            have hW := OW6.out
            rw [← HTK.out] at hW
            have OW5 := Lib.hid hW
            clear hW hd0
            go_wp2
            exact ⟨⟨k + 1, by omega, by go_num, OW5.out, O6.out⟩, by simp [intOf]; omega⟩
          · rw [if_neg hd0, if_pos hd16] at HTK
            have zd : (0 : Int) < (d : Int) := by omega
            go_wp2
            go_loopw [7, 8] (fun s7 s8 wx => ∃ j : Nat, 1 ≤ j ∧ j ≤ d ∧ s7 = .int .i64 ((2 ^ (j - 1) : Nat) : Int) ∧ s8 = .int .i64 j ∧ wx = w6) (fun _ s8 _ => d - (intOf s8).toNat)
            case atStart => exact ⟨1, by omega, by omega, rfl, rfl, rfl⟩
            case round =>
              obtain ⟨j, hj1, hj, rfl, rfl, hwx⟩ := hrel
              rw [hwx]
              clear hwx
              obtain ⟨e, he⟩ : ∃ e, 2 ^ (j - 1) = e := ⟨_, rfl⟩
              rw [he]
              have HE := Lib.hid he
              have he2 : e ≤ 32768 := by rw [← he]; exact Nat.pow_le_pow_right (by decide) (show j - 1 ≤ 15 by omega)
              have he1 : 1 ≤ e := by rw [← he]; exact Nat.one_le_two_pow
              clear he
              by_cases hjd : j < d
              · have zj : (j : Int) < (d : Int) := by omega
                have HE2 := Lib.hid (show 2 ^ (j + 1 - 1) = e * 2 from by rw [show j + 1 - 1 = j - 1 + 1 from by omega, Nat.pow_succ, HE.out])
                go_wp2
                exact ⟨⟨j + 1, by omega, by omega, by rw [HE2.out]; go_num, by go_num, by trivial⟩, by simp [intOf]; omega⟩
              · obtain rfl : j = d := by omega
                by_cases hb1 : p.blp / e % 2 = 1
                · have zb : ((RowKit.wrap64 ((p.blp : Int) / (e : Int))).tmod 2 == 0) = false := by
                    have h1 : p.blp / e < 65536 := Nat.lt_of_le_of_lt (Nat.div_le_self _ _) hp2
                    have e0 : (p.blp : Int) / (e : Int) = ((p.blp / e : Nat) : Int) := by simp
                    rw [e0]
                    generalize p.blp / e = q at *
                    rw [IntWalk.wrap64_in _ (by omega), Int.tmod_eq_emod_of_nonneg (by omega), beq_eq_false_iff_ne]
                    omega
                  have hs : setb p.blp (j - 1) = p.blp := by unfold setb; rw [HE.out, if_pos hb1]
                  rw [hs, show (⟨p.pid, p.blp⟩ : Pr) = p from rfl] at HTK
                  have hW := OW6.out
                  rw [← HTK.out] at hW
                  have OW5 := Lib.hid hW
                  clear hW hb1 hs
                  go_wp2
                  exact ⟨⟨k + 1, by omega, by go_num, OW5.out, O6.out⟩, by simp [intOf]; omega⟩
                · have zb : ((RowKit.wrap64 ((p.blp : Int) / (e : Int))).tmod 2 == 0) = true := by
                    have h1 : p.blp / e < 65536 := Nat.lt_of_le_of_lt (Nat.div_le_self _ _) hp2
                    have e0 : (p.blp : Int) / (e : Int) = ((p.blp / e : Nat) : Int) := by simp
                    rw [e0]
                    generalize p.blp / e = q at *
                    rw [IntWalk.wrap64_in _ (by omega), Int.tmod_eq_emod_of_nonneg (by omega), beq_iff_eq]
                    omega
                  have hs : setb p.blp (j - 1) = p.blp + e := by unfold setb; rw [HE.out, if_neg hb1]
                  have hs2 := setb_lt p.blp (j - 1) hp2 (by omega)
                  rw [hs] at hs2
                  rw [hs] at HTK
                  have ws : IntKind.u16.wrap ((p.blp : Int) + (e : Int)) = ((p.blp + e : Nat) : Int) := by rw [IntKind.wrap_u16]; omega
                  have ws2 : IntKind.u16.wrap (e : Int) = (e : Int) := by rw [IntKind.wrap_u16]; omega
                  have HP := Lib.hid (OW6.out.put_last HM.out (p.blp + e))
                  rw [← HTK.out] at HP
                  have T5 := Lib.hid (O6.out.trans (((Only.refl (fun q => q = g) w6).set (p := ⟨g, m * 2 + 1, none⟩) (fun _ => rfl) (.int .u16 ((p.blp + e : Nat) : Int)))) (fun i hi e => by have := HB.out; omega))
                  clear hb1 hs
                  go_wp2
                  exact ⟨⟨k + 1, by omega, by go_num, HP.out, T5.out⟩, by simp [intOf]; omega⟩
        · rw [if_neg (by omega : ¬ d = 0), if_neg hd16] at HTK
          have zd2 : (16 : Int) < (d : Int) := by omega
          go_wp2_with (refine wpList_append_pr sty_rp _ rfl (.tmp 36) (.tmp 42) rfl B (.slice (some ⟨g, 0, none⟩) (m + 1) c3) (i ++ [p]) ⟨n, 0⟩ rfl OW6.out _ _ rfl rfl rfl (by rw [List.length_append, List.length_singleton, HM.out]; omega) SZ6.out ?_; intro v5 w5 h5 ho5; have OW5 := Lib.hid h5; have O5 := Lib.hid ho5; clear h5 ho5)
          rw [List.append_assoc, show [p] ++ [(⟨n, 0⟩ : Pr)] = [p, ⟨n, 0⟩] from rfl, ← HTK.out] at OW5
          have T5 := Lib.hid (O6.out.trans O5.out (fun i hi e => by have := (OW.out.1.lt i e).1; have := HB.out; omega))
          exact ⟨⟨k + 1, by omega, by go_num, OW5.out, T5.out⟩, by simp [intOf]; omega⟩
    · obtain rfl : k = L := by omega
      have hP := OW.out
      rw [List.take_of_length_le (by rw [HL.out]; exact Nat.le_refl _)] at hP
      have HP := Lib.hid hP
      clear hP
      go_wp2
      go_ret
      exact ⟨_, rfl, HP.out, O3.out⟩
end Go.Proofs.Ytefcimkopgcagaa
