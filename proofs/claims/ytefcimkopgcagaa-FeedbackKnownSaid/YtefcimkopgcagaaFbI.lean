/- feedback.Pairs. Conditions: as it says. -/
import Derived.Test.YtefcimkopgcagaaFbH
set_option linter.unusedVariables false
namespace Go.Proofs.Ytefcimkopgcagaa
open Go.RowKit

set_option maxRecDepth 100000 in
set_option maxHeartbeats 4000000 in
theorem fpairs_is (v : Value) (l : List Nat) (w : World) (hr : Rd .u16 w v (nats l)) (hl : l.length ≤ 1000) (hf : ∀ x ∈ l, x < 65536) :
    Calls Try.prog 34 #[v] w fun e w' => ∃ v', e = .returned v' ∧ OwnP w.heap.size 82 v' (pairsOf l) w' ∧ Only (fun _ => False) w w' := by
  obtain ⟨A1, c1, rfl, hlc1, hh1⟩ := hr
  rw [nats_length] at *
  have H1 := Lib.hid hh1
  have HF := Lib.hid hf
  have HAL := Lib.hid (pairsOf_all l hf)
  obtain ⟨L, hL⟩ : ∃ L, l.length = L := ⟨_, rfl⟩
  have HL := Lib.hid hL
  rw [hL] at hl hlc1 ⊢
  obtain ⟨B, hB⟩ : ∃ n, w.heap.size = n := ⟨_, rfl⟩
  have HB := Lib.hid hB
  rw [hB]
  clear hL hh1 hB hf
  go_enter Try.func34, Try.ntmps34
  go_wp2
  go_step3
  go_wp2
  go_step3
  go_wp2
  go_loopw [3, 10] (fun s3 s10 wr => ∃ k : Nat, k ≤ L ∧ s10 = .int .i64 k ∧ OwnP B 82 s3 (pairsOf (l.take k)) wr ∧ Only (fun _ => False) w wr) (fun _ s10 _ => L - (intOf s10).toNat)
  case atStart => exact ⟨0, by omega, rfl, OwnP.nil w B _, Only.refl _ _⟩
  case round =>
    obtain ⟨k, hk, rfl, hown, ho⟩ := hrel
    have OW := Lib.hid hown
    have O3 := Lib.hid ho
    clear hown ho
    by_cases hkl : k < L
    · have hkI : (k : Int) < (L : Int) := by omega
      obtain ⟨g1, o1, rfl, hc1⟩ := H1.out (by rw [nats_length, HL.out]; omega)
      have hkn : k < (nats l).length := by rw [nats_length, HL.out]; exact hkl
      have hkl2 : k < l.length := by rw [HL.out]; exact hkl
      have r1 := hc1 k hkn
      obtain ⟨n, hn⟩ : ∃ n, l[k]? = some n := ⟨_, List.getElem?_eq_getElem hkl2⟩
      have ez : (nats l)[k] = (n : Int) := by
        have := List.getElem?_eq_getElem hkl2
        rw [hn] at this
        injection this with this
        simp [nats, ← this]
      rw [ez] at r1
      have hn6 := HF.out n (List.mem_of_getElem? hn)
      have HTK := Lib.hid (show pairsOf (l.take (k + 1)) = pstep (pairsOf (l.take k)) n from by rw [take_snoc hn, pairsOf_snoc])
      have q1 : wr.cell? ⟨g1, o1 + k, none⟩ = some (.int .u16 (n : Nat)) := (O3.out.cell (World.block_lt_of_cell? w _ r1) (by simp)).trans r1
      have SZ := Lib.hid (show B ≤ wr.heap.size from by rw [← HB.out]; exact O3.out.size)
      obtain ⟨hlen, hfit⟩ := HAL.out k
      clear hc1 hkn r1 hn ez hkl2
      rcases List.eq_nil_or_concat (pairsOf (l.take k)) with e0 | ⟨i, p, e0⟩
      · rw [e0] at OW HTK
        rw [pstep_nil] at HTK
        obtain ⟨A3, c3, e3, -⟩ := OW.out.slice
        rw [List.length_nil] at e3
        subst e3
        clear hlen hfit e0
        go_wp2_with (refine wpList_append_pr sty_pr _ rfl (.tmp 44) (.tmp 47) rfl B (.slice A3 0 c3) [] ⟨n, 0⟩ rfl OW.out _ _ rfl rfl rfl (by simp) SZ.out ?_; intro v5 w5 h5 ho5; have OW5 := Lib.hid h5; have O5 := Lib.hid ho5; clear h5 ho5)
        rw [List.nil_append, ← HTK.out] at OW5
        have T5 := Lib.hid (O3.out.trans O5.out (fun i hi e => by have := (OW.out.1.lt i e).1; have := HB.out; omega))
        exact ⟨⟨k + 1, by omega, by go_num, OW5.out, T5.out⟩, by simp [intOf]; omega⟩
      · rw [e0, List.concat_eq_append] at OW HTK hlen hfit
        rw [pstep_snoc] at HTK
        obtain ⟨g, c3, e3, hpc, hbg, hfz⟩ := OW.out.last
        subst e3
        obtain ⟨m, hm⟩ : ∃ m, i.length = m := ⟨_, rfl⟩
        have HM := Lib.hid hm
        rw [List.length_append, List.length_singleton] at hlen
        rw [hm] at hpc hlen OW ⊢
        obtain ⟨hp1, hp2⟩ := hfit p (by simp)
        obtain ⟨p0, p1⟩ := hpc
        rw [Nat.zero_add] at p0 p1
        have f1 := hfz (m * 2 + 1)
        clear e0 hfit hfz hm
        obtain ⟨d, hd⟩ : ∃ d, ahead p n = d := ⟨_, rfl⟩
        have hw : IntKind.u16.wrap ((n : Int) - (p.pid : Int)) = (d : Int) := by rw [← hd]; unfold ahead; rw [IntKind.wrap_u16]; omega
        have hd6 : d < 65536 := by rw [← hd]; exact Nat.mod_lt _ (by decide)
        unfold put1 at HTK
        rw [hd] at HTK
        clear hd
        go_upto_region 8 with (fail)
        by_cases hd0 : d = 0
        · rw [if_pos hd0] at HTK
          have zd : ((d : Int) == 0) = true := by simp [hd0]
          have hW := OW.out
          rw [← HTK.out] at hW
          have OW5 := Lib.hid hW
          clear hW hd0 hw
          go_wp2
          exact ⟨⟨k + 1, by omega, by go_num, OW5.out, O3.out⟩, by simp [intOf]; omega⟩
        · rw [if_neg hd0] at HTK
          have zd : ((d : Int) == 0) = false := by rw [beq_eq_false_iff_ne]; omega
          by_cases hd16 : d ≤ 16
          · rw [if_pos hd16] at HTK
            have zd2 : (d : Int) ≤ 16 := by omega
            have ZS := Lib.hid (show bits .or .u16 (p.blp : Int) (IntKind.u16.wrap (2 ^ (d - 1))) = ((setb p.blp (d - 1) : Nat) : Int) from by
              have h2 : 2 ^ (d - 1) < 65536 := Nat.pow_lt_pow_right (by decide) (show d - 1 < 16 by omega)
              have e2 : IntKind.u16.wrap (2 ^ (d - 1)) = ((2 ^ (d - 1) : Nat) : Int) := by
                rw [show (2 : Int) ^ (d - 1) = ((2 ^ (d - 1) : Nat) : Int) from by simp, IntKind.wrap_u16]
                generalize 2 ^ (d - 1) = q at *
                omega
              rw [e2, u16_or_nat _ _ hp2 h2, or_setb _ _ hp2 (by omega)])
            clear hw
            go_wp2
            rw [ZS.out]
            have HP := Lib.hid (OW.out.put_last HM.out (setb p.blp (d - 1)))
            rw [← HTK.out] at HP
            have T5 := Lib.hid (O3.out.trans (((Only.refl (fun q => q = g) wr).set (p := ⟨g, m * 2 + 1, none⟩) (fun _ => rfl) (.int .u16 (setb p.blp (d - 1) : Nat)))) (fun i hi e => by have := HB.out; omega))
            exact ⟨⟨k + 1, by omega, by go_num, HP.out, T5.out⟩, by simp [intOf]; omega⟩
          · rw [if_neg hd16] at HTK
            have zd2 : ¬ (d : Int) ≤ 16 := by omega
            clear hw
            go_wp2_with (refine wpList_append_pr sty_pr _ rfl (.tmp 44) (.tmp 47) rfl B (.slice (some ⟨g, 0, none⟩) (m + 1) c3) (i ++ [p]) ⟨n, 0⟩ rfl OW.out _ _ rfl rfl rfl (by rw [List.length_append, List.length_singleton, HM.out]; omega) SZ.out ?_; intro v5 w5 h5 ho5; have OW5 := Lib.hid h5; have O5 := Lib.hid ho5; clear h5 ho5)
            rw [List.append_assoc, show [p] ++ [(⟨n, 0⟩ : Pr)] = [p, ⟨n, 0⟩] from rfl, ← HTK.out] at OW5
            have T5 := Lib.hid (O3.out.trans O5.out (fun i hi e => by have := (OW.out.1.lt i e).1; have := HB.out; omega))
            exact ⟨⟨k + 1, by omega, by go_num, OW5.out, T5.out⟩, by simp [intOf]; omega⟩
    · obtain rfl : k = L := by omega
      have hP := OW.out
      rw [List.take_of_length_le (by rw [HL.out]; exact Nat.le_refl _)] at hP
      have HP := Lib.hid hP
      clear hP
      go_wp2
      try rw [Exit.noGoto_ret]
      go_ret
      exact ⟨_, rfl, HP.out, O3.out⟩
end Go.Proofs.Ytefcimkopgcagaa
