/- Put of a writer. Conditions: as each says. -/
import Derived.Test.YtefcimkopgcagaaBitsF
import Derived.Deep.DeepCutAuto
set_option linter.unusedVariables false
namespace Go.Proofs.Ytefcimkopgcagaa
open Go.RowKit

set_option maxRecDepth 100000 in
set_option maxHeartbeats 2000000 in
theorem put_some (b B K x : Nat) (dg : Int) (d bs : List Nat) (v : Value) (w : World) (h : Wr w b d bs v B) (hB : B ≤ w.heap.size) (hx : x < 18446744073709551616) (hs : d.length + 64 ≤ 70368744177664) (hK : (dg = K ∧ K ≤ 64) ∨ (64 < dg ∧ K = 64)) :
    Calls Try.prog 45 #[ptr b, .int .u64 x, .int .i64 dg] w (DidPut w b (d ++ digs K x) v B) := by
  have HW := Lib.hid h
  have hK64 : K ≤ 64 := by omega
  obtain ⟨i0, hi, hz0, hz1, hz2⟩ := info_parts Try.infoU8
  generalize hdl : d.length = N at *
  have HN := Lib.hid hdl
  clear h hdl
  have hdec : dg ≤ 64 ∨ 64 < dg := by omega
  have hstart : (dg ≤ 64 → Value.int .i64 dg = .int .i64 K) ∧ (64 < dg → Value.int .i64 64 = .int .i64 K) := by
    refine ⟨fun _ => int_congr (by omega), fun _ => int_congr (by omega)⟩
  have HST := Lib.hid hstart
  clear hstart hK
  rcases hdec with hle | hle
  all_goals
    go_enter Try.func45, Try.ntmps45
    go_wp2
    go_loopw [7] (fun left wr => ∃ (j : Nat) (bs' : List Nat) (v' : Value), j ≤ K ∧ left = .int .i64 j ∧ Wr wr b (d ++ digs (K - j) (x / 2 ^ j)) bs' v' B ∧ Moved w v v' ∧ Only (Mine b v) w wr) (fun left _ => (intOf left).toNat)
    case atStart =>
      refine ⟨K, bs, v, Nat.le_refl _, (by first | exact HST.out.1 hle | exact HST.out.2 hle), ?_, .inl rfl, Only.refl _ _⟩
      rw [Nat.sub_self]
      simpa [digs] using HW.out
    case round =>
      obtain ⟨j, bs', v', hj, rfl, hw, hmv, ho⟩ := hrel
      generalize hd1 : d ++ digs (K - j) (x / 2 ^ j) = d1 at *
      have hn1 : d1.length = N + (K - j) := by rw [← hd1, List.length_append, digs_length, HN.out]
      have hc0 := hw.is.cell 0
      have hc1 := hw.is.cell 1
      have hf0 := hw.is.free 0
      have hf1 := hw.is.free 1
      simp at hc0 hc1
      have HW1 := Lib.hid hw
      have HM := Lib.hid hmv
      have HO := Lib.hid ho
      have HD := Lib.hid hd1
      generalize hl1 : d1.length = n1 at *
      have HL1 := Lib.hid hl1
      have hn1' : n1 ≤ N + 64 := by omega
      clear hw hmv ho hd1 hl1 hn1
      by_cases hj0 : 0 < j
      · by_cases h8 : n1 % 8 = 0
        · have hb8 : ((n1 : Int) % 8 == 0) = true := by simp; omega
          have hrows := HW1.out.wrote.rows
          rw [HL1.out] at hrows
          have hbl : bs'.length ≤ n1 := by omega
          generalize hbb : bs'.length = m at *
          have HBB := Lib.hid hbb
          clear hbb hrows
          go_wp2_with (at_builtin; refine wpList_append_lies _ rfl _ _ 35 rfl B 5 i0 (.int .u8 0) 1 1 Try.underlying35 hi hz0 hz1 hz2 rfl (by decide) v' m (cellsOf bs') rfl (by have := HW1.out.row.alloc (.cells #[.int .u8 0] 5); rw [HBB.out] at this; exact this) ⟨wr.heap.size, 0, none⟩ 1 1 [.int .u8 0] rfl rfl (cell_one_new _ _ _) (by simp [Value.oneCell']) (by omega) (by unfold maxLen; omega) (by omega) (by have := HO.out.size; simp; omega) _ rfl ?_)
          intro g cap w2 hown hg hgg _
          have hra := ready_of_append HW1.out (by rw [HL1.out]; exact h8) (by rw [HBB.out]; exact hown) hg (by simpa using hgg)
          rw [HBB.out] at hra
          have hbw : b < (wr.alloc (.cells #[.int .u8 0] 5)).heap.size := (HW1.out.is.alloc _).lt
          have hap := HW1.out.apart
          have hs0 : w2.cell? ⟨b, 0, none⟩ = some v' := (hg.cell_far ⟨b, 0, none⟩ hbw hap.symm).trans ((HW1.out.is.alloc _).cell 0)
          have hs0f : w2.frozen? ⟨b, 0, none⟩ = false := (hg.frozen_far ⟨b, 0, none⟩ hbw hap.symm).trans ((HW1.out.is.alloc _).free 0)
          have HRA := Lib.hid hra
          clear hra hown hg hgg hap
          go_upto_region 7 with (fail)
          obtain ⟨W, hW⟩ : ∃ W, W = w2.setCell ⟨b, 0, none⟩ (.slice (some ⟨g, 0, none⟩) (m + 1) cap) := ⟨_, rfl⟩
          rw [← hW] at HRA ⊢
          have hr := HRA.out
          clear HRA hW hs0 hs0f hc0 hc1 hf0 hf1 hbw
          obtain ⟨bs1, hbs1⟩ : ∃ bs1, bs1 = bs' ++ [0] := ⟨_, rfl⟩
          have hlen1 : bs1.length = m + 1 := by rw [hbs1, List.length_append, HBB.out]; rfl
          rw [← hbs1] at hr
          rw [← hlen1] at hr ⊢
          have HRD := Lib.hid hr.1
          have HOW := Lib.hid (HO.out.trans hr.2.1 HM.out.mine)
          have HMV := Lib.hid (HM.out.trans hr.2.2 HO.out.size)
          clear hr hbs1 hlen1 h8 hb8
          have q0 := HRD.out.is.cell 0
          have q1 := HRD.out.is.cell 1
          have q1f := HRD.out.is.free 1
          have hrow := HRD.out.rows
          simp at q0 q1
          rw [HL1.out] at q1 hrow
          obtain ⟨M, hM⟩ : ∃ M, bs1.length = M + 1 := ⟨bs1.length - 1, by omega⟩
          rw [hM] at q0 hrow
          try rw [hM]
          have HMM := Lib.hid hM
          obtain ⟨c, hcc⟩ : ∃ c, bs1[M]? = some c := ⟨bs1[M], List.getElem?_eq_getElem (by omega)⟩
          have hc256 := HRD.out.bytes c (List.mem_of_getElem? hcc)
          have qc : W.cell? ⟨g, M, none⟩ = some (.int .u8 (c : Int)) := by
            have hrw := HRD.out.row
            rw [HMM.out] at hrw
            rw [hrw.cellAt M (by omega)]
            simp [cellsOf, hcc]
          have qf : W.frozen? ⟨g, M, none⟩ = false := by
            have hrw := HRD.out.row
            rw [HMM.out] at hrw
            exact hrw.frozenAt M
          have hgb : g ≠ b := by
            intro e
            subst e
            rcases HRD.out.row.2 with ⟨q, _⟩ | ⟨g', cap', cur, q, _, q2, _⟩
            · simp at q
            · simp only [Value.slice.injEq, Option.some.injEq, Addr.mk.injEq, and_true, true_and] at q
              obtain ⟨rfl, rfl⟩ := q
              exact Is.apart (t := 5) (u := 123) q2 HRD.out.is (by decide) rfl
          have HCC := Lib.hid hcc
          clear hM hcc
          by_cases hk : j ≤ 8 - n1 % 8
          · have b1 : (j : Int) ≤ 8 - (n1 : Int) % 8 := by omega
            have b2 : IntKind.i64.wrap ((j : Int) - j) = 0 := by rw [Int.sub_self]; rfl
            go_wp2
            go_quiet (fail)
            clear b2
            rw [part_u64' x j hx (by omega)]
            have hpl : x % 2 ^ j < 2 ^ j := Nat.mod_lt _ (Nat.pow_pos (by decide))
            generalize hpt : x % 2 ^ j = part at *
            have HPT := Lib.hid hpt
            have HPL := Lib.hid hpl
            clear hpt hpl
            have b3 : IntKind.i64.wrap (M : Int) = M := IntWalk.i64_in _ (by omega)
            have b4 : (M : Int) < (M : Int) + 1 := by omega
            have b7 : IntKind.i64.wrap (8 - (n1 : Int) % 8 - j) = 8 - (n1 : Int) % 8 - j := IntWalk.i64_in _ (by omega)
            have b8 : (0 : Int) ≤ 8 - (n1 : Int) % 8 - j := by omega
            have b9 : (8 - (n1 : Int) % 8 - j).toNat = 8 - n1 % 8 - j := by omega
            go_wp2
            replace q0 : (W.drewN nq).cell? ⟨b, 0, none⟩ = some (.slice (some ⟨g, 0, none⟩) (M + 1) cap) := q0
            replace q1 : (W.drewN nq).cell? ⟨b, 1, none⟩ = some (.int .i64 (n1 : Nat)) := q1
            replace q1f : (W.drewN nq).frozen? ⟨b, 1, none⟩ = false := q1f
            replace qc : (W.drewN nq).cell? ⟨g, M, none⟩ = some (.int .u8 (c : Int)) := qc
            replace qf : (W.drewN nq).frozen? ⟨g, M, none⟩ = false := qf
            generalize hW1 : W.drewN nq = W1 at *
            have HW2 := Lib.hid hW1
            clear hW1
            go_still_tail 20, (by kernel_rfl)
            go_wp2
            clear b1 b3 b4 b7 b8 b9 q0 q1 q1f qc qf
            have hcl := put_close (k := j) (part := part) (y := bits .or .u8 (c : Int) (IntKind.u64.wrap ((part : Int) * 2 ^ (8 - n1 % 8 - j)) % 256)) (z := (n1 : Int) + j) HRD.out HW1.out.base nq HW2.out HMM.out HCC.out (by rw [HL1.out]; exact hk) hj0 HPL.out rfl ?_ ?_ HOW.out HMV.out
            · obtain ⟨bs2, v2, r1, r2, r3⟩ := hcl
              refine ⟨⟨0, bs2, v2, by omega, rfl, ?_, r2, r3⟩, by simp [intOf]; omega⟩
              have hdm := digs_more K j j x (Nat.le_refl _) hj
              rw [Nat.sub_self, Nat.pow_zero, Nat.div_one, HPT.out] at hdm
              rw [Nat.pow_zero, Nat.div_one, ← hdm, ← List.append_assoc, HD.out]
              exact r1
            · rw [HL1.out]
              exact or_byte c part (8 - n1 % 8) j hc256 HPL.out (by omega) (by omega)
            · rw [HL1.out]; omega
          · have b1 : 8 - (n1 : Int) % 8 < (j : Int) := by omega
            have b2 : IntKind.i64.wrap ((j : Int) - (8 - (n1 : Int) % 8)) = (j : Int) - (8 - (n1 : Int) % 8) := IntWalk.i64_in _ (by omega)
            have b22 : (0 : Int) ≤ (j : Int) - (8 - (n1 : Int) % 8) := by omega
            have b23 : ((j : Int) - (8 - (n1 : Int) % 8)).toNat = j - (8 - n1 % 8) := by omega
            go_wp2
            go_quiet (fail)
            clear b2 b22 b23
            rw [part_u64 x (j - (8 - n1 % 8)) (8 - n1 % 8) hx (by omega)]
            have hpl : x / 2 ^ (j - (8 - n1 % 8)) % 2 ^ (8 - n1 % 8) < 2 ^ (8 - n1 % 8) := Nat.mod_lt _ (Nat.pow_pos (by decide))
            generalize hpt : x / 2 ^ (j - (8 - n1 % 8)) % 2 ^ (8 - n1 % 8) = part at *
            have HPT := Lib.hid hpt
            have HPL := Lib.hid hpl
            clear hpt hpl
            have b3 : IntKind.i64.wrap (M : Int) = M := IntWalk.i64_in _ (by omega)
            have b4 : (M : Int) < (M : Int) + 1 := by omega
            have b7 : IntKind.i64.wrap 0 = 0 := rfl
            go_wp2
            replace q0 : (W.drewN nq).cell? ⟨b, 0, none⟩ = some (.slice (some ⟨g, 0, none⟩) (M + 1) cap) := q0
            replace q1 : (W.drewN nq).cell? ⟨b, 1, none⟩ = some (.int .i64 (n1 : Nat)) := q1
            replace q1f : (W.drewN nq).frozen? ⟨b, 1, none⟩ = false := q1f
            replace qc : (W.drewN nq).cell? ⟨g, M, none⟩ = some (.int .u8 (c : Int)) := qc
            replace qf : (W.drewN nq).frozen? ⟨g, M, none⟩ = false := qf
            generalize hW1 : W.drewN nq = W1 at *
            have HW2 := Lib.hid hW1
            clear hW1
            go_still_tail 20, (by kernel_rfl)
            go_wp2
            clear b1 b3 b4 b7 q0 q1 q1f qc qf
            have hcl := put_close (k := 8 - n1 % 8) (part := part) (y := bits .or .u8 (c : Int) (IntKind.u64.wrap (part : Int) % 256)) (z := (n1 : Int) + (8 - (n1 : Int) % 8)) HRD.out HW1.out.base nq HW2.out HMM.out HCC.out (by rw [HL1.out]; exact Nat.le_refl _) (by omega) HPL.out rfl ?_ ?_ HOW.out HMV.out
            · obtain ⟨bs2, v2, r1, r2, r3⟩ := hcl
              refine ⟨⟨j - (8 - n1 % 8), bs2, v2, by omega, int_congr (by omega), ?_, r2, r3⟩, by simp [intOf]; omega⟩
              have hdm := digs_more K j (8 - n1 % 8) x (by omega) hj
              rw [HPT.out] at hdm
              rw [← hdm, ← List.append_assoc, HD.out]
              exact r1
            · rw [HL1.out]
              have hob := or_byte c part (8 - n1 % 8) (8 - n1 % 8) hc256 HPL.out (Nat.le_refl _) (by omega)
              rw [Nat.sub_self, Int.pow_zero, Int.mul_one] at hob
              rw [Nat.sub_self]
              exact hob
            · rw [HL1.out]; omega
        · have hb8 : ((n1 : Int) % 8 == 0) = false := by simp; omega
          obtain ⟨g, cap, rfl, hr⟩ := ready_of_wr HW1.out (by rw [HL1.out]; exact h8)
          clear hf0 hf1
          go_upto_region 7 with (fail)
          clear hc0 hc1
          obtain ⟨bs1, rfl⟩ : ∃ bs1, bs1 = bs' := ⟨_, rfl⟩
          obtain ⟨W, rfl⟩ : ∃ W, W = wr := ⟨_, rfl⟩
          have HRD := Lib.hid hr
          have HOW := Lib.hid HO.out
          have HMV := Lib.hid HM.out
          clear hr h8 hb8
          have q0 := HRD.out.is.cell 0
          have q1 := HRD.out.is.cell 1
          have q1f := HRD.out.is.free 1
          have hrow := HRD.out.rows
          simp at q0 q1
          rw [HL1.out] at q1 hrow
          obtain ⟨M, hM⟩ : ∃ M, bs1.length = M + 1 := ⟨bs1.length - 1, by omega⟩
          rw [hM] at q0 hrow
          try rw [hM]
          have HMM := Lib.hid hM
          obtain ⟨c, hcc⟩ : ∃ c, bs1[M]? = some c := ⟨bs1[M], List.getElem?_eq_getElem (by omega)⟩
          have hc256 := HRD.out.bytes c (List.mem_of_getElem? hcc)
          have qc : W.cell? ⟨g, M, none⟩ = some (.int .u8 (c : Int)) := by
            have hrw := HRD.out.row
            rw [HMM.out] at hrw
            rw [hrw.cellAt M (by omega)]
            simp [cellsOf, hcc]
          have qf : W.frozen? ⟨g, M, none⟩ = false := by
            have hrw := HRD.out.row
            rw [HMM.out] at hrw
            exact hrw.frozenAt M
          have hgb : g ≠ b := by
            intro e
            subst e
            rcases HRD.out.row.2 with ⟨q, _⟩ | ⟨g', cap', cur, q, _, q2, _⟩
            · simp at q
            · simp only [Value.slice.injEq, Option.some.injEq, Addr.mk.injEq, and_true, true_and] at q
              obtain ⟨rfl, rfl⟩ := q
              exact Is.apart (t := 5) (u := 123) q2 HRD.out.is (by decide) rfl
          have HCC := Lib.hid hcc
          clear hM hcc
          by_cases hk : j ≤ 8 - n1 % 8
          · have b1 : (j : Int) ≤ 8 - (n1 : Int) % 8 := by omega
            have b2 : IntKind.i64.wrap ((j : Int) - j) = 0 := by rw [Int.sub_self]; rfl
            go_wp2
            go_quiet (fail)
            clear b2
            rw [part_u64' x j hx (by omega)]
            have hpl : x % 2 ^ j < 2 ^ j := Nat.mod_lt _ (Nat.pow_pos (by decide))
            generalize hpt : x % 2 ^ j = part at *
            have HPT := Lib.hid hpt
            have HPL := Lib.hid hpl
            clear hpt hpl
            have b3 : IntKind.i64.wrap (M : Int) = M := IntWalk.i64_in _ (by omega)
            have b4 : (M : Int) < (M : Int) + 1 := by omega
            have b7 : IntKind.i64.wrap (8 - (n1 : Int) % 8 - j) = 8 - (n1 : Int) % 8 - j := IntWalk.i64_in _ (by omega)
            have b8 : (0 : Int) ≤ 8 - (n1 : Int) % 8 - j := by omega
            have b9 : (8 - (n1 : Int) % 8 - j).toNat = 8 - n1 % 8 - j := by omega
            go_wp2
            replace q0 : (W.drewN nq).cell? ⟨b, 0, none⟩ = some (.slice (some ⟨g, 0, none⟩) (M + 1) cap) := q0
            replace q1 : (W.drewN nq).cell? ⟨b, 1, none⟩ = some (.int .i64 (n1 : Nat)) := q1
            replace q1f : (W.drewN nq).frozen? ⟨b, 1, none⟩ = false := q1f
            replace qc : (W.drewN nq).cell? ⟨g, M, none⟩ = some (.int .u8 (c : Int)) := qc
            replace qf : (W.drewN nq).frozen? ⟨g, M, none⟩ = false := qf
            generalize hW1 : W.drewN nq = W1 at *
            have HW2 := Lib.hid hW1
            clear hW1
            go_still_tail 20, (by kernel_rfl)
            go_wp2
            clear b1 b3 b4 b7 b8 b9 q0 q1 q1f qc qf
            have hcl := put_close (k := j) (part := part) (y := bits .or .u8 (c : Int) (IntKind.u64.wrap ((part : Int) * 2 ^ (8 - n1 % 8 - j)) % 256)) (z := (n1 : Int) + j) HRD.out HW1.out.base nq HW2.out HMM.out HCC.out (by rw [HL1.out]; exact hk) hj0 HPL.out rfl ?_ ?_ HOW.out HMV.out
            · obtain ⟨bs2, v2, r1, r2, r3⟩ := hcl
              refine ⟨⟨0, bs2, v2, by omega, rfl, ?_, r2, r3⟩, by simp [intOf]; omega⟩
              have hdm := digs_more K j j x (Nat.le_refl _) hj
              rw [Nat.sub_self, Nat.pow_zero, Nat.div_one, HPT.out] at hdm
              rw [Nat.pow_zero, Nat.div_one, ← hdm, ← List.append_assoc, HD.out]
              exact r1
            · rw [HL1.out]
              exact or_byte c part (8 - n1 % 8) j hc256 HPL.out (by omega) (by omega)
            · rw [HL1.out]; omega
          · have b1 : 8 - (n1 : Int) % 8 < (j : Int) := by omega
            have b2 : IntKind.i64.wrap ((j : Int) - (8 - (n1 : Int) % 8)) = (j : Int) - (8 - (n1 : Int) % 8) := IntWalk.i64_in _ (by omega)
            have b22 : (0 : Int) ≤ (j : Int) - (8 - (n1 : Int) % 8) := by omega
            have b23 : ((j : Int) - (8 - (n1 : Int) % 8)).toNat = j - (8 - n1 % 8) := by omega
            go_wp2
            go_quiet (fail)
            clear b2 b22 b23
            rw [part_u64 x (j - (8 - n1 % 8)) (8 - n1 % 8) hx (by omega)]
            have hpl : x / 2 ^ (j - (8 - n1 % 8)) % 2 ^ (8 - n1 % 8) < 2 ^ (8 - n1 % 8) := Nat.mod_lt _ (Nat.pow_pos (by decide))
            generalize hpt : x / 2 ^ (j - (8 - n1 % 8)) % 2 ^ (8 - n1 % 8) = part at *
            have HPT := Lib.hid hpt
            have HPL := Lib.hid hpl
            clear hpt hpl
            have b3 : IntKind.i64.wrap (M : Int) = M := IntWalk.i64_in _ (by omega)
            have b4 : (M : Int) < (M : Int) + 1 := by omega
            have b7 : IntKind.i64.wrap 0 = 0 := rfl
            go_wp2
            replace q0 : (W.drewN nq).cell? ⟨b, 0, none⟩ = some (.slice (some ⟨g, 0, none⟩) (M + 1) cap) := q0
            replace q1 : (W.drewN nq).cell? ⟨b, 1, none⟩ = some (.int .i64 (n1 : Nat)) := q1
            replace q1f : (W.drewN nq).frozen? ⟨b, 1, none⟩ = false := q1f
            replace qc : (W.drewN nq).cell? ⟨g, M, none⟩ = some (.int .u8 (c : Int)) := qc
            replace qf : (W.drewN nq).frozen? ⟨g, M, none⟩ = false := qf
            generalize hW1 : W.drewN nq = W1 at *
            have HW2 := Lib.hid hW1
            clear hW1
            go_still_tail 20, (by kernel_rfl)
            go_wp2
            clear b1 b3 b4 b7 q0 q1 q1f qc qf
            have hcl := put_close (k := 8 - n1 % 8) (part := part) (y := bits .or .u8 (c : Int) (IntKind.u64.wrap (part : Int) % 256)) (z := (n1 : Int) + (8 - (n1 : Int) % 8)) HRD.out HW1.out.base nq HW2.out HMM.out HCC.out (by rw [HL1.out]; exact Nat.le_refl _) (by omega) HPL.out rfl ?_ ?_ HOW.out HMV.out
            · obtain ⟨bs2, v2, r1, r2, r3⟩ := hcl
              refine ⟨⟨j - (8 - n1 % 8), bs2, v2, by omega, int_congr (by omega), ?_, r2, r3⟩, by simp [intOf]; omega⟩
              have hdm := digs_more K j (8 - n1 % 8) x (by omega) hj
              rw [HPT.out] at hdm
              rw [← hdm, ← List.append_assoc, HD.out]
              exact r1
            · rw [HL1.out]
              have hob := or_byte c part (8 - n1 % 8) (8 - n1 % 8) hc256 HPL.out (Nat.le_refl _) (by omega)
              rw [Nat.sub_self, Int.pow_zero, Int.mul_one] at hob
              rw [Nat.sub_self]
              exact hob
            · rw [HL1.out]; omega
      · have hz : j = 0 := by omega
        subst hz
        go_wp2
        go_ret
        rw [Nat.sub_zero, Nat.pow_zero, Nat.div_one] at HD
        refine ⟨rfl, bs', v', ?_, HM.out, HO.out⟩
        rw [HD.out]
        exact HW1.out

set_option maxRecDepth 100000 in
set_option maxHeartbeats 400000 in
theorem put_none (b B : Nat) (x : Int) (dg : Int) (d bs : List Nat) (v : Value) (w : World) (h : Wr w b d bs v B) (hd : dg ≤ 0) :
    Calls Try.prog 45 #[ptr b, .int .u64 x, .int .i64 dg] w (DidPut w b d v B) := by
  have HW := Lib.hid h
  have h64 : dg ≤ 64 := by omega
  clear h
  go_enter Try.func45, Try.ntmps45
  go_wp2
  go_loopw [7] (fun left wr => left = .int .i64 dg ∧ w = wr) (fun _ _ => 0)
  case atStart => exact ⟨rfl, rfl⟩
  case round =>
    obtain ⟨rfl, rfl⟩ := hrel
    go_wp2
    go_ret
    exact ⟨rfl, bs, v, HW.out, .inl rfl, Only.refl _ _⟩

/-- Put: the lowest so many digits more. -/
theorem put_is (b B x : Nat) (dg : Int) (d bs : List Nat) (v : Value) (w : World) (h : Wr w b d bs v B) (hB : B ≤ w.heap.size) (hx : x < 18446744073709551616) (hs : d.length + 64 ≤ 70368744177664) :
    Calls Try.prog 45 #[ptr b, .int .u64 x, .int .i64 dg] w (DidPut w b (d ++ digs (clamp dg) x) v B) := by
  rcases Int.le_total dg 0 with h0 | h0
  · have e : clamp dg = 0 := by unfold clamp; omega
    rw [e]
    simp only [digs, List.append_nil]
    exact put_none b B x dg d bs v w h h0
  · refine put_some b B (clamp dg) x dg d bs v w h hB hx hs ?_
    unfold clamp
    omega

set_option maxRecDepth 100000 in
set_option maxHeartbeats 400000 in
theorem put_nil (x dg : Int) (w : World) : Calls Try.prog 45 #[.pointer none, .int .u64 x, .int .i64 dg] w fun e w' => e = .returned (.pointer none) ∧ w = w' := by
  go_enter Try.func45, Try.ntmps45
  go_wp2
  go_ret
  exact ⟨rfl, rfl⟩

/-- A digit, as a number. -/
def bit (x : Bool) : Nat := if x then 1 else 0

/-- Out: the bytes, in new memory. -/
theorem out_is (b B C : Nat) (d bs : List Nat) (v : Value) (w : World) (h : Wr w b d bs v B) (hC : C ≤ w.heap.size) (hs : d.length ≤ 70368744177664) :
    Calls Try.prog 47 #[ptr b] w (OwnRow C (cellsOf bs) w) :=
  out_row b v _ bs w C hC h.is (Src.of_own h.row) (by have := h.wrote.rows; omega)
/-- A writer that put nothing. -/
theorem wr_new (w : World) (B : Nat) (hB : B ≤ w.heap.size) : Wr (w.alloc (.cells #[.slice none 0 0, .int .i64 0] 123)) w.heap.size [] [] (.slice none 0 0) B :=
  ⟨Is.made _ _ _, World.ownsRow_nil _ _ _ _, Wrote.none, hB⟩
end Go.Proofs.Ytefcimkopgcagaa
