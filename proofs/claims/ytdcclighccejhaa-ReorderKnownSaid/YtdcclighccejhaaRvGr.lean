/- Merged of RsH RsJ. Conditions: as each says. -/
import Derived.Test.YtdcclighccejhaaRuGr
import Derived.Test.YtdcclighccejhaaRoV
/- ReorderAll's walk. Conditions: as it says. -/
set_option linter.unusedVariables false
set_option linter.unusedSimpArgs false
namespace Go.Proofs.Ytdcclighccejhaa
open Go Go.RowKit

set_option maxRecDepth 100000 in
set_option maxHeartbeats 16000000 in
theorem all_loop (z : Int) (hold : Nat) (lv : Value) (l : List Ac) (us3 : List V3) (w : World) (h : RdAs w lv l us3) (hfit : ∀ a ∈ l, a.Fit) (hbf : ∀ a ∈ l, BFit a.p) (hll : l.length ≤ 9223372036854775807) (hf : fewA l 60 = true) (hz : -9223372036854775808 ≤ z ∧ z ≤ 9223372036854775807) (hh : hold < 18446744073709551616) :
    Calls Try.prog 4 #[.int .i64 z, .int .u64 (hold : Int), lv] w (SaysO (.bool true) w) := by
  obtain ⟨A3, c3, rfl, hc3⟩ := h.sl
  have HF := Lib.hid (rfew_is _ l us3 60 w h (by decide) hll)
  rw [hf] at HF
  have hf2 : (∀ a ∈ l, a.few = true) ∧ l.length ≤ 60 := by
    unfold fewA at hf
    simp only [Bool.and_eq_true, decide_eq_true_eq, List.all_eq_true] at hf
    exact hf
  have HFW := Lib.hid hf2
  have HFIT := Lib.hid hfit
  have HBF := Lib.hid hbf
  have H := Lib.hid h
  obtain ⟨s0, hs0⟩ : ∃ s0 : Nat, z % 256 = (s0 : Int) := ⟨(z % 256).toNat, by omega⟩
  have hs1 : s0 < 256 := by omega
  have HPK := Lib.hid (fun w1 : World => pick_is z 256 w1 hz (by omega) (by omega))
  rw [hs0] at HPK
  have HN := Lib.hid (fun w1 => new_yes (1 + s0) hold w1 (by omega) (by omega))
  have hcs : ((1 + s0 : Nat) : Int) = 1 + (s0 : Int) := by omega
  rw [hcs] at HN
  have HSH := Lib.hid (And.intro hs1 hh)
  obtain ⟨L, hL⟩ : ∃ L, l.length = L := ⟨_, rfl⟩
  have HL := Lib.hid hL
  rw [hL] at hc3 HF hf2 ⊢
  have hL60 := hf2.2
  clear h hfit hbf hll hf hf2 hh hL hz hs0 hcs
  go_enter Try.func4, Try.ntmps4
  go_wp2_with fail
  refine HF.out.mono ?_
  rintro e w0 ⟨rfl, ho1⟩
  have O0 := Lib.hid ho1
  clear ho1 HF
  go_wp2_with fail
  refine (HPK.out w0).mono ?_
  rintro e w0' ⟨rfl, rfl⟩
  clear HPK
  go_wp2_with fail
  refine (HN.out w0).mono ?_
  rintro e w1 ⟨b, rfl, hb, hbw, ho2⟩
  have hss : (1 + (s0 : Int)).toNat = 1 + s0 := by omega
  rw [hss] at hb
  have HB1 := Lib.hid (show w.heap.size ≤ w0.heap.size from O0.out.size)
  obtain ⟨B, hB⟩ : ∃ B, w0.heap.size = B := ⟨_, rfl⟩
  rw [hB] at hb HB1
  have HM1 := Lib.hid (show Mm b w.heap.size B (Bf.new (1 + s0) hold) (.slice none 0 0) [] (.slice none 0 0) (List.zipWith Ac.cls [] []) (.slice none 0 0) (([] : List It).map It.cls) [] w w1 from
    ⟨hb, OwnS.nil _ _ _ _, OwnS.nil _ _ _ _, by simp, by rw [hbw]; exact O0.out.size, HB1.out, by rw [← hB]; exact ho2.size, rfl, O0.out.trans ho2 (fun _ _ e => e)⟩)
  have HP1 := Lib.hid (show Pl (1 + s0) hold 0 0 [] [] [] (Bf.new (1 + s0) hold) w from
    ⟨new_good (by omega) (by have := HSH.out.1; omega) HSH.out.2, ⟨rfl, rfl⟩, ⟨fun _ => ⟨rfl, rfl⟩, fun a0 h0 => by simp at h0, List.Pairwise.nil, by simp [Bf.new], by simp, by simp, by simp [Bf.new]⟩, rfl, fun i a u hi => by simp at hi, by simp, by omega, by simp, by simp [Bf.new]⟩)
  have HSS := Lib.hid hs1
  clear hb hbw ho2 hss hB HN
  go_wp2
  go_loopw [9, 10, 11, 12] (fun s9 s10 s11 s12 wr => ∃ (k now : Nat) (ins : List Ac) (ui : List V3) (out : List It) (m : Bf) (v : Value) (us : List V3), k ≤ L ∧ s12 = .int .i64 (k : Int) ∧ s11 = .int .u64 (now : Int) ∧ Mm b w.heap.size B m v us s9 (List.zipWith Ac.cls ins ui) s10 (out.map It.cls) out w wr ∧ Pl (1 + s0) hold k now ins ui out m w) (fun _ _ _ s12 _ => L - (intOf s12).toNat)
  case atStart => exact ⟨0, 0, _, _, _, _, _, _, by omega, rfl, rfl, HM1.out, HP1.out⟩
  case round =>
    obtain ⟨k, now, ins, ui, out, m, v, us, hk, rfl, rfl, hM, hP⟩ := hrel
    obtain ⟨wr1, hwr1⟩ : ∃ x, x = wr := ⟨_, rfl⟩
    have MM := Lib.hid hM
    have PP := Lib.hid hP
    rw [← hwr1] at MM
    subst hwr1
    obtain ⟨Ai, ci, ei, hci⟩ := hM.inr.slice
    obtain ⟨Ao, co, eo, hco⟩ := hM.outr.slice
    rw [List.length_zipWith, hP.inl, Nat.min_self] at ei hci
    rw [List.length_map] at eo hco
    obtain ⟨M, hMl⟩ : ∃ M, ins.length = M := ⟨_, rfl⟩
    have HMI := Lib.hid hMl
    have HM60 := Lib.hid (show M ≤ 60 from by have := hP.len; omega)
    have HOL := Lib.hid (show out.length ≤ 2 * 60 ∧ m.ws.length ≤ 60 from by have := hP.ln; have := hP.len; omega)
    rw [hMl] at ei hci
    subst ei eo
    clear hM hP HM1 HP1 hMl
    by_cases hkL : k < L
    · obtain ⟨a, ha⟩ : ∃ a, l[k]? = some a := ⟨_, List.getElem?_eq_getElem (by rw [HL.out]; exact hkL)⟩
      obtain ⟨u, hu⟩ : ∃ u, us3[k]? = some u := ⟨_, List.getElem?_eq_getElem (by rw [H.out.len, HL.out]; exact hkL)⟩
      obtain ⟨⟨ga, oa, na, ca, e, hra⟩, hru⟩ := H.out.at_ k a u ha hu
      injection e with e1 e2 e3
      subst e1
      clear e2 e3
      have HAM := Lib.hid (List.mem_of_getElem? ha)
      have HRA := Lib.hid (range_pure hra MM.out.only)
      have HRU := Lib.hid hru
      have HNE := Lib.hid (show ∀ y ∈ a.cls u, y.oneCell' = true from fun y hy => by
        have h1 := a.p.cls_one hru.1.s (src_isSl hru.1.e) (src_isSl hru.1.p)
        unfold Ac.cls at hy
        simp only [List.mem_cons] at hy
        rcases hy with rfl | rfl | rfl | hy
        · rfl
        · rfl
        · rfl
        · rw [Array.all_eq_true'] at h1
          exact h1 y (by simpa using hy))
      obtain ⟨p, hp⟩ : ∃ p, a.p = p := ⟨_, rfl⟩
      obtain ⟨q0, q1, q2, q3, q4, q5, q6, q7, q8, q9, q10, hq⟩ : ∃ q0 q1 q2 q3 q4 q5 q6 q7 q8 q9 q10 : Value, a.p.cls u.1 u.2.1 u.2.2 = #[q0, q1, q2, q3, q4, q5, q6, q7, q8, q9, q10] := ⟨_, _, _, _, _, _, _, _, _, _, _, rfl⟩
      obtain ⟨d, hd⟩ : ∃ d, a.d = d := ⟨_, rfl⟩
      obtain ⟨n, hn⟩ : ∃ n, a.n = n := ⟨_, rfl⟩
      obtain ⟨an, hnow⟩ : ∃ an, a.now = an := ⟨_, rfl⟩
      have hcl : a.cls u = [.int .i64 d, .int .u64 (n : Int), .int .u64 (an : Int), q0, q1, q2, q3, q4, q5, q6, q7, q8, q9, q10] := by unfold Ac.cls; rw [hq, hd, hn, hnow]
      have HCL := Lib.hid (And.intro hd (And.intro hn (And.intro hnow (And.intro hp hq))))
      rw [hcl] at HRA HNE
      have HV := Lib.hid (show (#[.int .i64 d, .int .u64 (n : Int), .int .u64 (an : Int), q0, q1, q2, q3, q4, q5, q6, q7, q8, q9, q10] : Array Value).all (·.oneCell') = true from all_oneCell_toArray HNE.out)
      have HZ := Lib.hid (show Is (wr1.alloc (.cells #[.int .i64 0, .int .u64 0, .int .u64 0, .bool false, .int .u8 0, .int .u16 0, .int .u32 0, .int .u32 0, .slice none 0 0, .bool false, .int .u16 0, .slice none 0 0, .slice none 0 0, .int .u8 0] 44)) wr1.heap.size 44 #[.int .i64 0, .int .u64 0, .int .u64 0, .bool false, .int .u8 0, .int .u16 0, .int .u32 0, .int .u32 0, .slice none 0 0, .bool false, .int .u16 0, .slice none 0 0, .slice none 0 0, .int .u8 0] from Is.made wr1 _ _)
      have hdr := fit_d (HFIT.out a HAM.out).2.2
      have han := (HFIT.out a HAM.out).2.1
      rw [hd] at hdr
      rw [hnow] at han
      have HPK := Lib.hid (fun w1 : World => pick_is d 8 w1 hdr (by omega) (by omega))
      obtain ⟨pk, hpk⟩ : ∃ pk, d % 8 = pk := ⟨_, rfl⟩
      rw [hpk] at HPK
      have HAN := Lib.hid han
      have hkLI : (k : Int) < (L : Int) := by omega
      have HNEQ := Lib.hid (show ∀ y ∈ ([q0, q1, q2, q3, q4, q5, q6, q7, q8, q9, q10] : List Value), y.oneCell' = true from fun y hy => HNE.out y (by simp only [List.mem_cons] at hy ⊢; exact .inr (.inr (.inr hy))))
      have HVB := Lib.hid (show ∀ k, (Value.slice Ai M ci).ownBlock = some k → k < wr1.heap.size from fun k hk => (MM.out.inr.lt k hk).2)
      have HB00 := Lib.hid (show w.heap.size ≤ wr1.heap.size from MM.out.only.size)
      clear ha hu hra hru hp hq hd hn hnow hcl hdr hpk HNE han
      go_upto_region 14 with (first
        | (refine wpList_load_mid rfl 44 _ rfl ga (oa + k * 14) rfl [.int .i64 d, .int .u64 (n : Int), .int .u64 (an : Int), q0, q1, q2, q3, q4, q5, q6, q7, q8, q9, q10] _ HRA.out Try.underlying44 rfl Try.sizeAc ?_)
        | (refine wpList_store_is (o := ⟨none, _, _, _, _, _⟩) rfl 44 _ _ rfl wr1.heap.size #[.int .i64 d, .int .u64 (n : Int), .int .u64 (an : Int), q0, q1, q2, q3, q4, q5, q6, q7, q8, q9, q10] rfl rfl 44 #[.int .i64 0, .int .u64 0, .int .u64 0, .bool false, .int .u8 0, .int .u16 0, .int .u32 0, .int .u32 0, .slice none 0 0, .bool false, .int .u16 0, .slice none 0 0, .slice none 0 0, .int .u8 0] HZ.out Try.sizeAc rfl HV.out ?_; intro w4 hi4 ho4; have I4 := Lib.hid hi4; have O4 := Lib.hid (((Only.refl _ wr1).alloc _).trans ho4 (fun i hi e => by omega) : Only (fun _ => False) wr1 w4); clear hi4 ho4))
      obtain ⟨rb, hrb⟩ : ∃ r, wr1.heap.size = r := ⟨_, rfl⟩
      have HRB := Lib.hid hrb
      rw [hrb] at I4 ⊢
      clear hrb HZ HV HRA
      have d2 : w4.cell? ⟨rb, 2, none⟩ = some (.int .u64 (an : Int)) := I4.out.cell 2
      have d0 : w4.cell? ⟨rb, 0, none⟩ = some (.int .i64 d) := I4.out.cell 0
      go_upto_region 15 with (fail)
      obtain ⟨nw, hnw⟩ : ∃ nw : Nat, (if now < an then (an : Int) else (now : Int)) = (nw : Int) := ⟨if now < an then an else now, by split <;> rfl⟩
      have HNW := Lib.hid (show now ≤ nw ∧ nw < 18446744073709551616 from by
        have := HAN.out
        have := PP.out.nb
        split at hnw <;> omega)
      rw [hnw]
      clear hnw d2
      have PN := Lib.hid (PP.out.late nw HNW.out.1 HNW.out.2)
      have M4 := Lib.hid (MM.out.pure O4.out)
      clear MM PP O4 HAN
      go_wp2_with fail
      refine (HPK.out w4).mono ?_
      rintro e w4' ⟨rfl, rfl⟩
      clear HPK d0
      by_cases hp6 : pk = 6
      · subst hp6
        obtain ⟨j, hj⟩ : ∃ j, m.goes (m.must nw) = j := ⟨_, rfl⟩
        have HJ := Lib.hid hj
        have HCL2 := Lib.hid (rtick_is b nw B m v us w4 M4.out.bf PN.out.good HNW.out.2)
        rw [hj] at HCL2
        have HGJ := Lib.hid (show (m.gone j).Good ∧ j ≤ m.ws.length from by rw [← hj]; exact ⟨goes_good PN.out.good _, m.goes_le _⟩)
        clear hj
        obtain ⟨its, hits⟩ : ∃ its, items m.nx (m.ws.take j) (us.take j) = its := ⟨_, rfl⟩
        have HITS := Lib.hid hits
        have HIL := Lib.hid (show out.length + its.length ≤ 100000 from by rw [← hits]; have hil := items_len (m.ws.take j) (us.take j) m.nx; have hol := HOL.out; rw [List.length_take] at hil; omega)
        clear hits
        go_upto_region 23 with (first
          | ((with_reducible refine HCL2.out.mono ?_); rintro e w5 ⟨vo, rfl, hW⟩; obtain ⟨v', hm5, hs5⟩ := M4.out.call hW; rw [HITS.out] at hm5 hs5; obtain ⟨Av, cv, ev, -⟩ := hs5.slice; rw [List.length_map] at ev; subst ev; have M5 := Lib.hid hm5; have S5 := Lib.hid hs5; have HB5 := Lib.hid (show w.heap.size ≤ w5.heap.size from hm5.only.size); have HL5 := Lib.hid (show (out.map It.cls).length + (its.map It.cls).length ≤ 100000 from by rw [List.length_map, List.length_map]; exact HIL.out); clear hW hm5 hs5)
          | (at_builtin; refine wpList_append_rowsG _ rfl _ _ sty_ot rfl w.heap.size _ _ rfl M5.out.outr w.heap.size _ _ rfl S5.out (it_rowsA _) HL5.out (by decide) HB5.out ?_; intro v6 w6 hS6 hO6; rw [← List.map_append] at hS6; have M6 := Lib.hid (M5.out.appOut hS6 hO6); clear hS6 hO6))
        have P6 := Lib.hid (PN.out.go HGJ.out.2 HGJ.out.1 us M4.out.bf.pks.len)
        rw [HITS.out] at P6
        clear HCL2 M4 M5 S5 HB5 HL5 HIL

        have HYG := Lib.hid (show ∀ x ∈ (m.gone j).ws, ∀ a ∈ ins, x.n = a.n → nw - a.now < hold ∧ a.now ≤ nw from by rw [← HJ.out]; exact PN.out.young)
        have HIC := Lib.hid (show ∀ i, i < M → ∃ (g : Nat) (c : Ac), Ai = some ⟨g, 0, none⟩ ∧ c ∈ ins ∧ ∀ wx, Only (fun _ => False) w6 wx → wx.cell? ⟨g, i * 14 + 1, none⟩ = some (.int .u64 (c.n : Int)) ∧ wx.cell? ⟨g, i * 14 + 2, none⟩ = some (.int .u64 (c.now : Int)) from fun i hi => by
          obtain ⟨c, hc⟩ : ∃ c, ins[i]? = some c := ⟨_, List.getElem?_eq_getElem (show i < ins.length by rw [HMI.out]; exact hi)⟩
          obtain ⟨x, hx⟩ : ∃ x, ui[i]? = some x := ⟨_, List.getElem?_eq_getElem (show i < ui.length by rw [P6.out.inl, HMI.out]; exact hi)⟩
          have hzl : 0 < (List.zipWith Ac.cls ins ui).length := by rw [List.length_zipWith, P6.out.inl, Nat.min_self, HMI.out]; omega
          obtain ⟨g, cg, e, -⟩ := M6.out.inr.place hzl
          injection e with e1
          subst e1
          have hr := M6.out.inr.range (i := i) rfl (show (List.zipWith Ac.cls ins ui)[i]? = some (Ac.cls c x) from by rw [List.getElem?_zipWith, hc, hx])
          exact ⟨g, _, rfl, List.mem_of_getElem? hc, fun wx ho => ⟨range_pure hr ho 1 _ rfl, range_pure hr ho 2 _ rfl⟩⟩)
        have HWT := Lib.hid (rwait_is b _ _ _ B _ M6.out.bf P6.out.good.ok.fit)
        unfold Waits at HWT
        go_wp2_with fail
        refine HWT.out.mono ?_
        rintro e w7 ⟨wv, rfl, hrow, ho7⟩
        obtain ⟨Aw, cw, rfl, hcw⟩ := own_slice hrow
        have O67 := Lib.hid ho7
        have M7 := Lib.hid (M6.out.pure ho7)
        have HWC := Lib.hid (show ∀ n, n < (m.gone j).ws.length → ∃ (g : Nat) (x : Wt), Aw = some ⟨g, 0, none⟩ ∧ x ∈ (m.gone j).ws ∧ ∀ wx, Only (fun _ => False) w7 wx → wx.cell? ⟨g, n, none⟩ = some (.int .u64 (x.n : Int)) from fun n hn => by
          have hl : ((m.gone j).ws.map Wt.n).length = (m.gone j).ws.length := List.length_map _
          have hrow2 : w7.ownsRow w6.heap.size 22 1 (.slice Aw ((m.gone j).ws.map Wt.n).length cw) ((m.gone j).ws.map Wt.n).length (cells64 ((m.gone j).ws.map Wt.n)) := by rw [hl]; exact hrow
          obtain ⟨g, cur, e, -, hi, hsz, hcur⟩ := (SdAt.first hrow2 ho7).row (by omega)
          refine ⟨g, (m.gone j).ws[n], e, List.getElem_mem _, fun wx ho => ?_⟩
          rw [(hi.only ho (by simp)).cell, hcur n (by omega) (Nat.zero_le _), List.getElem_map])
        obtain ⟨W, hW⟩ : ∃ W, (m.gone j).ws.length = W := ⟨_, rfl⟩
        have HW60 := Lib.hid (show W ≤ 60 from by rw [← hW]; show (m.ws.drop j).length ≤ 60; rw [List.length_drop]; have := HOL.out.2; omega)
        rw [hW] at HWC ⊢
        clear hrow ho7 HWT hW M6 hcw HJ
        have hM60 := HM60.out
        have hW60 := HW60.out
        go_wp2
        go_loopw [15] (fun s15 wr => ∃ i : Nat, i ≤ M ∧ s15 = .int .i64 (i : Int) ∧ Only (fun _ => False) w7 wr) (fun s15 _ => M - (intOf s15).toNat)
        case atStart => exact ⟨0, by omega, rfl, Only.refl _ w7⟩
        case round =>
          obtain ⟨i, hi, rfl, ho8⟩ := hrel
          obtain ⟨wi, hwi⟩ : ∃ x, x = wr := ⟨_, rfl⟩
          have O8 := Lib.hid ho8
          rw [← hwi] at O8
          subst hwi
          clear ho8
          by_cases hiM : i < M
          · obtain ⟨gi, c, rfl, hcm, hcell⟩ := HIC.out i hiM
            have HCM := Lib.hid hcm
            have HCE := Lib.hid hcell
            have hiMI : (i : Int) < (M : Int) := by omega
            obtain ⟨cn, hcn⟩ : ∃ cn, c.n = cn := ⟨_, rfl⟩
            obtain ⟨ct, hct⟩ : ∃ ct, c.now = ct := ⟨_, rfl⟩
            have HCN := Lib.hid (And.intro hcn hct)
            rw [hcn, hct] at HCE
            clear hcm hcell hcn hct
            go_wp2
            go_loopw [16] (fun s16 wr => ∃ n : Nat, n ≤ W ∧ s16 = .int .i64 (n : Int) ∧ Only (fun _ => False) wi wr) (fun s16 _ => W - (intOf s16).toNat)
            case atStart => exact ⟨0, by omega, rfl, Only.refl _ wi⟩
            case round =>
              obtain ⟨x9, hx9, rfl, ho9⟩ := hrel
              have O9 := Lib.hid ho9
              clear ho9
              by_cases hxW : x9 < W
              · obtain ⟨gw, y, rfl, hym, hycell⟩ := HWC.out x9 hxW
                have hO79 : Only (fun _ => False) w7 wr := O8.out.trans O9.out (fun _ _ e => e)
                have hc1 := hycell wr hO79
                obtain ⟨hc2, hc3⟩ := HCE.out wr (O67.out.trans hO79 (fun _ _ e => e))
                have HYY := Lib.hid (fun e => HYG.out y hym c HCM.out e)
                obtain ⟨yn, hyn⟩ : ∃ yn, y.n = yn := ⟨_, rfl⟩
                rw [hyn] at hc1 HYY
                rw [HCN.out.1, HCN.out.2] at HYY
                have hxWI : (x9 : Int) < (W : Int) := by omega
                clear hym hycell hyn hO79
                by_cases he : yn = cn
                · have h1 := HYY.out he
                  have heI : (yn : Int) = (cn : Int) := by omega
                  have hwz : IntKind.u64.wrap ((nw : Int) - (ct : Int)) = ((nw - ct : Nat) : Int) := by rw [IntKind.wrap_u64]; have := HNW.out.2; omega
                  obtain ⟨df, hdf⟩ : ∃ df, nw - ct = df := ⟨_, rfl⟩
                  rw [hdf] at hwz h1
                  have hge : ¬ (hold : Int) ≤ (df : Int) := by omega
                  clear hdf h1
                  go_upto_region 30 with (fail)
                  go_quiet (fail)
                  go_wp2
                  exact ⟨⟨x9 + 1, by omega, by go_num, O9.out.trans (onlyN wr _) (fun _ _ e => e)⟩, by simp [intOf]; omega⟩
                · have heI : ¬ (yn : Int) = (cn : Int) := by omega
                  go_upto_region 30 with (fail)
                  go_quiet (fail)
                  go_wp2
                  exact ⟨⟨x9 + 1, by omega, by go_num, O9.out.trans (onlyN wr _) (fun _ _ e => e)⟩, by simp [intOf]; omega⟩
              · obtain rfl : x9 = W := by omega
                go_wp2
                exact ⟨⟨i + 1, by omega, by go_num, O8.out.trans O9.out (fun _ _ e => e)⟩, by simp [intOf]; omega⟩
          · obtain rfl : i = M := by omega
            have M8 := Lib.hid (M7.out.pure O8.out)
            clear M7 HIC HWC HYG
            have HWT9 := Lib.hid (rwait_is b _ _ _ B _ M8.out.bf P6.out.good.ok.fit)
            unfold Waits at HWT9
            have HLE9 := Lib.hid (show (m.gone j).ws.length ≤ 1 + s0 from by have h1 := P6.out.good.len; have h2 := P6.out.sz.1; omega)
            obtain ⟨W9, hW9⟩ : ∃ W9, (m.gone j).ws.length = W9 := ⟨_, rfl⟩
            rw [hW9] at HWT9 HLE9
            clear hW9
            go_wp2_with fail
            refine HWT9.out.mono ?_
            rintro e w9 ⟨wv9, rfl, hr9, ho9⟩
            have M9 := Lib.hid (M8.out.pure ho9)
            obtain ⟨Aw9, cw9, rfl, -⟩ := own_slice hr9
            have hle9 : ¬ (1 + (s0 : Int)) < (W9 : Int) := by have := HLE9.out; omega
            clear hr9 ho9 HWT9
            go_wp2
            exact ⟨⟨k + 1, nw, _, _, _, _, _, _, by omega, by go_num, rfl, M9.out, P6.out⟩, by simp [intOf]; omega⟩
      · by_cases hp7 : pk = 7
        · subst hp7
          obtain ⟨j, hj⟩ : ∃ j, m.goes m.ws.length = j := ⟨_, rfl⟩
          have HJ := Lib.hid hj
          have HCL2 := Lib.hid (rflush_is b B m v us w4 M4.out.bf PN.out.good)
          rw [hj] at HCL2
          have HGJ := Lib.hid (show (m.gone j).Good ∧ j ≤ m.ws.length from by rw [← hj]; exact ⟨goes_good PN.out.good _, m.goes_le _⟩)
          clear hj
          obtain ⟨its, hits⟩ : ∃ its, items m.nx (m.ws.take j) (us.take j) = its := ⟨_, rfl⟩
          have HITS := Lib.hid hits
          have HIL := Lib.hid (show out.length + its.length ≤ 100000 from by rw [← hits]; have hil := items_len (m.ws.take j) (us.take j) m.nx; have hol := HOL.out; rw [List.length_take] at hil; omega)
          clear hits
          go_upto_region 34 with (first
            | ((with_reducible refine HCL2.out.mono ?_); rintro e w5 ⟨vo, rfl, hW⟩; obtain ⟨v', hm5, hs5⟩ := M4.out.call hW; rw [HITS.out] at hm5 hs5; obtain ⟨Av, cv, ev, -⟩ := hs5.slice; rw [List.length_map] at ev; subst ev; have M5 := Lib.hid hm5; have S5 := Lib.hid hs5; have HB5 := Lib.hid (show w.heap.size ≤ w5.heap.size from hm5.only.size); have HL5 := Lib.hid (show (out.map It.cls).length + (its.map It.cls).length ≤ 100000 from by rw [List.length_map, List.length_map]; exact HIL.out); clear hW hm5 hs5)
            | (at_builtin; refine wpList_append_rowsG _ rfl _ _ sty_ot rfl w.heap.size _ _ rfl M5.out.outr w.heap.size _ _ rfl S5.out (it_rowsA _) HL5.out (by decide) HB5.out ?_; intro v6 w6 hS6 hO6; rw [← List.map_append] at hS6; have M6 := Lib.hid (M5.out.appOut hS6 hO6); clear hS6 hO6))
          have P6 := Lib.hid (PN.out.go HGJ.out.2 HGJ.out.1 us M4.out.bf.pks.len)
          rw [HITS.out] at P6
          clear HCL2 M4 M5 S5 HB5 HL5 HIL

          have HW0 := Lib.hid (show (m.gone j).ws.length = 0 from by
            show (m.ws.drop j).length = 0
            rw [List.length_drop, ← HJ.out, flush_all]
            omega)
          have HWT := Lib.hid (rwait_is b _ _ _ B _ M6.out.bf P6.out.good.ok.fit)
          unfold Waits at HWT
          rw [HW0.out] at HWT
          clear HJ
          go_wp2_with fail
          refine HWT.out.mono ?_
          rintro e w7 ⟨wv, rfl, hrow, ho7⟩
          obtain ⟨Aw, cw, rfl, hcw⟩ := own_slice hrow
          have M7 := Lib.hid (M6.out.pure ho7)
          clear hrow ho7 HWT hcw M6

          have HWT9 := Lib.hid (rwait_is b _ _ _ B _ M7.out.bf P6.out.good.ok.fit)
          unfold Waits at HWT9
          have HLE9 := Lib.hid (show (m.gone j).ws.length ≤ 1 + s0 from by have h1 := P6.out.good.len; have h2 := P6.out.sz.1; omega)
          obtain ⟨W9, hW9⟩ : ∃ W9, (m.gone j).ws.length = W9 := ⟨_, rfl⟩
          rw [hW9] at HWT9 HLE9
          clear hW9
          go_wp2_with fail
          refine HWT9.out.mono ?_
          rintro e w9 ⟨wv9, rfl, hr9, ho9⟩
          have M9 := Lib.hid (M7.out.pure ho9)
          obtain ⟨Aw9, cw9, rfl, -⟩ := own_slice hr9
          have hle9 : ¬ (1 + (s0 : Int)) < (W9 : Int) := by have := HLE9.out; omega
          clear hr9 ho9 HWT9
          go_wp2
          exact ⟨⟨k + 1, nw, _, _, _, _, _, _, by omega, by go_num, rfl, M9.out, P6.out⟩, by simp [intOf]; omega⟩
        · by_cases ht : m.takes n
          · have HTK := Lib.hid ht
            have HBD := Lib.hid (show Bd p ∧ n ≤ 4611686018427387904 ∧ BFit p ∧ p.cls u.1 u.2.1 u.2.2 = #[q0, q1, q2, q3, q4, q5, q6, q7, q8, q9, q10] from by
              obtain ⟨-, h2, -, h4, h5⟩ := HCL.out
              have h6 := bd_few (HFW.out.1 a HAM.out)
              have h7 := HBF.out a HAM.out
              rw [h4] at h5 h6 h7
              exact ⟨h6.1, by rw [← h2]; exact h6.2, h7, h5⟩)
            have HRP := Lib.hid (show ∀ wx, Only (fun _ => False) w wx → RdU p u wx from fun wx ho => by
              rw [← HCL.out.2.2.2.1]
              exact HRU.out.pure ho)
            have HIN := Lib.hid (rin_doneG b n nw B p u.1 u.2.1 u.2.2 m v us w4 M4.out.bf PN.out.good HTK.out HBD.out.2.1 HNW.out.2 M4.out.hB HRU.out.2 ⟨by have := HBD.out.1.1; omega, HBD.out.1.2.1, HBD.out.1.2.2⟩ (fun wx ho => by
              have h1 := (HRP.out wx (M4.out.only.trans ho (fun i hi (e : i = b) => by have := M4.out.lb; have := M4.out.b0; omega))).1
              exact ⟨h1.c, h1.e, h1.p⟩))
            unfold InDone at HIN
            rw [HBD.out.2.2.2] at HIN
            have HW1 := Lib.hid (show (m.ins ⟨n, nw, p⟩).ws.length ≤ 61 from by
              have h1 : (m.ins ⟨n, nw, p⟩).ws.length = m.ws.length + 1 := insAt_length _ _ _ (pos_le m n)
              have := HOL.out.2
              omega)
            obtain ⟨j, hj⟩ : ∃ j, (m.ins ⟨n, nw, p⟩).goes m.much = j := ⟨_, rfl⟩
            have HJ := Lib.hid hj
            rw [hj] at HIN
            clear hj ht HRU
            have d1 : w4.cell? ⟨rb, 1, none⟩ = some (.int .u64 (n : Int)) := I4.out.cell 1
            go_upto_region 17 with (first
              | (refine wpList_load_mid rfl 42 _ rfl rb 3 rfl [q0, q1, q2, q3, q4, q5, q6, q7, q8, q9, q10] _ (act_mid I4.out) Try.underlying42 rfl Try.sizePq ?_)
              | ((with_reducible refine HIN.out.mono ?_); rintro e w5 ⟨vo, un, rfl, hun, hW⟩; obtain ⟨v', hm5, hs5⟩ := M4.out.call hW; obtain ⟨its, hits⟩ : ∃ its, items (m.ins ⟨n, nw, p⟩).nx ((m.ins ⟨n, nw, p⟩).ws.take j) ((insAt us (m.pos n) un).take j) = its := ⟨_, rfl⟩; have HITS := Lib.hid hits; have HIL := Lib.hid (show out.length + its.length ≤ 100000 from by rw [← hits]; have hil := items_len ((m.ins ⟨n, nw, p⟩).ws.take j) ((insAt us (m.pos n) un).take j) (m.ins ⟨n, nw, p⟩).nx; have hol := HOL.out; have hw1 := HW1.out; rw [List.length_take] at hil; omega); rw [hits] at hm5 hs5; obtain ⟨Av, cv, ev, -⟩ := hs5.slice; rw [List.length_map] at ev; subst ev; have M5 := Lib.hid hm5; have S5 := Lib.hid hs5; have HUL := Lib.hid (show (insAt us (m.pos n) un).length = (m.ins ⟨n, nw, p⟩).ws.length from by have h1 := M4.out.bf.pks.len; have h2 := pos_le m n; rw [insAt_length _ _ _ (by omega)]; show _ = (insAt m.ws (m.pos n) _).length; rw [insAt_length _ _ _ h2, h1]); have I5 := Lib.hid (I4.out.only hW.2.2.2 (fun hs => by
                  rcases hs with e | ⟨-, ds, hi⟩
                  · exact Is.apart I4.out M4.out.bf.is (by decide) e
                  · exact Is.apart I4.out hi (by decide) rfl)); clear hW hm5 hs5 hits hun))
            have g2 : w5.cell? ⟨rb, 2, none⟩ = some (.int .u64 (an : Int)) := I5.out.cell 2
            have f2 : w5.frozen? ⟨rb, 2, none⟩ = false := I5.out.free 2
            have HFI := Lib.hid (show (Value.slice Ai M ci).ownBlock ≠ some rb from fun e => by
              have h1 := (M4.out.inr.lt rb e).2
              have h2 := HRB.out
              have h3 := HVB.out rb e
              omega)
            go_upto_region 19 with (fail)
            generalize hw6 : World.setCell w5 _ _ = w6
            have O6 := Lib.hid (show Only (fun k => k = rb) w5 w6 from by rw [← hw6]; exact Only.set (S := fun k => k = rb) (p := ⟨rb, 2, none⟩) (Only.refl _ _) (fun _ => rfl) _)
            have I6 := Lib.hid (show Is w6 rb 44 #[.int .i64 d, .int .u64 (n : Int), .int .u64 (nw : Int), q0, q1, q2, q3, q4, q5, q6, q7, q8, q9, q10] from by rw [← hw6]; exact I5.out.put 2 _)
            have M6 := Lib.hid (M5.out.far I5.out HFI.out (by have h2 := HRB.out; have h3 := HB00.out; omega) O6.out)
            have S6 := Lib.hid (S5.out.only O6.out (fun k hk (e : k = rb) => owned_off S5.out.1 I5.out (by decide) (by rw [hk, e])))
            have HONE := Lib.hid (show ∀ y ∈ ([.int .i64 d, .int .u64 (n : Int), .int .u64 (nw : Int), q0, q1, q2, q3, q4, q5, q6, q7, q8, q9, q10] : List Value), y.oneCell' = true from fun y hy => by
              simp only [List.mem_cons] at hy
              have h5 := HNEQ.out
              rcases hy with rfl | rfl | rfl | hy
              · rfl
              · rfl
              · rfl
              · exact h5 y (by simpa using hy))
            have HB6 := Lib.hid (show w.heap.size ≤ w6.heap.size from M6.out.only.size)
            have HZL := Lib.hid (show (List.zipWith Ac.cls ins ui).length = M from by rw [List.length_zipWith, PN.out.inl, Nat.min_self, HMI.out])
            clear hw6 g2 f2 M5 S5 I5 I4 O6 M4
            go_upto_region 20 with (first
              | (refine wpList_load_want (o := ⟨some 65, _, _, _, _, _⟩) rfl _ _ rfl rb rfl _ #[.int .i64 d, .int .u64 (n : Int), .int .u64 (nw : Int), q0, q1, q2, q3, q4, q5, q6, q7, q8, q9, q10] _ I6.out Try.underlying44 rfl Try.sizeAc ?_)
              | (at_builtin; refine wpList_append_struct _ rfl _ _ sty_ac rfl w.heap.size _ _ rfl (OwnS.only M6.out.inr ((Only.refl (fun _ => False) _).alloc _) (by simp)) w6.heap.size [.int .i64 d, .int .u64 (n : Int), .int .u64 (nw : Int), q0, q1, q2, q3, q4, q5, q6, q7, q8, q9, q10] rfl (Is.made w6 _ _) rfl HONE.out (by have h1 := HZL.out; have h2 := HM60.out; omega) (by decide) (by simp; have h1 := HB6.out; omega) ?_; intro v7 w7 hS7 hO7; have hz := zip_snoc PN.out.inl ⟨d, n, nw, p⟩ u; rw [show Ac.cls ⟨d, n, nw, p⟩ u = [.int .i64 d, .int .u64 (n : Int), .int .u64 (nw : Int), q0, q1, q2, q3, q4, q5, q6, q7, q8, q9, q10] from by unfold Ac.cls; rw [HBD.out.2.2.2]] at hz; rw [← hz] at hS7; have hp6 := M6.out.pure ((Only.refl (fun _ => False) w6).alloc (.cells #[.int .i64 d, .int .u64 (n : Int), .int .u64 (nw : Int), q0, q1, q2, q3, q4, q5, q6, q7, q8, q9, q10] 44)); have M7 := Lib.hid (hp6.appIn hS7 hO7); have S7 := Lib.hid ((S6.out.only ((Only.refl (fun _ => False) w6).alloc (.cells #[.int .i64 d, .int .u64 (n : Int), .int .u64 (nw : Int), q0, q1, q2, q3, q4, q5, q6, q7, q8, q9, q10] 44)) (by simp)).only hO7 (fun k hk e => owned_apart (S6.out.only ((Only.refl (fun _ => False) w6).alloc (.cells #[.int .i64 d, .int .u64 (n : Int), .int .u64 (nw : Int), q0, q1, q2, q3, q4, q5, q6, q7, q8, q9, q10] 44)) (by simp)).1 hp6.inr.1 (by decide) k hk e)); have HB7 := Lib.hid (show w.heap.size ≤ w7.heap.size from M7.out.only.size); have HL7 := Lib.hid (show (out.map It.cls).length + (its.map It.cls).length ≤ 100000 from by rw [List.length_map, List.length_map]; exact HIL.out); clear hS7 hO7 hz hp6))
            clear M6 S6 I6 HONE HB6
            go_upto_region 36 with ((at_builtin; refine wpList_append_rowsG _ rfl _ _ sty_ot rfl w.heap.size _ _ rfl M7.out.outr w.heap.size _ _ rfl S7.out (it_rowsA _) HL7.out (by decide) HB7.out ?_; intro v8 w8 hS8 hO8; rw [← List.map_append] at hS8; have M8 := Lib.hid (M7.out.appOut hS8 hO8); clear hS8 hO8))
            have P8 := Lib.hid (PN.out.inn ⟨d, n, nw, p⟩ HBD.out.2.1 HTK.out rfl u (HRP.out w (Only.refl _ w)) ⟨HBD.out.1, HBD.out.2.2.1⟩ (insAt us (m.pos n) un) HUL.out)
            rw [show (m.ins ⟨(⟨d, n, nw, p⟩ : Ac).n, (⟨d, n, nw, p⟩ : Ac).now, (⟨d, n, nw, p⟩ : Ac).p⟩).goes m.much = j from HJ.out] at P8
            rw [show items (m.ins ⟨(⟨d, n, nw, p⟩ : Ac).n, (⟨d, n, nw, p⟩ : Ac).now, (⟨d, n, nw, p⟩ : Ac).p⟩).nx ((m.ins ⟨(⟨d, n, nw, p⟩ : Ac).n, (⟨d, n, nw, p⟩ : Ac).now, (⟨d, n, nw, p⟩ : Ac).p⟩).ws.take j) ((insAt us (m.pos n) un).take j) = its from HITS.out] at P8
            have P8b := P8.out
            clear P8
            have P8 := Lib.hid (show Pl (1 + s0) hold (k + 1) nw (ins ++ [⟨d, n, nw, p⟩]) (ui ++ [u]) (out ++ its) ((m.ins ⟨n, nw, p⟩).gone j) w from P8b)
            clear P8b M7 S7 HB7 HL7 HIL HUL HITS HJ HRP HIN HTK

            have HWT9 := Lib.hid (rwait_is b _ _ _ B _ M8.out.bf P8.out.good.ok.fit)
            unfold Waits at HWT9
            have HLE9 := Lib.hid (show ((m.ins ⟨n, nw, p⟩).gone j).ws.length ≤ 1 + s0 from by have h1 := P8.out.good.len; have h2 := P8.out.sz.1; omega)
            obtain ⟨W9, hW9⟩ : ∃ W9, ((m.ins ⟨n, nw, p⟩).gone j).ws.length = W9 := ⟨_, rfl⟩
            rw [hW9] at HWT9 HLE9
            clear hW9
            go_wp2_with fail
            refine HWT9.out.mono ?_
            rintro e w9 ⟨wv9, rfl, hr9, ho9⟩
            have M9 := Lib.hid (M8.out.pure ho9)
            obtain ⟨Aw9, cw9, rfl, -⟩ := own_slice hr9
            have hle9 : ¬ (1 + (s0 : Int)) < (W9 : Int) := by have := HLE9.out; omega
            clear hr9 ho9 HWT9
            go_wp2
            exact ⟨⟨k + 1, nw, _, _, _, _, _, _, by omega, by go_num, rfl, M9.out, P8.out⟩, by simp [intOf]; omega⟩
          · have HIN := Lib.hid (rin_no b n nw B #[q0, q1, q2, q3, q4, q5, q6, q7, q8, q9, q10] rfl m v us w4 M4.out.bf PN.out.good ht)
            have d1 : w4.cell? ⟨rb, 1, none⟩ = some (.int .u64 (n : Int)) := I4.out.cell 1
            clear ht
            go_upto_region 20 with (first
              | (refine wpList_load_mid rfl 42 _ rfl rb 3 rfl [q0, q1, q2, q3, q4, q5, q6, q7, q8, q9, q10] _ (act_mid I4.out) Try.underlying42 rfl Try.sizePq ?_)
              | ((with_reducible refine HIN.out.mono ?_); rintro e w5 ⟨rfl, ho5⟩; have M5 := Lib.hid (M4.out.pure ho5); have HB5 := Lib.hid (show w.heap.size ≤ w5.heap.size from (M4.out.pure ho5).only.size); clear ho5))
            have HL5 := Lib.hid (show (out.map It.cls).length + ([] : List (List Value)).length ≤ 100000 from by rw [List.length_map]; have := HOL.out; simp; omega)
            go_upto_region 36 with ((at_builtin; refine wpList_append_rowsG _ rfl _ _ sty_ot rfl w.heap.size _ _ rfl M5.out.outr w.heap.size _ _ rfl (OwnS.nil _ w.heap.size _ 14) (by simp) HL5.out (by decide) HB5.out ?_; intro v8 w8 hS8 hO8; rw [List.append_nil] at hS8; have M8 := Lib.hid (M5.out.appOut hS8 hO8); clear hS8 hO8))
            have P8 := Lib.hid PN.out.more
            clear M5 HB5 HL5 HIN M4

            have HWT9 := Lib.hid (rwait_is b _ _ _ B _ M8.out.bf P8.out.good.ok.fit)
            unfold Waits at HWT9
            have HLE9 := Lib.hid (show m.ws.length ≤ 1 + s0 from by have h1 := P8.out.good.len; have h2 := P8.out.sz.1; omega)
            obtain ⟨W9, hW9⟩ : ∃ W9, m.ws.length = W9 := ⟨_, rfl⟩
            rw [hW9] at HWT9 HLE9
            clear hW9
            go_wp2_with fail
            refine HWT9.out.mono ?_
            rintro e w9 ⟨wv9, rfl, hr9, ho9⟩
            have M9 := Lib.hid (M8.out.pure ho9)
            obtain ⟨Aw9, cw9, rfl, -⟩ := own_slice hr9
            have hle9 : ¬ (1 + (s0 : Int)) < (W9 : Int) := by have := HLE9.out; omega
            clear hr9 ho9 HWT9
            go_wp2
            exact ⟨⟨k + 1, nw, _, _, _, _, _, _, by omega, by go_num, rfl, M9.out, P8.out⟩, by simp [intOf]; omega⟩
    · obtain rfl : k = L := by omega
      have HFL := Lib.hid (rflush_is b B m v us wr1 MM.out.bf PP.out.good)
      rw [flush_all] at HFL
      have HGJ := Lib.hid (show (m.gone m.ws.length).Good from by have := goes_good PP.out.good (m.ws.length : Int); rwa [flush_all] at this)
      obtain ⟨its, hits⟩ : ∃ its, items m.nx (m.ws.take m.ws.length) (us.take m.ws.length) = its := ⟨_, rfl⟩
      have HITS := Lib.hid hits
      have HIL := Lib.hid (show out.length + its.length ≤ 20000 from by rw [← hits]; have hil := items_len (m.ws.take m.ws.length) (us.take m.ws.length) m.nx; have hol := HOL.out; rw [List.length_take] at hil; omega)
      clear hits hkL
      go_upto_region 39 with (first
        | ((with_reducible refine HFL.out.mono ?_); rintro e w5 ⟨vo, rfl, hW⟩; obtain ⟨v', hm5, hs5⟩ := MM.out.call hW; rw [HITS.out] at hm5 hs5; obtain ⟨Av, cv, ev, -⟩ := hs5.slice; rw [List.length_map] at ev; subst ev; have M5 := Lib.hid hm5; have S5 := Lib.hid hs5; have HB5 := Lib.hid (show w.heap.size ≤ w5.heap.size from hm5.only.size); have HL5 := Lib.hid (show (out.map It.cls).length + (its.map It.cls).length ≤ 100000 from by rw [List.length_map, List.length_map]; have := HIL.out; omega); clear hW hm5 hs5)
        | (at_builtin; refine wpList_append_rowsG _ rfl _ _ sty_ot rfl w.heap.size _ _ rfl M5.out.outr w.heap.size _ _ rfl S5.out (it_rowsA _) HL5.out (by decide) HB5.out ?_; intro v6 w6 hS6 hO6; rw [← List.map_append] at hS6; have M6 := Lib.hid (M5.out.appOut hS6 hO6); clear hS6 hO6))
      have P6 := Lib.hid (PP.out.go (Nat.le_refl _) HGJ.out us MM.out.bf.pks.len)
      rw [HITS.out] at P6
      have HTD := Lib.hid (told_is _ _ ins ui (out ++ its) w6 (rdas_own M6.out.inr P6.out.inl (fun i c x hc hx => (P6.out.inu i c x hc hx).pure M6.out.only)) (rdit_own M6.out.outr M6.out.outp) (P6.out.pl.told HGJ.out (by show m.ws.drop m.ws.length = []; exact List.drop_of_length_le (Nat.le_refl _))) (fun c hc => ⟨(P6.out.few c hc).2.1, (P6.out.few c hc).1.1⟩) (by rw [HMI.out]; exact HM60.out) (by rw [List.length_append]; exact HIL.out))
      have O6 := Lib.hid M6.out.only
      clear HFL M5 S5 HB5 HL5 HIL MM PP
      go_wp2_with fail
      refine HTD.out.mono ?_
      rintro e w7 ⟨rfl, ho7⟩
      have O7 := Lib.hid (O6.out.trans ho7 (fun _ _ e => e))
      clear ho7 HTD M6
      go_wp2_with fail
      refine (rworks_is _).mono ?_
      rintro e w8 ⟨rfl, ho8⟩
      have O8 := Lib.hid (O7.out.trans ho8 (fun _ _ e => e))
      clear ho8
      go_wp2
      go_ret
      exact ⟨rfl, O8.out⟩
end Go.Proofs.Ytdcclighccejhaa

/- ReorderAll, of arguments as they are opened. Conditions: none. -/
set_option linter.unusedVariables false
set_option linter.unusedSimpArgs false
namespace Go.Proofs.Ytdcclighccejhaa
open Go.Joins Go.ChangeShapes Go.WideShapes Go.RowKit Go.Deep

section
variable {H : Type} {enc : TypeId × Value → H} {w : World} {base : Nat} {spare : Nat → Bool} {held : Bool}
theorem open_pktF {n : Nat} {cs : List Value} {y : DataW H × List MemPlace} (h : DataW.trod enc Try.prog w base spare held n 42 cs = some y) :
    ∃ (p : Pk) (u : V3), cs = (p.cls u.1 u.2.1 u.2.2).toList ∧ RdU p u w ∧ BFit p := by
  obtain ⟨hl, hf⟩ := open_cells Try.underlying42 (by kernel_rfl) (by kernel_rfl) h
  obtain _ | ⟨c0, cs⟩ := cs
  · cases hl
  obtain _ | ⟨c1, cs⟩ := cs
  · cases hl
  obtain _ | ⟨c2, cs⟩ := cs
  · cases hl
  obtain _ | ⟨c3, cs⟩ := cs
  · cases hl
  obtain _ | ⟨c4, cs⟩ := cs
  · cases hl
  obtain _ | ⟨c5, cs⟩ := cs
  · cases hl
  obtain _ | ⟨c6, cs⟩ := cs
  · cases hl
  obtain _ | ⟨c7, cs⟩ := cs
  · cases hl
  obtain _ | ⟨c8, cs⟩ := cs
  · cases hl
  obtain _ | ⟨c9, cs⟩ := cs
  · cases hl
  obtain _ | ⟨c10, cs⟩ := cs
  · cases hl
  obtain rfl : cs = [] := by
    obtain _ | ⟨c11, cs⟩ := cs
    · rfl
    · cases hl
  obtain ⟨m0, y0, e0⟩ := hf 0 _ c0 rfl rfl
  obtain ⟨m1, y1, e1⟩ := hf 1 _ c1 rfl rfl
  obtain ⟨m2, y2, e2⟩ := hf 2 _ c2 rfl rfl
  obtain ⟨m3, y3, e3⟩ := hf 3 _ c3 rfl rfl
  obtain ⟨m4, y4, e4⟩ := hf 4 _ c4 rfl rfl
  obtain ⟨m5, y5, e5⟩ := hf 5 _ c5 rfl rfl
  obtain ⟨m6, y6, e6⟩ := hf 6 _ c6 rfl rfl
  obtain ⟨m7, y7, e7⟩ := hf 7 _ c7 rfl rfl
  obtain ⟨m8, y8, e8⟩ := hf 8 _ c8 rfl rfl
  obtain ⟨m9, y9, e9⟩ := hf 9 _ c9 rfl rfl
  obtain ⟨m10, y10, e10⟩ := hf 10 _ c10 rfl rfl
  clear hf
  obtain ⟨b0, rfl⟩ := field_bool Try.underlying4 e0
  obtain ⟨x1, rfl, -⟩ := field_nat Try.underlying5 (.inl ⟨rfl, rfl⟩) e1
  obtain ⟨x2, rfl, -⟩ := field_nat Try.underlying37 (.inr (.inl ⟨rfl, rfl⟩)) e2
  obtain ⟨x3, rfl, -⟩ := field_nat Try.underlying38 (.inr (.inr (.inl ⟨rfl, rfl⟩))) e3
  obtain ⟨x4, rfl, -⟩ := field_nat Try.underlying38 (.inr (.inr (.inl ⟨rfl, rfl⟩))) e4
  obtain ⟨zs, h5, w5, -, n5⟩ := field_rdn Try.underlying39 Try.underlying38 (by kernel_rfl) e5
  obtain ⟨b6, rfl⟩ := field_bool Try.underlying4 e6
  obtain ⟨x7, rfl, -⟩ := field_nat Try.underlying37 (.inr (.inl ⟨rfl, rfl⟩)) e7
  obtain ⟨bs8, h8, k8, -⟩ := field_bytes Try.underlying40 Try.underlying5 (by kernel_rfl) e8
  obtain ⟨bs9, h9, k9, -⟩ := field_bytes Try.underlying40 Try.underlying5 (by kernel_rfl) e9
  obtain ⟨x10, rfl, -⟩ := field_nat Try.underlying5 (.inl ⟨rfl, rfl⟩) e10
  obtain ⟨xs, rfl, -⟩ := nats_u32 zs w5
  exact ⟨⟨b0, x1, x2, x3, x4, xs, b6, x7, bs8, bs9, x10⟩, (c5, c8, c9), rfl, ⟨⟨h5, h8, h9, by obtain ⟨A, c, h, _⟩ := h5; exact ⟨A, _, c, h⟩⟩, n5⟩, k8, k9⟩
set_option maxRecDepth 100000 in
theorem open_act_cellsF {n : Nat} {cs : List Value} {y : DataW H × List MemPlace} (h : DataW.trod enc Try.prog w base spare held n 44 cs = some y) :
    ∃ (a : Ac) (u : V3), cs = a.cls u ∧ RdU a.p u w ∧ (a.Fit ∧ BFit a.p) := by
  obtain ⟨xs, m', _, _, hlen, hxl, hf⟩ := DataW.trod_struct Try.underlying44 h
  have hcl : cs.length = 14 := hlen.trans (by kernel_rfl)
  have h0 := hf 0 _ rfl
  have h1 := hf 1 _ rfl
  have h2 := hf 2 _ rfl
  have h3 := hf 3 _ rfl
  have get : ∀ j, j < 4 → ∃ z, xs[j]? = some z := fun j hj => ⟨_, List.getElem?_eq_getElem (by rw [hxl]; exact hj)⟩
  obtain ⟨z0, g0⟩ := get 0 (by decide)
  obtain ⟨z1, g1⟩ := get 1 (by decide)
  obtain ⟨z2, g2⟩ := get 2 (by decide)
  obtain ⟨z3, g3⟩ := get 3 (by decide)
  rw [g0] at h0
  rw [g1] at h1
  rw [g2] at h2
  rw [g3] at h3
  obtain _ | ⟨c0, cs⟩ := cs
  · simp at hcl
  obtain _ | ⟨c1, cs⟩ := cs
  · simp at hcl
  obtain _ | ⟨c2, cs⟩ := cs
  · simp at hcl
  have hl3 : cs.length = 11 := by simpa using hcl
  replace h0 : DataW.trod enc Try.prog w base spare held m' 3 [c0] = some z0 := h0
  replace h1 : DataW.trod enc Try.prog w base spare held m' 22 [c1] = some z1 := h1
  replace h2 : DataW.trod enc Try.prog w base spare held m' 22 [c2] = some z2 := h2
  replace h3 : DataW.trod enc Try.prog w base spare held m' 42 cs = some z3 := by
    have : ((c0 :: c1 :: c2 :: cs).drop 3).take (Try.prog.cellsOf 42) = cs := by
      rw [show Try.prog.cellsOf 42 = 11 from by kernel_rfl]
      exact List.take_of_length_le (by simp [hl3])
    rw [← this]
    exact h3
  obtain ⟨d, rfl, hd⟩ := field_int Try.underlying3 h0
  obtain ⟨x1, rfl, hx1⟩ := field_nat Try.underlying22 (.inr (.inr (.inr ⟨rfl, rfl⟩))) h1
  obtain ⟨x2, rfl, hx2⟩ := field_nat Try.underlying22 (.inr (.inr (.inr ⟨rfl, rfl⟩))) h2
  obtain ⟨p, u, rfl, hr, hb⟩ := open_pktF h3
  exact ⟨⟨d, x1, x2, p⟩, u, rfl, hr, ⟨hx1, hx2, hd⟩, hb⟩
set_option maxRecDepth 100000 in
/-- Calls in a row. -/
theorem open_actsF {n : Nat} {c : Value} {y : DataW H × List MemPlace} (h : DataW.trod enc Try.prog w base spare held n 23 [c] = some y) :
    ∃ (l : List Ac) (us : List V3), RdAs w c l us ∧ (∀ a ∈ l, a.Fit ∧ BFit a.p) ∧ l.length ≤ 9223372036854775807 := by
  rcases open_slice Try.underlying23 h with ⟨hcs, _⟩ | ⟨a, len, cap, m, k, D, Pl, hcs, _, hl, hm, hmm, _, hi⟩
  · injection hcs with hcs
    subst hcs
    exact ⟨[], [], ⟨⟨none, 0, rfl, Nat.le_refl _⟩, rfl, fun i a u ha => by simp at ha⟩, by simp, by simp⟩
  · injection hcs with hcs
    subst hcs
    have hQ : ∀ i, i < len → ∃ q : Ac × V3, (∃ g o, a = ⟨g, o, none⟩ ∧ w.rangeAt g (o + i * 14) (q.1.cls q.2)) ∧ RdU q.1.p q.2 w ∧ (q.1.Fit ∧ BFit q.1.p) := by
      intro i hil
      obtain ⟨cs, hc, hT⟩ := hi i (by rw [hmm]; split <;> omega)
      obtain ⟨b, u, rfl, h1, h2⟩ := open_act_cellsF hT
      obtain ⟨_, hcl, hat⟩ := World.cells?_some hc
      refine ⟨(b, u), ?_, h1, h2⟩
      rw [show Try.prog.cellsOf 44 = 14 from by kernel_rfl] at hat
      obtain ⟨g, o, spot⟩ := a
      have hsp : spot = none := by
        obtain ⟨cs0, hc0, hT0⟩ := hi 0 (by rw [hmm]; split <;> omega)
        obtain ⟨b0, u0, rfl, -, -⟩ := open_act_cellsF hT0
        obtain ⟨_, -, hat0⟩ := World.cells?_some hc0
        have q0 := hat0 0 (by rw [show Try.prog.cellsOf 44 = 14 from by kernel_rfl]; decide)
        have : w.cell? (⟨g, o, spot⟩ : Addr) = (b0.cls u0)[0]? := by simpa [Addr.add] using q0
        replace this : w.cell? (⟨g, o, spot⟩ : Addr) = some (.int .i64 b0.d) := this
        simpa using World.cell?_spot this
      subst hsp
      refine ⟨g, o, rfl, fun j z hj => ?_⟩
      have hjl : j < 14 := by rw [← Ac.cls_length b u]; exact (List.getElem?_eq_some_iff.1 hj).1
      have q := hat j hjl
      rw [Go.Deep.add_add, add_plain, hj] at q
      rw [Nat.add_assoc]
      exact q
    obtain ⟨l, hll, hq⟩ := list_of len hQ
    refine ⟨l.map (·.1), l.map (·.2), ⟨⟨some a, cap, by rw [List.length_map, hll], by rw [List.length_map, hll]; exact hl⟩, by simp, fun i b u hb hu => ?_⟩, fun b hb => ?_, by rw [List.length_map, hll]; unfold maxLen at hm; omega⟩
    · rw [List.getElem?_map] at hb hu
      cases hx : l[i]? with
      | none => rw [hx] at hb; simp at hb
      | some q =>
        rw [hx] at hb hu
        simp at hb hu
        subst hb hu
        obtain ⟨⟨g, o, rfl, hr⟩, hp, -⟩ := hq i q hx
        exact ⟨⟨g, o, _, _, rfl, hr⟩, hp⟩
    · obtain ⟨q, hqm, rfl⟩ := List.mem_map.1 hb
      obtain ⟨i, hi2⟩ := List.getElem?_of_mem hqm
      exact (hq i q hi2).2.2
end
open Go

set_option maxRecDepth 100000 in
set_option maxHeartbeats 4000000 in
theorem rall_walk (z : Int) (hold : Nat) (lv : Value) (l : List Ac) (us3 : List V3) (w : World) (h : RdAs w lv l us3) (hfit : ∀ a ∈ l, a.Fit ∧ BFit a.p) (hll : l.length ≤ 9223372036854775807) (hz : (Lit.int .i64 z).wf = true) (hh : hold < 18446744073709551616) :
    Calls Try.prog 4 #[.int .i64 z, .int .u64 (hold : Int), lv] w (SaysO (.bool true) w) := by
  by_cases hf : fewA l 60 = true
  · exact all_loop z hold lv l us3 w h (fun a ha => (hfit a ha).1) (fun a ha => (hfit a ha).2) hll hf (fit_d hz) hh
  · have hf : fewA l 60 = false := by simpa using hf
    obtain ⟨A3, c3, rfl, hc3⟩ := h.sl
    have HF := Lib.hid (rfew_is _ l us3 60 w h (by decide) hll)
    rw [hf] at HF
    clear h hfit hf hll hz
    go_enter Try.func4, Try.ntmps4
    go_wp2_with fail
    refine HF.out.mono ?_
    rintro e w1 ⟨rfl, ho1⟩
    have O1 := Lib.hid ho1
    clear ho1 HF
    go_wp2_with fail
    refine (rworks_is _).mono ?_
    rintro e w5 ⟨rfl, ho5⟩
    have O5 := Lib.hid (O1.out.trans ho5 (fun _ _ e => e))
    clear ho5
    go_wp2
    go_ret
    exact ⟨rfl, O5.out⟩
theorem rall_args {W : World} {z : Int} {hold : Nat} {lv : Value} {l : List Ac} {us : List V3} (hz : (Lit.int .i64 z).wf = true) (hh : hold < 18446744073709551616) (hr : RdAs W lv l us) (hf : ∀ a ∈ l, a.Fit ∧ BFit a.p) (hl : l.length ≤ 9223372036854775807) : Calls Try.prog 4 #[.int .i64 z, .int .u64 (hold : Int), lv] W fun e w' => e = .returned (.bool true) ∧ Below W.heap.size W w' := by
  refine (rall_walk z hold lv l us W hr hf hl hz hh).mono ?_
  rintro e w' ⟨rfl, ho⟩
  exact ⟨rfl, Only.below ho (fun i hi => hi.elim) (Nat.le_refl _)⟩
end Go.Proofs.Ytdcclighccejhaa
