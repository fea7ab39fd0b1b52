/- feedback.Parse's walk, by sort. Conditions: as each says. -/
import Derived.Test.YtefcimkopgcagaaFdD
set_option linter.unusedVariables false
set_option linter.unusedSimpArgs false
namespace Go.Proofs.Ytefcimkopgcagaa
open Go.RowKit

set_option maxRecDepth 100000 in
set_option maxHeartbeats 8000000 in
theorem fparse_sort (s kd ct pad fn x1 x2 : Nat) (nm : ByteArray) (a1 a2 a3 a4 : Nat × Int) (nd : Bool) (m : Ms) (vb : Value) (bs : List Nat) (w : World) (hs : Src w vb bs) (hb : ∀ x ∈ bs, x < 256) (hl : bs.length ≤ 10000)
    (hso : sOf kd ct = s) (hs1 : 1 ≤ s) (hs4 : s ≤ 4) (hc2 : (srtV s)[2]? = some (.string nm)) (hc14 : (srtV s)[14]? = some (.func (.func fn) #[] #[])) (hnm : nm.size ≤ 100)
    (t1 : tk bs 32 (0, 0) = (x1, a1)) (t2 : tk bs 32 a1 = (x2, a2))
    (hby : ∀ (v : Value) (br : Nat) (wx : World), BR br bs v a2 wx → Calls Try.prog 58 #[.pointer (some ⟨br, 0, none⟩), .int .i64 (nm.size : Nat)] wx fun e w' => ∃ A n c out, e = .returned (.slice A n c) ∧ out.length = n ∧ Src w' (.slice A n c) out ∧ ((strOfNums (nats out)).toList == nm.toList) = nd ∧ BR br bs v a3 w' ∧ Only (fun k => k = br) wx w')
    (htk : tkMs (msB s x1 x2) bs a3 = (m, a4)) (hT : Takes fn (msB s x1 x2) bs a3) (hcf : ∀ (args : Array Value) (w : World), (callFunc fn args).run Try.prog w = .ok (.enter fn args) w)
    (hfit : (m.pairs.length ≤ 1000000 ∧ m.orders.length ≤ 1000000 ∧ m.srcs.length ≤ 1000000) ∧ m.mant < 4294967296 ∧ m.exp < 256)
    (an : Ms × Int) (han : an = if nd = true ∧ a4.2 = 0 ∧ 8 * bs.length - a4.1 = 0 ∧ rightMs m = true then (m, 0) else (ms0, 63)) :
    Calls Try.prog 23 #[.agg #[.int .u8 (ct : Nat), .int .u8 (kd : Nat), vb, .int .u8 (pad : Nat)]] w fun e w' => ∃ vp vo vs, e = .returned (.tuple #[.agg (an.1.cls vp vo vs), .int .i64 an.2]) ∧ OwnM w.heap.size an.1 vp vo vs w' ∧ Only (fun _ => False) w w' := by
  have HS := Lib.hid hs
  have HB := Lib.hid hb
  have HL := Lib.hid hl
  have HSB := Lib.hid (fun wx => sortby_is kd ct wx)
  rw [hso] at HSB
  have HZ := Lib.hid (show _ ∧ _ ∧ _ from ⟨srt_size s hs1 hs4, srt_hold s hs1 hs4, srt_one s hs1 hs4⟩)
  have HC2 := Lib.hid hc2
  have HC14 := Lib.hid hc14
  have HNM := Lib.hid hnm
  have hx1 : x1 < 4294967296 := by have := tk_lt bs 32 (0, 0); rw [t1] at this; simpa using this
  have hx2 : x2 < 4294967296 := by have := tk_lt bs 32 a1; rw [t2] at this; simpa using this
  have T1 := Lib.hid (show ∀ br v wx, BR br bs v (0, 0) wx → Calls Try.prog 57 #[.pointer (some ⟨br, 0, none⟩), .int .i64 32] wx (Took wx br bs a1.1 a1.2 v (x1 : Nat)) from fun br v wx h => by
    have := tk_is br 0 32 bs 0 v wx h (by omega)
    rw [t1] at this
    exact this)
  have T2 := Lib.hid (show ∀ br v wx, BR br bs v a1 wx → Calls Try.prog 57 #[.pointer (some ⟨br, 0, none⟩), .int .i64 32] wx (Took wx br bs a2.1 a2.2 v (x2 : Nat)) from fun br v wx h => by
    have := tk_is br a1.1 32 bs a1.2 v wx h (by omega)
    rw [t2] at this
    exact this)
  have HX := Lib.hid (show x1 < 4294967296 ∧ x2 < 4294967296 from ⟨hx1, hx2⟩)
  have HBY := Lib.hid hby
  have HTK := Lib.hid htk
  have HT := Lib.hid hT
  have HCF := Lib.hid hcf
  have HFIT := Lib.hid hfit
  have HANS := Lib.hid han
  have hz0 : ((s : Int) == 0) = false := by rw [beq_eq_false_iff_ne]; omega
  clear hs hb hl hso hs1 hs4 hc2 hc14 hnm t1 t2 hby htk hT hcf hfit han hx1 hx2
  go_enter Try.func23, Try.ntmps23
  go_upto_region 1 with (fail)
  generalize hw0 : World.alloc _ _ = w0
  obtain ⟨pb, hpb⟩ : ∃ k, w.heap.size = k := ⟨_, rfl⟩
  obtain ⟨rb, hrb⟩ : ∃ k, w.heap.size + 1 = k := ⟨_, rfl⟩
  have I0 := Lib.hid (show Is w0 pb 41 #[.int .u8 (ct : Nat), .int .u8 (kd : Nat), vb, .int .u8 (pad : Nat)] from by rw [← hw0, ← hpb]; exact (Is.made _ _ _).alloc _)
  have R0 := Lib.hid (show Is w0 rb 27 ((msB 0 0 0).cls (.slice none 0 0) (.slice none 0 0) (.slice none 0 0)) from by rw [← hw0, ← hrb]; have h := Is.made (w.alloc (.cells #[.int .u8 (ct : Nat), .int .u8 (kd : Nat), vb, .int .u8 (pad : Nat)] 41)) 27 ((msB 0 0 0).cls (.slice none 0 0) (.slice none 0 0) (.slice none 0 0)); rw [World.size_alloc] at h; exact h)
  have P0 := Lib.hid (show Only (fun _ => False) w w0 from by rw [← hw0]; exact ((Only.refl _ w).alloc _).alloc _)
  have HRB := Lib.hid (show w.heap.size ≤ rb from by omega)
  rw [hrb, hpb]
  clear hw0 hpb hrb
  have c0 := I0.out.cell 0
  have c1 := I0.out.cell 1
  simp at c0 c1
  go_upto_region 2 with (first
    | (go_at_call 55; refine (HSB.out _).mono ?_; rintro e w2 ⟨rfl, ho2⟩; have O2 := Lib.hid ho2; clear ho2)
    | (refine wpList_store_is rfl 93 _ _ rfl w2.heap.size (srtV s) rfl rfl 93 (srtV 0) (Is.made w2 _ (srtV 0)) HZ.out.1 HZ.out.2.1 HZ.out.2.2 ?_; intro w3 hi3 ho3; have O3 := Lib.hid (fb_made ho3); have S3 := Lib.hid hi3; clear hi3 ho3))
  generalize w2.heap.size = sb at *
  have P3 := Lib.hid (only_more P0.out (only_more O2.out O3.out))
  have I3 := Lib.hid (I0.out.only (only_more O2.out O3.out) (by simp))
  have R3 := Lib.hid (R0.out.only (only_more O2.out O3.out) (by simp))
  clear I0 R0 P0 O2 O3 c0 c1
  have c2 := I3.out.cell 2
  simp at c2
  go_upto_region 5 with (go_at_call 56; refine (of_src vb bs _ 0 (Nat.zero_le _) (HS.out.of_only P3.out) (by have := HL.out; omega)).mono ?_; rintro e w4 ⟨br, rv, rfl, hbr, hir, hor, -, ho4⟩; have O4 := Lib.hid ho4; have BR4 := Lib.hid (show BR br bs rv (0, 0) w4 from ⟨hir, hor, HB.out, by have := HL.out; omega, Nat.zero_le _⟩); have HBR := Lib.hid hbr; clear hbr hir hor ho4)
  have S4 := Lib.hid (S3.out.only O4.out (by simp))
  refine fp5 s x1 x2 br bs rv a1 a2 HX.out.1 HX.out.2 (fun wx h => T1.out br rv wx h) (fun wx h => T2.out br rv wx h) _ _ _ _ _ _ _ _ _ _ _ _ _ _ _ _ _ _ _ _ _ _ _ _ _ _ _ _ _ _ _ _ _ _ _ _ _ _ _ _ _ _ _ _ _ _ _ _ _ _ _ _ _ _ _ _ _ _ _ _ _ _ w4 BR4.out ?_
  rintro y7 y23 y24 y25 y26 y27 y28 y29 y30 w5 ⟨mb, rfl, hge, hI5, hR5, ho5⟩
  have M5 := Lib.hid (show Mp ((msB s x1 x2).cls (.slice none 0 0) (.slice none 0 0) (.slice none 0 0)) mb w3 w5 from ⟨hI5, O4.out.trans ho5 (fun i hi e => by have := HBR.out; omega)⟩)
  have BR5 := Lib.hid hR5
  have HMB := Lib.hid (show w3.heap.size ≤ mb from Nat.le_trans O4.out.size hge)
  have S5 := Lib.hid (isnt S4.out BR4.out.is (by decide) ho5)
  clear hI5 hR5 ho5 hge S4 BR4 c2
  go_upto_region 6 with (fail)
  refine fp6 s br sb nm nd bs rv a2 a3 HC2.out HNM.out (fun wx h => HBY.out rv br wx h) _ _ _ _ _ _ _ _ _ _ _ _ _ _ _ _ _ _ _ _ _ _ _ _ _ _ _ _ _ _ _ _ _ _ _ _ _ _ _ _ _ _ _ _ _ _ _ _ _ _ _ _ _ _ _ _ _ _ _ _ _ _ w5 BR5.out S5.out ?_
  rintro y31 y32 y33 y34 y35 y36 y37 y38 y39 w6 ⟨hR6, ho6⟩
  have M6 := Lib.hid (M5.out.took HBR.out BR5.out ho6)
  have S6 := Lib.hid (isnt S5.out BR5.out.is (by decide) ho6)
  have BR6 := Lib.hid hR6
  clear hR6 ho6 M5 S5 BR5 O4
  have s14 := (S6.out.cell 14).trans HC14.out
  go_upto_region 8 with (fail)
  rw [HCF.out]
  simp only [Oper.upon]
  refine (HT.out rv mb br w3 w6 M6.out BR6.out HMB.out HBR.out).mono ?_
  rintro e w7 ⟨rfl, vp, vo, vs, hM, hW, hR⟩
  rw [HTK.out] at hM hW hR
  have G7 := Lib.hid hM
  have W7 := Lib.hid hW
  have R7 := Lib.hid hR
  clear hM hW hR M6 S6 BR6 s14 HTK HT HCF HBY T1 T2 HX
  have RB := Lib.hid (R3.out.only G7.out.pure (by simp))
  have OO := Lib.hid (only_more P3.out G7.out.pure)
  have HW3 := Lib.hid (show w.heap.size ≤ w3.heap.size from P3.out.size)
  clear R3 I3 S3
  go_upto_region 8 with (fail)
  obtain _ | _ := nd
  · have HAN := Lib.hid (show an = (ms0, 63) from by rw [HANS.out, if_neg (fun h => by cases h.1)])
    clear HANS
    go_wp2_with (refine wpList_store_is rfl 27 _ _ rfl rb ((msB 0 0 0).cls (.slice none 0 0) (.slice none 0 0) (.slice none 0 0)) rfl rfl 27 _ RB.out Try.sizeMe rfl (by simp [Ms.cls, msB, Value.oneCell']) ?_; intro w8 hi8 ho8)
    refine bodyPost_ret (res_pair Try.results23 _ w8 rb 27 _ _ _ rfl rfl hi8 Try.underlying27 rfl Try.sizeMe) rfl ?_
    exact ⟨.slice none 0 0, .slice none 0 0, .slice none 0 0, by rw [HAN.out]; rfl, by rw [HAN.out]; exact OwnM.nil _ _ _ rfl rfl rfl, OO.out.trans ho8 (fun i hi e => by have := HRB.out; omega)⟩
  have HER := Lib.hid (fun (wx : World) (h : Rdr wx br bs a4.1 a4.2 rv) => err_rdr br a4.1 bs a4.2 rv wx h)
  have HLE := Lib.hid (fun (wx : World) (h : Rdr wx br bs a4.1 a4.2 rv) => left_rdr br a4.1 bs a4.2 rv wx h)
  obtain ⟨p4, f4⟩ := a4
  simp only at HER HLE HANS R7
  by_cases hf : f4 = 0
  · subst hf
    obtain ⟨L, hL⟩ : ∃ L, 8 * bs.length - p4 = L := ⟨_, rfl⟩
    rw [hL] at HLE HANS
    clear hL
    by_cases hL0 : L = 0
    · subst hL0
      obtain ⟨r, hr⟩ : ∃ r, rightMs m = r := ⟨_, rfl⟩
      have HRI := Lib.hid (fun (wx : World) (h : RdM m vp vo vs wx) => fright_is m vp vo vs wx h HFIT.out.1 HFIT.out.2.1 HFIT.out.2.2)
      rw [hr] at HRI HANS
      clear hr
      go_wp2_with fail
      refine (HER.out _ R7.out).mono ?_
      rintro e w9 ⟨rfl, rfl⟩
      go_wp2_with fail
      refine (HLE.out _ R7.out).mono ?_
      rintro e w9 ⟨rfl, d9, rfl⟩
      have od := only_drewN w7 d9
      have G9 := Lib.hid (G7.out.go od)
      have W9 := Lib.hid (W7.out.only od)
      have RB9 := Lib.hid (RB.out.only od (by simp))
      have OO9 := Lib.hid (OO.out.trans od (fun _ _ e => e))
      clear G7 W7 RB OO od R7
      generalize w7.drewN d9 = w9 at *
      go_wp2_with (refine wpList_load_want (o := ⟨some 57, _, _, _, _, _⟩) rfl _ _ rfl mb rfl _ _ _ G9.out.io Try.underlying27 rfl Try.sizeMe ?_)
      refine (HRI.out _ W9.out.rd).mono ?_
      rintro e w10 ⟨rfl, ho⟩
      have G7 := Lib.hid (G9.out.go ho)
      have W7 := Lib.hid (W9.out.only ho)
      have RB := Lib.hid (RB9.out.only ho (by simp))
      have OO := Lib.hid (OO9.out.trans ho (fun _ _ e => e))
      clear G9 W9 RB9 OO9 ho
      obtain _ | _ := r
      · have HAN := Lib.hid (show an = (ms0, 63) from by rw [HANS.out, if_neg (fun h => by cases h.2.2.2)])
        clear HANS
        go_wp2_with (refine wpList_store_is rfl 27 _ _ rfl rb ((msB 0 0 0).cls (.slice none 0 0) (.slice none 0 0) (.slice none 0 0)) rfl rfl 27 _ RB.out Try.sizeMe rfl (by simp [Ms.cls, msB, Value.oneCell']) ?_; intro w8 hi8 ho8)
        refine bodyPost_ret (res_pair Try.results23 _ w8 rb 27 _ _ _ rfl rfl hi8 Try.underlying27 rfl Try.sizeMe) rfl ?_
        exact ⟨.slice none 0 0, .slice none 0 0, .slice none 0 0, by rw [HAN.out]; rfl, by rw [HAN.out]; exact OwnM.nil _ _ _ rfl rfl rfl, OO.out.trans ho8 (fun i hi e => by have := HRB.out; omega)⟩
      · have HAN := Lib.hid (show an = (m, 0) from by rw [HANS.out]; exact if_pos (by simp))
        have HONE := Lib.hid (Ms.one m (vp := vp) (vo := vo) (vs := vs) (by obtain ⟨A, c, h, -⟩ := OwnS.slice W7.out.1; exact ⟨_, _, _, h⟩) (by obtain ⟨A, c, h, -⟩ := OwnS.slice W7.out.2.1; exact ⟨_, _, _, h⟩) (by obtain ⟨A, c, h, -⟩ := OwnS.slice W7.out.2.2; exact ⟨_, _, _, h⟩))
        clear HANS
        go_wp2_with (first
          | (refine wpList_load_want (o := ⟨some 62, _, _, _, _, _⟩) rfl _ _ rfl mb rfl _ _ _ G7.out.io Try.underlying27 rfl Try.sizeMe ?_)
          | (refine wpList_store_is rfl 27 _ _ rfl rb (m.cls vp vo vs) rfl rfl 27 _ RB.out Try.sizeMe rfl HONE.out ?_; intro w8 hi8 ho8))
        refine bodyPost_ret (res_pair Try.results23 _ w8 rb 27 _ _ _ rfl rfl hi8 Try.underlying27 rfl Try.sizeMe) rfl ?_
        exact ⟨vp, vo, vs, by rw [HAN.out]; rfl, by rw [HAN.out]; exact OwnM.low (W7.out.far RB.out (by decide) (by decide) (by decide) ho8) HW3.out, OO.out.trans ho8 (fun i hi e => by have := HRB.out; omega)⟩
    · have HAN := Lib.hid (show an = (ms0, 63) from by rw [HANS.out, if_neg (fun h => hL0 h.2.2.1)])
      have hLI : (0 : Int) < (L : Int) := by omega
      clear HANS
      go_wp2_with fail
      refine (HER.out _ R7.out).mono ?_
      rintro e w9 ⟨rfl, rfl⟩
      go_wp2_with fail
      refine (HLE.out _ R7.out).mono ?_
      rintro e w9 ⟨rfl, d9, rfl⟩
      have od := only_drewN w7 d9
      have RB9 := Lib.hid (RB.out.only od (by simp))
      have OO9 := Lib.hid (OO.out.trans od (fun _ _ e => e))
      clear G7 W7 RB OO od R7
      generalize w7.drewN d9 = w9 at *
      have RB := RB9
      have OO := OO9
      clear RB9 OO9
      go_wp2_with (refine wpList_store_is rfl 27 _ _ rfl rb ((msB 0 0 0).cls (.slice none 0 0) (.slice none 0 0) (.slice none 0 0)) rfl rfl 27 _ RB.out Try.sizeMe rfl (by simp [Ms.cls, msB, Value.oneCell']) ?_; intro w8 hi8 ho8)
      refine bodyPost_ret (res_pair Try.results23 _ w8 rb 27 _ _ _ rfl rfl hi8 Try.underlying27 rfl Try.sizeMe) rfl ?_
      exact ⟨.slice none 0 0, .slice none 0 0, .slice none 0 0, by rw [HAN.out]; rfl, by rw [HAN.out]; exact OwnM.nil _ _ _ rfl rfl rfl, OO.out.trans ho8 (fun i hi e => by have := HRB.out; omega)⟩
  · have HAN := Lib.hid (show an = (ms0, 63) from by rw [HANS.out, if_neg (fun h => hf h.2.1)])
    have hfI : (f4 == 0) = false := by rw [beq_eq_false_iff_ne]; exact hf
    clear HANS
    go_wp2_with fail
    refine (HER.out _ R7.out).mono ?_
    rintro e w9 ⟨rfl, rfl⟩
    go_wp2_with (refine wpList_store_is rfl 27 _ _ rfl rb ((msB 0 0 0).cls (.slice none 0 0) (.slice none 0 0) (.slice none 0 0)) rfl rfl 27 _ RB.out Try.sizeMe rfl (by simp [Ms.cls, msB, Value.oneCell']) ?_; intro w8 hi8 ho8)
    refine bodyPost_ret (res_pair Try.results23 _ w8 rb 27 _ _ _ rfl rfl hi8 Try.underlying27 rfl Try.sizeMe) rfl ?_
    exact ⟨.slice none 0 0, .slice none 0 0, .slice none 0 0, by rw [HAN.out]; rfl, by rw [HAN.out]; exact OwnM.nil _ _ _ rfl rfl rfl, OO.out.trans ho8 (fun i hi e => by have := HRB.out; omega)⟩
end Go.Proofs.Ytefcimkopgcagaa
