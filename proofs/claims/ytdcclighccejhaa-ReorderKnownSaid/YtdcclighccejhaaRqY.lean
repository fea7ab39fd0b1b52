/- reorder's law: does. Conditions: as each says. -/
import Derived.Test.YtdcclighccejhaaRqX
set_option linter.unusedVariables false
set_option linter.unusedSimpArgs false
namespace Go.Proofs.Ytdcclighccejhaa
open Go Go.RowKit

set_option maxRecDepth 100000 in
set_option maxHeartbeats 16000000 in
theorem does_in_no (b B0 B : Nat) (m : Bf) (v : Value) (us : List V3) (r : Rb) (v2 : Value) (us2 : List V3) (a : Ac) (u : V3) (w : World) (h : St b B0 B m v us r v2 us2 w) (hfit : a.Fit) (hpick : ¬ a.d % 8 = 6 ∧ ¬ a.d % 8 = 7) (hfew : a.few = true) (hU : ∀ w', Only (fun k => B0 ≤ k) w w' → RdU a.p u w') (ht : ¬ m.takes a.n) :
    Calls Try.prog 11 #[ptr b, .agg (r.cells v2), .agg (a.cls u).toArray] w (DoesSt b B0 B w) := by
  obtain ⟨A0, c0, rfl, hc0⟩ := h.ref.rd.sl
  obtain ⟨q0, q1, q2, q3, q4, q5, q6, q7, q8, q9, q10, hq⟩ : ∃ q0 q1 q2 q3 q4 q5 q6 q7 q8 q9 q10 : Value, a.p.cls u.1 u.2.1 u.2.2 = #[q0, q1, q2, q3, q4, q5, q6, q7, q8, q9, q10] := ⟨_, _, _, _, _, _, _, _, _, _, _, rfl⟩
  have hcl : (a.cls u).toArray = #[.int .i64 a.d, .int .u64 (a.n : Int), .int .u64 (a.now : Int), q0, q1, q2, q3, q4, q5, q6, q7, q8, q9, q10] := by unfold Ac.cls; rw [hq]
  rw [hcl]
  obtain ⟨d, hd⟩ : ∃ d, a.d = d := ⟨_, rfl⟩
  obtain ⟨n, hn⟩ : ∃ n, a.n = n := ⟨_, rfl⟩
  obtain ⟨now, hnow⟩ : ∃ now, a.now = now := ⟨_, rfl⟩
  rw [hd, hn, hnow] at hcl ⊢
  rw [hd] at hpick
  obtain ⟨pk, hpk⟩ : ∃ pk, d % 8 = pk := ⟨_, rfl⟩
  rw [hpk] at hpick
  obtain ⟨hp6, hp7⟩ := hpick
  have hdr := fit_d hfit.2.2
  have hnw := hfit.2.1
  rw [hd] at hdr
  rw [hnow] at hnw
  have HPK := Lib.hid (fun w1 : World => pick_is d 8 w1 hdr (by omega) (by omega))
  rw [hpk] at HPK
  have hbd := bd_few hfew
  obtain ⟨p, hp⟩ : ∃ p, a.p = p := ⟨_, rfl⟩
  rw [hp] at hU hq hbd
  rw [hn] at hbd ht
  have HU := Lib.hid hU
  have HBD := Lib.hid hbd
  have hcq : #[q0, q1, q2, q3, q4, q5, q6, q7, q8, q9, q10] = p.cls u.1 u.2.1 u.2.2 := hq.symm
  have HCQ := Lib.hid hcq
  clear hU hbd hcq hfew hp
  have HTK := Lib.hid ht
  clear ht
  have HB0 := Lib.hid (show B0 ≤ w.heap.size from Nat.le_trans h.lB h.hB)
  have H := Lib.hid h
  obtain ⟨sz, hsz⟩ : ∃ x, r.size = x := ⟨_, rfl⟩
  obtain ⟨hold, hhold⟩ : ∃ x, r.hold = x := ⟨_, rfl⟩
  obtain ⟨nx, hnx⟩ : ∃ x, r.next = x := ⟨_, rfl⟩
  obtain ⟨bg, hbg⟩ : ∃ x, r.begun = x := ⟨_, rfl⟩
  obtain ⟨L, hL⟩ : ∃ x, r.ws.length = x := ⟨_, rfl⟩
  have hrc : r.cells (.slice A0 r.ws.length c0) = #[.int .i64 sz, .int .u64 (hold : Int), .int .u64 (nx : Int), .bool bg, .slice A0 L c0] := by unfold Rb.cells; rw [hsz, hhold, hnx, hbg, hL]
  have HRC := Lib.hid hrc
  rw [hrc]
  clear hcl hq hd hn hnow hfit hc0 hpk h hsz hhold hnx hbg hL hrc
  go_enter Try.func11, Try.ntmps11
  go_upto_region 4 with (fail)
  generalize hw1 : World.alloc (World.alloc (World.alloc _ _) _) _ = w1
  have O1 := Lib.hid (show Only (fun _ => False) w w1 from by rw [← hw1]; exact (((Only.refl _ w).alloc _).alloc _).alloc _)
  have I4 := Lib.hid (show Is w1 w.heap.size 32 #[.int .i64 sz, .int .u64 (hold : Int), .int .u64 (nx : Int), .bool bg, .slice A0 L c0] from by rw [← hw1]; exact ((Is.made w _ _).alloc _).alloc _)
  have I5 := Lib.hid (show Is w1 (w.heap.size + 1) 44 #[.int .i64 d, .int .u64 (n : Int), .int .u64 (now : Int), q0, q1, q2, q3, q4, q5, q6, q7, q8, q9, q10] from by
    rw [← hw1]
    have := Is.made (w.alloc (.cells #[.int .i64 sz, .int .u64 (hold : Int), .int .u64 (nx : Int), .bool bg, .slice A0 L c0] 32)) 44 #[.int .i64 d, .int .u64 (n : Int), .int .u64 (now : Int), q0, q1, q2, q3, q4, q5, q6, q7, q8, q9, q10]
    rw [World.size_alloc] at this
    exact this.alloc _)
  have J6 := Lib.hid (show Is w1 (w.heap.size + 2) 32 zeroRb from by
    rw [← hw1]
    have := Is.made ((w.alloc (.cells #[.int .i64 sz, .int .u64 (hold : Int), .int .u64 (nx : Int), .bool bg, .slice A0 L c0] 32)).alloc (.cells #[.int .i64 d, .int .u64 (n : Int), .int .u64 (now : Int), q0, q1, q2, q3, q4, q5, q6, q7, q8, q9, q10] 44)) 32 zeroRb
    rw [World.size_alloc, World.size_alloc] at this
    exact this)
  obtain ⟨r4, hr4⟩ : ∃ b, w.heap.size = b := ⟨_, rfl⟩
  obtain ⟨r5, hr5⟩ : ∃ b, w.heap.size + 1 = b := ⟨_, rfl⟩
  obtain ⟨r6, hr6⟩ : ∃ b, w.heap.size + 2 = b := ⟨_, rfl⟩
  have HR := Lib.hid (show r4 = w.heap.size ∧ r5 = w.heap.size + 1 ∧ r6 = w.heap.size + 2 from ⟨hr4.symm, hr5.symm, hr6.symm⟩)
  rw [hr6] at J6 ⊢
  rw [hr5] at I5 ⊢
  rw [hr4] at I4 ⊢
  clear hw1 hr4 hr5 hr6
  have c50 : w1.cell? ⟨r5, 0, none⟩ = some (.int .i64 d) := I5.out.cell 0
  have c52 : w1.cell? ⟨r5, 2, none⟩ = some (.int .u64 (now : Int)) := I5.out.cell 2
  go_wp2_with fail
  refine (HPK.out w1).mono ?_
  rintro e w1' ⟨rfl, rfl⟩

  have c51 : w1.cell? ⟨r5, 1, none⟩ = some (.int .u64 (n : Int)) := I5.out.cell 1
  have HOW := Lib.hid (show Calls Try.prog 23 #[.agg #[q0, q1, q2, q3, q4, q5, q6, q7, q8, q9, q10]] w1 (GotCopy p w1) from by
    rw [HCQ.out]
    exact lown_is p u.1 u.2.1 u.2.2 w1 (HU.out w (Only.refl _ w)).2 ((HU.out w (Only.refl _ w)).1.only O1.out) HBD.out.1)
  clear HPK c50
  have HZ := Lib.hid (show ∀ (x : World), Is (x.alloc (.cells zeroPk 42)) x.heap.size 42 zeroPk from fun x => Is.made x _ _)
  go_upto_region 6 with (first
    | (refine wpList_load_mid rfl 42 _ rfl r5 3 rfl [q0, q1, q2, q3, q4, q5, q6, q7, q8, q9, q10] _ (act_mid I5.out) Try.underlying42 rfl Try.sizePq ?_)
    | ((with_reducible refine HOW.out.mono ?_); rintro e w2 ⟨vc, ve, vp, rfl, hO2, hoo⟩; have HO2 := Lib.hid hO2; have OO2 := Lib.hid hoo; have HV := Lib.hid (p.cls_one (own_isSl hO2.1) (own_isSl hO2.2.1) (own_isSl hO2.2.2)); clear hO2 hoo c51 c52)
    | (refine wpList_store_is (o := ⟨none, _, _, _, _, _⟩) rfl 42 _ _ rfl w2.heap.size (p.cls vc ve vp) rfl rfl 42 zeroPk (HZ.out w2) Try.sizePq rfl HV.out ?_; intro w3 hi3 ho3; have I12 := Lib.hid hi3; have O23 := Lib.hid (((Only.refl _ w2).alloc _).trans ho3 (fun i hi e => by omega) : Only (fun _ => False) w2 w3); clear hi3 ho3))
  obtain ⟨r12, hr12⟩ : ∃ x, w2.heap.size = x := ⟨_, rfl⟩
  have HR12 := Lib.hid hr12
  rw [hr12] at I12 ⊢
  clear hr12
  have O13 := Lib.hid (OO2.out.trans O23.out (fun _ _ e => e))
  have O03 := Lib.hid (O1.out.trans O13.out (fun _ _ e => e))
  have HP3 := Lib.hid (HO2.out.only O23.out)
  have J4 := Lib.hid (I4.out.only O13.out (by simp))
  have J5 := Lib.hid (I5.out.only O13.out (by simp))
  have K6 := Lib.hid (J6.out.only O13.out (by simp))
  have S3 := Lib.hid (H.out.pure O03.out)
  have HFAR := Lib.hid (show ¬ Blk (vc, ve, vp) b from HP3.out.not_is (u := (vc, ve, vp)) S3.out.bf.is (by decide) (by decide))
  have HPB := Lib.hid (show ∀ k, Blk (vc, ve, vp) k → w1.heap.size ≤ k ∧ k < w3.heap.size from OwnPk.blk (u := (vc, ve, vp)) HP3.out)

  have HIN := Lib.hid (rin_no b n now B (p.cls vc ve vp) rfl m v us w3 S3.out.bf H.out.good HTK.out)

  have d51 : w3.cell? ⟨r5, 1, none⟩ = some (.int .u64 (n : Int)) := J5.out.cell 1
  have d52 : w3.cell? ⟨r5, 2, none⟩ = some (.int .u64 (now : Int)) := J5.out.cell 2
  go_upto_region 7 with (first
    | (refine wpList_load_want (o := ⟨some 23, _, _, _, _, _⟩) rfl _ _ rfl r12 rfl _ (p.cls vc ve vp) _ I12.out Try.underlying42 rfl Try.sizePq ?_)
    | ((with_reducible refine HIN.out.mono ?_); rintro e w4 ⟨rfl, ho4⟩; have O34 := Lib.hid ho4; clear ho4))

  clear d51 d52 HIN
  have K12 := Lib.hid (I12.out.only O34.out (by simp))
  have HP4 := Lib.hid (HP3.out.only O34.out)
  have HSC := Lib.hid (spoil_packet p vc ve vp w4 _ _ _ _ _ _ _ _ _ HP4.out.1 HP4.out.2.1 HP4.out.2.2 HBD.out.1)
  rw [show (#[.bool p.marker, .int .u8 p.ty, .int .u16 p.seq, .int .u32 p.time, .int .u32 p.ssrc, vc, .bool p.hasExt, .int .u16 p.profile, ve, vp, .int .u8 p.pad] : Array Value) = p.cls vc ve vp from rfl] at HSC
  go_upto_region 8 with (first
    | (refine wpList_load_want (o := ⟨some 29, _, _, _, _, _⟩) rfl _ _ rfl r12 rfl _ (p.cls vc ve vp) _ K12.out Try.underlying42 rfl Try.sizePq ?_)
    | ((with_reducible refine HSC.out.mono ?_); rintro e w5 ⟨rfl, ho5⟩; have O5 := Lib.hid ho5; clear ho5))
  clear HSC
  have O05 := Lib.hid (show Only (fun _ => False) w w5 from (O03.out.trans O34.out (fun _ _ e => e)).trans O5.out (fun k hk e => by
    have := HPB.out k e
    have := O1.out.size
    omega))
  have L4 := Lib.hid (J4.out.only O34.out (by simp))
  have L5 := Lib.hid (J5.out.only O34.out (by simp))
  have L6 := Lib.hid (K6.out.only O34.out (by simp))
  have M4 := Lib.hid (L4.out.only O5.out (HP4.out.not_is (u := (vc, ve, vp)) L4.out (by decide) (by decide)))
  have M5 := Lib.hid (L5.out.only O5.out (HP4.out.not_is (u := (vc, ve, vp)) L5.out (by decide) (by decide)))
  have M6 := Lib.hid (L6.out.only O5.out (HP4.out.not_is (u := (vc, ve, vp)) L6.out (by decide) (by decide)))
  have S5 := Lib.hid (H.out.pure O05.out)
  clear S3 O13 OO2 O23 HO2 HP3 I12 I4 I5 J6 J4 J5 K6 K12 L4 L5 L6 HP4 HFAR HPB O5 HR12 HV HZ HOW O03 O34 O1
  have HNE := Lib.hid (show ¬ r5 = r4 ∧ B0 ≤ r4 ∧ r4 ≠ r6 ∧ B0 ≤ r6 from by have := HR.out; have := HB0.out; omega)
  have HIR := Lib.hid (show ∀ (w6 : World) (u9 : V3), Only (fun _ => False) w5 w6 → OwnPk w5.heap.size p u9.1 u9.2.1 u9.2.2 w6 → Calls Try.prog 25 #[.agg (r.cells (.slice A0 r.ws.length c0)), .int .u64 (n : Int), .agg (p.cls u9.1 u9.2.1 u9.2.2), .int .u64 (now : Int)] w6 (fun e w7 => ∃ cs2 mo, e = .returned (.tuple #[.agg cs2, mo, .bool false]) ∧ (fun (u9 : V3) (cs2 : Array Value) (mo : Value) w7 => cs2 = #[.int .i64 sz, .int .u64 (hold : Int), .int .u64 (nx : Int), .bool bg, .slice A0 L c0] ∧ mo = .slice none 0 0 ∧ St b B0 B m v us r (.slice A0 r.ws.length c0) us2 w7) u9 cs2 mo w7 ∧ Only (fun _ => False) w6 w7) from fun w6 u9 ho6 hu9 => by
    have hnt : ¬ r.takes n := fun e => HTK.out ((H.out.sim.takes H.out.good n).1 e)
    have hbg : r.begun = true := by
      cases hs : r.begun with
      | true => rfl
      | false =>
        exfalso
        refine hnt ⟨fun x hx => ?_, fun e => by rw [hs] at e; cases e⟩
        rw [H.out.sim.ws, H.out.good.emp (by rw [← H.out.sim.begun, hs])] at hx
        simp at hx
    refine (inR_no r us2 (.slice A0 r.ws.length c0) ⟨n, now, p⟩ u9 w6 (S5.out.pure ho6).ref.rd hbg hnt (by rw [H.out.sim.ws]; have := H.out.good.len; have := H.out.good.le; omega) (by rw [H.out.sim.ws]; exact H.out.good.rise)).mono ?_
    rintro e w7 ⟨rfl, ho7⟩
    exact ⟨_, _, rfl, ⟨HRC.out, rfl, (S5.out.pure ho6).pure ho7⟩, ho7⟩)
  rw [HRC.out] at HIR
  have HDC := Lib.hid (show ∀ w6, Only (fun _ => False) w5 w6 → Calls Try.prog 26 #[.agg #[q0, q1, q2, q3, q4, q5, q6, q7, q8, q9, q10]] w6 (fun e w7 => ∃ u9 : V3, e = .returned (.agg (p.cls u9.1 u9.2.1 u9.2.2)) ∧ OwnPk w5.heap.size p u9.1 u9.2.1 u9.2.2 w7 ∧ Only (fun _ => False) w6 w7) from fun w6 ho6 => by
    obtain ⟨hr, hn0⟩ := HU.out w6 ((O05.out.trans ho6 (fun _ _ e => e)).mono (fun _ _ e => e.elim))
    rw [HCQ.out]
    refine (docs_packet p u.1 u.2.1 u.2.2 w6 hn0 hr.c hr.e hr.p HBD.out.1).mono ?_
    rintro e w7 ⟨xc, xe, xp, rfl, g1, g2, g3, g4⟩
    exact ⟨(xc, xe, xp), rfl, OwnPk.low (B := w6.heap.size) ⟨g1, g2, g3⟩ ho6.size, g4⟩)
  refine rd8 r4 r5 B0 n now d false p #[.int .i64 sz, .int .u64 (hold : Int), .int .u64 (nx : Int), .bool bg, .slice A0 L c0] q0 q1 q2 q3 q4 q5 q6 q7 q8 q9 q10 (fun (u9 : V3) (cs2 : Array Value) (mo : Value) w7 => cs2 = #[.int .i64 sz, .int .u64 (hold : Int), .int .u64 (nx : Int), .bool bg, .slice A0 L c0] ∧ mo = .slice none 0 0 ∧ St b B0 B m v us r (.slice A0 r.ws.length c0) us2 w7) w5 HNE.out.1 HNE.out.2.1 Try.sizeRb HDC.out HIR.out ?_ ?_ ?_ _ _ _ _ _ _ _ _ _ _ _ _ _ _ _ _ _ _ _ _ _ _ _ _ _ _ _ _ _ _ _ _ _ _ _ _ _ _ _ _ _ _ _ _ _ _ _ _ _ _ _ _ _ _ _ _ _ _ _ _ _ _ _ _ _ _ _ _ _ _ _ _ _ _ _ _ _ _ _ w5 (Only.refl _ _) M4.out M5.out ?_
  · rintro u9 cs2 mo wz ⟨rfl, -, hw⟩
    exact ⟨rfl, by simp [Value.oneCell']⟩
  · rintro u9 cs2 mo x y ⟨e, e2, hw⟩ ho
    exact ⟨e, e2, hw.pure ho⟩
  · rintro u9 cs2 mo x y ⟨e, e2, hw⟩ ⟨ds, hd⟩ ho
    exact ⟨e, e2, hw.far hd (by decide) (by decide) (by decide) (by decide) (by decide) ho⟩
  rintro y9 y31 y32 y33 y34 y35 y36 y37 y38 y39 y40 y41 y42 y43 w6 ⟨u9, cs2, mo, rfl, hi4, ⟨rfl, hmo, hw⟩, ho6⟩
  subst hmo
  have P4 := Lib.hid hi4
  have P6 := Lib.hid (M6.out.only ho6 (fun e => HNE.out.2.2.1 e.symm))
  have HW := Lib.hid hw
  have O06 := Lib.hid (show Only (fun k => B0 ≤ k) w w6 from (O05.out.mono (fun _ _ e => e.elim)).trans ho6 (fun k _ (e : k = r4) => by have := HNE.out.2.1; omega))
  have HK6 := Lib.hid (show ∀ g ds, Is w g 32 ds → Is w6 g 32 ds from fun g ds hg => (hg.only O05.out (by simp)).only ho6 (fun (e : g = r4) => by have := hg.lt; have := HR.out; omega))
  clear hi4 hw ho6 M4 M5 M6 HIR HDC S5
  have HST := Lib.hid (show ∀ (w9 : World), St b B0 B m v us r (.slice A0 r.ws.length c0) us2 w9 → Calls Try.prog 28 #[ptr b, .agg #[.int .i64 sz, .int .u64 (hold : Int), .int .u64 (nx : Int), .bool bg, .slice A0 L c0]] w9 (SaysO (.bool true) w9) from fun w9 hs => by
    rw [← HRC.out]
    exact stands_is b B _ v _ _ _ _ w9 hs.bf hs.good hs.sim hs.ref.rd)
  have HNI := Lib.hid (show ∀ (x y : World), St b B0 B m v us r (.slice A0 r.ws.length c0) us2 x → (∃ ds, Is x r6 32 ds) → Only (fun k => k = r6) x y → St b B0 B m v us r (.slice A0 r.ws.length c0) us2 y from fun x y hx hd ho => by
    obtain ⟨ds, hd⟩ := hd
    exact hx.far hd (by decide) (by decide) (by decide) (by decide) (by decide) ho)
  have HSM := Lib.hid (show ∀ (w1 : World), St b B0 B m v us r (.slice A0 r.ws.length c0) us2 w1 → Calls Try.prog 27 #[.slice none 0 0, .slice none 0 0] w1 (fun e w2 => e = .returned (.bool true) ∧ St b B0 B m v us r (.slice A0 r.ws.length c0) us2 w2 ∧ (∀ g ds, Is w1 g 32 ds → Is w2 g 32 ds) ∧ Only (fun k => B0 ≤ k) w1 w2) from fun w1 hs => by
    refine (lsame_is (.slice none 0 0) (.slice none 0 0) [] [] 0 0 0 w1 (OwnS.nil _ _ _ _) (OwnS.nil _ _ _ _) rfl (by simp) (by simp) (by simp) (by simp) (by simp) (by simp) (by simp)).mono ?_
    rintro e w2 ⟨rfl, ho⟩
    have ho2 : Only (fun _ => False) w1 w2 := ho.mono (fun k _ hs => by
      rcases hs with e | ⟨x, hx, -⟩
      · simp [Value.ownBlock] at e
      · simp at hx)
    exact ⟨rfl, hs.pure ho2, fun g ds hg => hg.only ho2 (by simp), ho2.mono (fun _ _ e => e.elim)⟩)
  clear H HU HBD HCQ HTK
  go_upto_region 15 with (fail)
  refine rd15 b r4 r6 B0 _ (.slice none 0 0) (.slice none 0 0) #[.int .i64 sz, .int .u64 (hold : Int), .int .u64 (nx : Int), .bool bg, .slice A0 L c0] (fun wx => St b B0 B m v us r (.slice A0 r.ws.length c0) us2 wx) (fun wx => St b B0 B m v us r (.slice A0 r.ws.length c0) us2 wx) HNE.out.2.2.1 HNE.out.2.2.2 Try.sizeRb (by simp [Value.oneCell']) HSM.out HST.out (fun x y hp ho => hp.pure ho) HNI.out (fun x y hp ho => hp.pure ho) HNI.out _ _ _ _ _ _ _ _ _ _ _ _ _ _ _ _ _ _ _ _ _ _ _ _ _ _ _ _ _ _ _ _ _ _ _ _ _ _ _ _ _ _ _ _ _ _ _ _ _ _ _ _ _ _ _ _ _ _ _ _ _ _ _ _ _ _ _ _ _ _ _ _ _ _ w6 zeroRb rfl P4.out P6.out HW.out ?_
  rintro y66 y67 y68 y69 y70 y71 y72 y73 y74 y75 y76 y77 y78 y79 w9 ⟨hst, hi6, ho, hkp⟩
  have HS9 := Lib.hid hst
  have HI9 := Lib.hid hi6
  have HO9 := Lib.hid ho
  have HKP9 := Lib.hid hkp
  clear hst hi6 ho hkp
  go_wp2
  refine bodyPost_ret (res_cell Try.results11 _ w9 r6 32 #[.int .i64 sz, .int .u64 (hold : Int), .int .u64 (nx : Int), .bool bg, .slice A0 L c0] _ (.bool true) rfl rfl HI9.out Try.underlying32 rfl Try.sizeRb) rfl ?_
  exact ⟨m, v, us, r, _, us2, by rw [HRC.out], HS9.out, O06.out.trans HO9.out (fun _ _ e => e), fun g ds hg => HKP9.out g ds (HK6.out g ds hg) (by have := hg.lt; have := HR.out; omega)⟩
/-- A call of both. -/
theorem does_is (b B0 B : Nat) (m : Bf) (v : Value) (us : List V3) (r : Rb) (v2 : Value) (us2 : List V3) (a : Ac) (u : V3) (w : World) (h : St b B0 B m v us r v2 us2 w) (hfit : a.Fit) (hfew : a.few = true) (hU : ∀ w', Only (fun k => B0 ≤ k) w w' → RdU a.p u w') :
    Calls Try.prog 11 #[ptr b, .agg (r.cells v2), .agg (a.cls u).toArray] w (DoesSt b B0 B w) := by
  by_cases h6 : a.d % 8 = 6
  · exact does_tick b B0 B m v us r v2 us2 a u w h hfit h6
  · by_cases h7 : a.d % 8 = 7
    · exact does_flush b B0 B m v us r v2 us2 a u w h hfit h7
    · by_cases ht : m.takes a.n
      · exact does_in_yes b B0 B m v us r v2 us2 a u w h hfit ⟨h6, h7⟩ hfew hU ht
      · exact does_in_no b B0 B m v us r v2 us2 a u w h hfit ⟨h6, h7⟩ hfew hU ht
end Go.Proofs.Ytdcclighccejhaa
