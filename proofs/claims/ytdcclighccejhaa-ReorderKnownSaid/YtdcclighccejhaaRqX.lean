/- reorder's law: does: a packet. Conditions: as each says. -/
import Derived.Test.YtdcclighccejhaaRqW
set_option linter.unusedVariables false
set_option linter.unusedSimpArgs false
namespace Go.Proofs.Ytdcclighccejhaa
open Go Go.RowKit

theorem RefSt.lt {B0 : Nat} {us : List V3} {ws : List Wt} {v2 : Value} {us2 : List V3} {w : World} (h : RefSt B0 us ws v2 us2 w) : ∀ a ∈ us2, ∀ k, Blk a k → k < w.heap.size := by
  have hl := h.rd.len
  obtain ⟨v1, ws1, us1, q1, q2, q3, q4, q5, q6, q7⟩ := h
  intro a ha k hk
  obtain ⟨i, hi⟩ := List.getElem?_of_mem ha
  have hil : i < ws.length := by rw [← hl]; exact (List.getElem?_eq_some_iff.1 hi).1
  exact (OwnPk.blk (q7 i _ a (List.getElem?_eq_getElem hil) hi) k hk).2
theorem pks_lt {w : World} {B : Nat} {ws : List Wt} {us : List V3} (h : Pks w B ws us) : ∀ a ∈ us, ∀ k, Blk a k → k < w.heap.size := fun a ha k hk => by
  obtain ⟨p, hp⟩ := us_own h a ha
  exact (OwnPk.blk hp k hk).2
/-- One more stands in both. -/
theorem RefSt.ins {B0 N0 N3 N5 k k' : Nat} {us : List V3} {ws : List Wt} {v2 v1 : Value} {us2 : List V3} {x : Wt} {un u : V3} {w : World} (h : RefSt B0 us ws v2 us2 w) (hb : ∀ a ∈ us2, ∀ k, Blk a k → k < N0) (hus : ∀ a ∈ us, ∀ k, Blk a k → k < N0)
    (hun : ∀ k, Blk un k → N3 ≤ k ∧ k < N5) (h03 : N0 ≤ N3) (h05 : N0 ≤ N5) (hB : B0 ≤ N5) (hu : OwnPk N5 x.p u.1 u.2.1 u.2.2 w) (hk : k ≤ ws.length) (hS : OwnS w B0 87 13 v1 (wtRows (insAt ws k x) (insAt us2 k u))) :
    RefSt B0 (insAt us k' un) (insAt ws k x) v1 (insAt us2 k u) w := by
  have hl := h.rd.len
  obtain ⟨-, -, us1, -, -, -, -, q5, q6, q7⟩ := h
  have hub := OwnPk.blk hu
  have hown : ∀ (i : Nat) (y : Wt) (a : V3), (insAt ws k x)[i]? = some y → (insAt us2 k u)[i]? = some a → OwnPk B0 y.p a.1 a.2.1 a.2.2 w := by
    intro i y a hy ha
    rw [insAt_get _ _ _ hk] at hy
    rw [insAt_get _ _ _ (by rw [hl]; exact hk)] at ha
    split at hy
    · rename_i h1
      rw [if_pos h1] at ha
      exact q7 i y a hy ha
    · rename_i h1
      rw [if_neg h1] at ha
      split at hy
      · rename_i h2
        rw [if_pos h2] at ha
        injection hy with hy
        injection ha with ha
        subst hy ha
        exact hu.low hB
      · rename_i h2
        rw [if_neg h2] at ha
        exact q7 _ y a hy ha
  refine ⟨v1, _, _, hS, by rw [insAt_length _ _ _ hk, insAt_length _ _ _ (by rw [hl]; exact hk), hl], hown, fun W hW => hW, fun a ha => ha, fun a ha a' ha' j hj hj' => ?_, hown⟩
  rcases mem_insAt ha with rfl | ha
  · have h1 := hun j hj
    rcases mem_insAt ha' with rfl | ha'
    · have := hub j hj'
      omega
    · have := hb a' ha' j hj'
      omega
  · have h1 := hus a ha j hj
    rcases mem_insAt ha' with rfl | ha'
    · have := hub j hj'
      omega
    · exact q6 a ha a' (q5 a' ha') j hj hj'
theorem is_old {w w' : World} {k : Nat} {T : TypeId} {cs : Array Value} (h : Is w' k T cs) (ho : Only (fun _ => False) w w') (hk : k < w.heap.size) : Is w k T cs := (ho.same k hk (by simp)).symm.trans h
theorem bd_few {a : Ac} (h : a.few = true) : Bd a.p ∧ a.n ≤ 4611686018427387904 := by
  unfold Ac.few at h
  simp only [Bool.and_eq_true, decide_eq_true_eq] at h
  have h1 := h.1
  unfold Pk.few at h1
  simp at h1
  exact ⟨⟨by omega, by omega, by omega⟩, h.2⟩

set_option maxRecDepth 100000 in
set_option maxHeartbeats 16000000 in
theorem does_in_yes (b B0 B : Nat) (m : Bf) (v : Value) (us : List V3) (r : Rb) (v2 : Value) (us2 : List V3) (a : Ac) (u : V3) (w : World) (h : St b B0 B m v us r v2 us2 w) (hfit : a.Fit) (hpick : ¬ a.d % 8 = 6 ∧ ¬ a.d % 8 = 7) (hfew : a.few = true) (hU : ∀ w', Only (fun k => B0 ≤ k) w w' → RdU a.p u w') (ht : m.takes a.n) :
    Calls Try.prog 11 #[ptr b, .agg (r.cells v2), .agg (a.cls u).toArray] w (DoesSt b B0 B w) := by
  obtain ⟨A0, c0, rfl, hc0⟩ := h.ref.rd.sl
  obtain ⟨q0, q1, q2, q3, q4, q5, q6, q7, q8, q9, q10, hq⟩ : ∃ q0 q1 q2 q3 q4 q5 q6 q7 q8 q9 q10 : Value, a.p.cls u.1 u.2.1 u.2.2 = #[q0, q1, q2, q3, q4, q5, q6, q7, q8, q9, q10] := ⟨_, _, _, _, _, _, _, _, _, _, _, rfl⟩
  have hcl : (a.cls u).toArray = #[.int .i64 a.d, .int .u64 (a.n : Int), .int .u64 (a.now : Int), q0, q1, q2, q3, q4, q5, q6, q7, q8, q9, q10] := by unfold Ac.cls; rw [hq]
  rw [hcl]
  obtain ⟨d, hd⟩ : ∃ d, a.d = d := ⟨_, rfl⟩
  obtain ⟨n, hn⟩ : ∃ n, a.n = n := ⟨_, rfl⟩
  obtain ⟨now, hnow⟩ : ∃ now, a.now = now := ⟨_, rfl⟩
  rw [hd, hn, hnow] at hcl ⊢
  rw [hd] at hpick
  obtain ⟨pk, hpk⟩ : ∃ pk, d % 8 = pk := ⟨_, rfl⟩
  rw [hpk] at hpick
  obtain ⟨hp6, hp7⟩ := hpick
  have hdr := fit_d hfit.2.2
  have hnw := hfit.2.1
  rw [hd] at hdr
  rw [hnow] at hnw
  have HPK := Lib.hid (fun w1 : World => pick_is d 8 w1 hdr (by omega) (by omega))
  rw [hpk] at HPK
  have hbd := bd_few hfew
  obtain ⟨p, hp⟩ : ∃ p, a.p = p := ⟨_, rfl⟩
  rw [hp] at hU hq hbd
  rw [hn] at hbd ht
  have HU := Lib.hid hU
  have HBD := Lib.hid hbd
  have hcq : #[q0, q1, q2, q3, q4, q5, q6, q7, q8, q9, q10] = p.cls u.1 u.2.1 u.2.2 := hq.symm
  have HCQ := Lib.hid hcq
  clear hU hbd hcq hfew hp
  have HTK := Lib.hid ht
  clear ht
  have HB0 := Lib.hid (show B0 ≤ w.heap.size from Nat.le_trans h.lB h.hB)
  have H := Lib.hid h
  obtain ⟨sz, hsz⟩ : ∃ x, r.size = x := ⟨_, rfl⟩
  obtain ⟨hold, hhold⟩ : ∃ x, r.hold = x := ⟨_, rfl⟩
  obtain ⟨nx, hnx⟩ : ∃ x, r.next = x := ⟨_, rfl⟩
  obtain ⟨bg, hbg⟩ : ∃ x, r.begun = x := ⟨_, rfl⟩
  obtain ⟨L, hL⟩ : ∃ x, r.ws.length = x := ⟨_, rfl⟩
  have hrc : r.cells (.slice A0 r.ws.length c0) = #[.int .i64 sz, .int .u64 (hold : Int), .int .u64 (nx : Int), .bool bg, .slice A0 L c0] := by unfold Rb.cells; rw [hsz, hhold, hnx, hbg, hL]
  have HRC := Lib.hid hrc
  rw [hrc]
  clear hcl hq hd hn hnow hfit hc0 hpk h hsz hhold hnx hbg hL hrc
  go_enter Try.func11, Try.ntmps11
  go_upto_region 4 with (fail)
  generalize hw1 : World.alloc (World.alloc (World.alloc _ _) _) _ = w1
  have O1 := Lib.hid (show Only (fun _ => False) w w1 from by rw [← hw1]; exact (((Only.refl _ w).alloc _).alloc _).alloc _)
  have I4 := Lib.hid (show Is w1 w.heap.size 32 #[.int .i64 sz, .int .u64 (hold : Int), .int .u64 (nx : Int), .bool bg, .slice A0 L c0] from by rw [← hw1]; exact ((Is.made w _ _).alloc _).alloc _)
  have I5 := Lib.hid (show Is w1 (w.heap.size + 1) 44 #[.int .i64 d, .int .u64 (n : Int), .int .u64 (now : Int), q0, q1, q2, q3, q4, q5, q6, q7, q8, q9, q10] from by
    rw [← hw1]
    have := Is.made (w.alloc (.cells #[.int .i64 sz, .int .u64 (hold : Int), .int .u64 (nx : Int), .bool bg, .slice A0 L c0] 32)) 44 #[.int .i64 d, .int .u64 (n : Int), .int .u64 (now : Int), q0, q1, q2, q3, q4, q5, q6, q7, q8, q9, q10]
    rw [World.size_alloc] at this
    exact this.alloc _)
  have J6 := Lib.hid (show Is w1 (w.heap.size + 2) 32 zeroRb from by
    rw [← hw1]
    have := Is.made ((w.alloc (.cells #[.int .i64 sz, .int .u64 (hold : Int), .int .u64 (nx : Int), .bool bg, .slice A0 L c0] 32)).alloc (.cells #[.int .i64 d, .int .u64 (n : Int), .int .u64 (now : Int), q0, q1, q2, q3, q4, q5, q6, q7, q8, q9, q10] 44)) 32 zeroRb
    rw [World.size_alloc, World.size_alloc] at this
    exact this)
  obtain ⟨r4, hr4⟩ : ∃ b, w.heap.size = b := ⟨_, rfl⟩
  obtain ⟨r5, hr5⟩ : ∃ b, w.heap.size + 1 = b := ⟨_, rfl⟩
  obtain ⟨r6, hr6⟩ : ∃ b, w.heap.size + 2 = b := ⟨_, rfl⟩
  have HR := Lib.hid (show r4 = w.heap.size ∧ r5 = w.heap.size + 1 ∧ r6 = w.heap.size + 2 from ⟨hr4.symm, hr5.symm, hr6.symm⟩)
  rw [hr6] at J6 ⊢
  rw [hr5] at I5 ⊢
  rw [hr4] at I4 ⊢
  clear hw1 hr4 hr5 hr6
  have c50 : w1.cell? ⟨r5, 0, none⟩ = some (.int .i64 d) := I5.out.cell 0
  have c52 : w1.cell? ⟨r5, 2, none⟩ = some (.int .u64 (now : Int)) := I5.out.cell 2
  go_wp2_with fail
  refine (HPK.out w1).mono ?_
  rintro e w1' ⟨rfl, rfl⟩

  have c51 : w1.cell? ⟨r5, 1, none⟩ = some (.int .u64 (n : Int)) := I5.out.cell 1
  have HOW := Lib.hid (show Calls Try.prog 23 #[.agg #[q0, q1, q2, q3, q4, q5, q6, q7, q8, q9, q10]] w1 (GotCopy p w1) from by
    rw [HCQ.out]
    exact lown_is p u.1 u.2.1 u.2.2 w1 (HU.out w (Only.refl _ w)).2 ((HU.out w (Only.refl _ w)).1.only O1.out) HBD.out.1)
  clear HPK c50
  have HZ := Lib.hid (show ∀ (x : World), Is (x.alloc (.cells zeroPk 42)) x.heap.size 42 zeroPk from fun x => Is.made x _ _)
  go_upto_region 6 with (first
    | (refine wpList_load_mid rfl 42 _ rfl r5 3 rfl [q0, q1, q2, q3, q4, q5, q6, q7, q8, q9, q10] _ (act_mid I5.out) Try.underlying42 rfl Try.sizePq ?_)
    | ((with_reducible refine HOW.out.mono ?_); rintro e w2 ⟨vc, ve, vp, rfl, hO2, hoo⟩; have HO2 := Lib.hid hO2; have OO2 := Lib.hid hoo; have HV := Lib.hid (p.cls_one (own_isSl hO2.1) (own_isSl hO2.2.1) (own_isSl hO2.2.2)); clear hO2 hoo c51 c52)
    | (refine wpList_store_is (o := ⟨none, _, _, _, _, _⟩) rfl 42 _ _ rfl w2.heap.size (p.cls vc ve vp) rfl rfl 42 zeroPk (HZ.out w2) Try.sizePq rfl HV.out ?_; intro w3 hi3 ho3; have I12 := Lib.hid hi3; have O23 := Lib.hid (((Only.refl _ w2).alloc _).trans ho3 (fun i hi e => by omega) : Only (fun _ => False) w2 w3); clear hi3 ho3))
  obtain ⟨r12, hr12⟩ : ∃ x, w2.heap.size = x := ⟨_, rfl⟩
  have HR12 := Lib.hid hr12
  rw [hr12] at I12 ⊢
  clear hr12
  have O13 := Lib.hid (OO2.out.trans O23.out (fun _ _ e => e))
  have O03 := Lib.hid (O1.out.trans O13.out (fun _ _ e => e))
  have HP3 := Lib.hid (HO2.out.only O23.out)
  have J4 := Lib.hid (I4.out.only O13.out (by simp))
  have J5 := Lib.hid (I5.out.only O13.out (by simp))
  have K6 := Lib.hid (J6.out.only O13.out (by simp))
  have S3 := Lib.hid (H.out.pure O03.out)
  have HFAR := Lib.hid (show ¬ Blk (vc, ve, vp) b from HP3.out.not_is (u := (vc, ve, vp)) S3.out.bf.is (by decide) (by decide))
  have HPB := Lib.hid (show ∀ k, Blk (vc, ve, vp) k → w1.heap.size ≤ k ∧ k < w3.heap.size from OwnPk.blk (u := (vc, ve, vp)) HP3.out)

  obtain ⟨j, hj⟩ : ∃ j, (m.ins ⟨n, now, p⟩).goes m.much = j := ⟨_, rfl⟩
  have HJ := Lib.hid hj
  have HIN := Lib.hid (rin_done b n now B p vc ve vp m v us w3 S3.out.bf H.out.good HTK.out HBD.out.2 hnw S3.out.hB (own32_rd HP3.out.1) (own_nil HP3.out.1) (Src.of_own HP3.out.2.1) (Src.of_own HP3.out.2.2) ⟨by have := HBD.out.1.1; omega, HBD.out.1.2.1, HBD.out.1.2.2⟩ HFAR.out)
  unfold InDone at HIN
  rw [hj] at HIN
  clear hj

  have d51 : w3.cell? ⟨r5, 1, none⟩ = some (.int .u64 (n : Int)) := J5.out.cell 1
  have d52 : w3.cell? ⟨r5, 2, none⟩ = some (.int .u64 (now : Int)) := J5.out.cell 2
  go_upto_region 7 with (first
    | (refine wpList_load_want (o := ⟨some 23, _, _, _, _, _⟩) rfl _ _ rfl r12 rfl _ (p.cls vc ve vp) _ I12.out Try.underlying42 rfl Try.sizePq ?_)
    | ((with_reducible refine HIN.out.mono ?_); rintro e w4 ⟨vo, un, rfl, hun, hW⟩; obtain ⟨Av, nv, cv, ev⟩ := own_isSlG hW.1.1; subst ev; have HUN := Lib.hid hun; have HWO := Lib.hid hW; clear hun hW))

  clear d51 d52 HIN
  have HKP := Lib.hid (show ∀ (T : TypeId) (g : Nat) (cs : Array Value), Is w3 g T cs → T ≠ 65 → T ≠ 79 → Is w4 g T cs from fun T g cs hg h1 h2 => hg.only HWO.out.2.2.2 (fun hs => by
    rcases hs with e | ⟨-, ds, hi⟩
    · exact Is.apart hg S3.out.bf.is h1 e
    · exact Is.apart hg hi h2 rfl))
  have K12 := Lib.hid (HKP.out _ _ _ I12.out (by decide) (by decide))
  have L4 := Lib.hid (HKP.out _ _ _ J4.out (by decide) (by decide))
  have L5 := Lib.hid (HKP.out _ _ _ J5.out (by decide) (by decide))
  have L6 := Lib.hid (HKP.out _ _ _ K6.out (by decide) (by decide))
  have HP4 := Lib.hid (show OwnPk w1.heap.size p vc ve vp w4 from OwnPk.off (u := (vc, ve, vp)) HP3.out HWO.out.2.2.2 (fun k hk hs => by
    rcases hs with rfl | ⟨-, ds, hi⟩
    · exact HFAR.out hk
    · exact HP3.out.not_is (u := (vc, ve, vp)) hi (by decide) (by decide) hk))
  obtain ⟨v', hh⟩ := Half.of HWO.out (Nat.le_trans HB0.out O03.out.size)
  have HH := Lib.hid hh
  clear hh
  have HSC := Lib.hid (spoil_packet p vc ve vp w4 _ _ _ _ _ _ _ _ _ HP4.out.1 HP4.out.2.1 HP4.out.2.2 HBD.out.1)
  rw [show (#[.bool p.marker, .int .u8 p.ty, .int .u16 p.seq, .int .u32 p.time, .int .u32 p.ssrc, vc, .bool p.hasExt, .int .u16 p.profile, ve, vp, .int .u8 p.pad] : Array Value) = p.cls vc ve vp from rfl] at HSC
  go_upto_region 8 with (first
    | (refine wpList_load_want (o := ⟨some 29, _, _, _, _, _⟩) rfl _ _ rfl r12 rfl _ (p.cls vc ve vp) _ K12.out Try.underlying42 rfl Try.sizePq ?_)
    | ((with_reducible refine HSC.out.mono ?_); rintro e w5 ⟨rfl, ho5⟩; have O5 := Lib.hid ho5; clear ho5))
  clear HSC
  have N4 := Lib.hid (show w3.heap.size ≤ w4.heap.size from HWO.out.2.2.2.size)
  have N5 := Lib.hid (show w4.heap.size ≤ w5.heap.size from O5.out.size)
  have N3 := Lib.hid (show w.heap.size ≤ w3.heap.size from O03.out.size)
  have N1 := Lib.hid (show w.heap.size ≤ w1.heap.size from O1.out.size)
  have HUS := Lib.hid (pks_lt H.out.bf.pks)
  have HUN4 := Lib.hid (show ∀ k, Blk un k → w3.heap.size ≤ k ∧ k < w4.heap.size from fun k hk => ⟨HUN.out k hk, pks_lt HH.out.pks un (by unfold insAt; simp) k hk⟩)
  have H5 := Lib.hid (show Half b B0 B j (m.ins ⟨n, now, p⟩) v' (.slice Av nv cv) (insAt us (m.pos n) un) w5 from HH.out.off O5.out (fun e => HP4.out.not_is (u := (vc, ve, vp)) HH.out.bf.is (by decide) (by decide) e) (fun T B' sz n v xs hv h1 h2 k hk e => HP4.out.typed (u := (vc, ve, vp)) hv h1 h2 k hk e) (fun a ha k hk e => by
    have h1 := HPB.out k e
    rcases mem_insAt ha with rfl | ha
    · have := HUN4.out k hk
      omega
    · have := HUS.out a ha k hk
      have := N1.out
      omega))
  have R5 := Lib.hid (show RefSt B0 us r.ws (.slice A0 r.ws.length c0) us2 w5 from H.out.ref.prog H.out.bf.is (B := B) (((O03.out.mono (fun _ _ e => e.elim)).trans HWO.out.2.2.2 (fun k hk hs => by
    rcases hs with e | ⟨hkB, ds, hi⟩
    · exact .inl e
    · exact .inr ⟨hkB, ds, is_old hi O03.out hk⟩)).trans O5.out (fun k hk e => by
    have := HPB.out k e
    have := N1.out
    omega)))
  have O05 := Lib.hid (show Only (fun k => B0 ≤ k) w w5 from ((O03.out.mono (fun _ _ e => e.elim)).trans HWO.out.2.2.2 (fun k _ hs => by
    rcases hs with rfl | ⟨hk, -⟩
    · exact H.out.lb
    · exact Nat.le_trans H.out.lB hk)).trans O5.out (fun k hk e => by
    have := HPB.out k e
    have := N1.out
    omega))
  have M4 := Lib.hid (L4.out.only O5.out (HP4.out.not_is (u := (vc, ve, vp)) L4.out (by decide) (by decide)))
  have M5 := Lib.hid (L5.out.only O5.out (HP4.out.not_is (u := (vc, ve, vp)) L5.out (by decide) (by decide)))
  have M6 := Lib.hid (L6.out.only O5.out (HP4.out.not_is (u := (vc, ve, vp)) L6.out (by decide) (by decide)))
  have HLT := Lib.hid H.out.ref.lt
  have HK5 := Lib.hid (show ∀ g ds, Is w g 32 ds → Is w5 g 32 ds from fun g ds hg => by
    have h4 := HKP.out _ _ _ (hg.only O03.out (by simp)) (by decide) (by decide)
    exact h4.only O5.out (HP4.out.not_is (u := (vc, ve, vp)) h4 (by decide) (by decide)))
  clear HKP
  clear S3 O13 OO2 O23 HO2 HP3 I12 I4 I5 J6 J4 J5 K6 K12 L4 L5 L6 HP4 HH HWO HFAR HPB O5 HR12 HV HZ HOW O03
  have HNE := Lib.hid (show ¬ r5 = r4 ∧ B0 ≤ r4 ∧ r4 ≠ r6 ∧ B0 ≤ r6 from by have := HR.out; have := HB0.out; omega)
  have HX := Lib.hid (show Bf.Good ((m.ins ⟨n, now, p⟩).gone j) ∧ j ≤ (m.ins ⟨n, now, p⟩).ws.length ∧ (m.ins ⟨n, now, p⟩).Ok ∧ Sim (m.ins ⟨n, now, p⟩) (r.ins ⟨n, now, p⟩) from by
    rw [← HJ.out]
    exact ⟨in_good H.out.good ⟨n, now, p⟩ HBD.out.2 hnw HTK.out, Bf.goes_le _ _, ins_ok H.out.good ⟨n, now, p⟩ HBD.out.2 hnw HTK.out, H.out.sim.ins H.out.good ⟨n, now, p⟩ HBD.out.2⟩)
  have HNUM := Lib.hid (show ∀ y ∈ (m.ins ⟨n, now, p⟩).ws, y.n ≤ 4611686018427387904 ∧ Bd y.p from fun y hy => by
    rcases mem_insAt hy with rfl | hy
    · exact ⟨HBD.out.2, HBD.out.1⟩
    · exact ⟨(H.out.good.nums y hy).1, H.out.few y hy⟩)
  have HLN := Lib.hid (show (m.ins ⟨n, now, p⟩).ws.length ≤ 257 ∧ r.ws.length ≤ 256 from by
    have h1 : (m.ins ⟨n, now, p⟩).ws.length = m.ws.length + 1 := insAt_length _ _ _ (pos_le m n)
    have h2 := H.out.good.len
    have h3 := H.out.good.le
    rw [h1, H.out.sim.ws]
    omega)
  have HIR := Lib.hid (show ∀ (w6 : World) (u9 : V3), Only (fun _ => False) w5 w6 → OwnPk w5.heap.size p u9.1 u9.2.1 u9.2.2 w6 → Calls Try.prog 25 #[.agg (r.cells (.slice A0 r.ws.length c0)), .int .u64 (n : Int), .agg (p.cls u9.1 u9.2.1 u9.2.2), .int .u64 (now : Int)] w6 (fun e w7 => ∃ cs2 mo, e = .returned (.tuple #[.agg cs2, mo, .bool true]) ∧
      (∃ v1 v2', cs2 = ((r.ins ⟨n, now, p⟩).gone j).cells v2' ∧ (∃ A c, mo = .slice A c c ∨ True) ∧ Went b B0 B j (m.ins ⟨n, now, p⟩) v' (.slice Av nv cv) mo (insAt us (m.pos n) un) (r.ins ⟨n, now, p⟩) v1 v2' (insAt us2 (posR r.ws n) u9) w7) ∧ Only (fun _ => False) w6 w7) from fun w6 u9 ho6 hu9 => by
    have hyes := inR_yes r us2 (.slice A0 r.ws.length c0) ⟨n, now, p⟩ u9 w6 (R5.out.pure ho6).rd hu9.rd ((H.out.sim.takes H.out.good n).2 HTK.out) (by have := HLN.out.2; omega) (HX.out.2.2.2.ok HX.out.2.2.1 (fun y hy => (HNUM.out y hy).1) (ins_some _ _))
    rw [show rgo 0 r.size 0 (r.ins ⟨n, now, p⟩).next (r.ins ⟨n, now, p⟩).ws = j from (sim_much H.out.sim H.out.good ⟨n, now, p⟩ HBD.out.2).trans HJ.out] at hyes
    refine hyes.mono ?_
    rintro e w7 ⟨v1, v2', mo, rfl, g1, g2, g3, g4⟩
    have hh := (H5.out.pure ho6).pure g4
    have hB6 : B0 ≤ w6.heap.size := Nat.le_trans HB0.out (Nat.le_trans O05.out.size ho6.size)
    have hr7 := ((R5.out.pure ho6).pure g4)
    have hn05 : w.heap.size ≤ w5.heap.size := O05.out.size
    exact ⟨_, _, rfl, ⟨v1, v2', rfl, ⟨none, 0, .inr trivial⟩, hh.bf, hh.pks, HX.out.1, HX.out.2.2.2.gone (fun y hy => (HNUM.out y hy).1) (ins_some _ _) HX.out.2.1, HX.out.2.2.2.ws, .inr (HX.out.2.2.2.next (ins_some _ _)), fun y hy => (HNUM.out y hy).2,
      RefSt.ins (N0 := w.heap.size) (N3 := w3.heap.size) (N5 := w5.heap.size) hr7 HLT.out HUS.out (fun k hk => by have := HUN4.out k hk; have := N5.out; omega) N3.out hn05 (Nat.le_trans HB0.out hn05) (hu9.only g4) (posR_le _ _) ⟨owned_low g1.1 hB6, g1.2⟩,
      by have := HLN.out.1; omega, hh.vo, ⟨owned_low g3.1 hB6, g3.2⟩, g2, H.out.lb, H.out.lB, Nat.le_trans H.out.hB (Nat.le_trans hn05 (Nat.le_trans ho6.size g4.size))⟩, g4⟩)
  rw [HRC.out] at HIR
  have HDC := Lib.hid (show ∀ w6, Only (fun _ => False) w5 w6 → Calls Try.prog 26 #[.agg #[q0, q1, q2, q3, q4, q5, q6, q7, q8, q9, q10]] w6 (fun e w7 => ∃ u9 : V3, e = .returned (.agg (p.cls u9.1 u9.2.1 u9.2.2)) ∧ OwnPk w5.heap.size p u9.1 u9.2.1 u9.2.2 w7 ∧ Only (fun _ => False) w6 w7) from fun w6 ho6 => by
    obtain ⟨hr, hn0⟩ := HU.out w6 (O05.out.trans ho6 (fun _ _ e => e.elim))
    rw [HCQ.out]
    refine (docs_packet p u.1 u.2.1 u.2.2 w6 hn0 hr.c hr.e hr.p HBD.out.1).mono ?_
    rintro e w7 ⟨xc, xe, xp, rfl, g1, g2, g3, g4⟩
    exact ⟨(xc, xe, xp), rfl, OwnPk.low (B := w6.heap.size) ⟨g1, g2, g3⟩ ho6.size, g4⟩)
  refine rd8 r4 r5 B0 n now d true p #[.int .i64 sz, .int .u64 (hold : Int), .int .u64 (nx : Int), .bool bg, .slice A0 L c0] q0 q1 q2 q3 q4 q5 q6 q7 q8 q9 q10 (fun (u9 : V3) cs2 mo w7 => ∃ v1 v2', cs2 = ((r.ins ⟨n, now, p⟩).gone j).cells v2' ∧ (∃ A c, mo = .slice A c c ∨ True) ∧ Went b B0 B j (m.ins ⟨n, now, p⟩) v' (.slice Av nv cv) mo (insAt us (m.pos n) un) (r.ins ⟨n, now, p⟩) v1 v2' (insAt us2 (posR r.ws n) u9) w7) w5 HNE.out.1 HNE.out.2.1 Try.sizeRb HDC.out HIR.out ?_ ?_ ?_ _ _ _ _ _ _ _ _ _ _ _ _ _ _ _ _ _ _ _ _ _ _ _ _ _ _ _ _ _ _ _ _ _ _ _ _ _ _ _ _ _ _ _ _ _ _ _ _ _ _ _ _ _ _ _ _ _ _ _ _ _ _ _ _ _ _ _ _ _ _ _ _ _ _ _ _ _ _ _ w5 (Only.refl _ _) M4.out M5.out ?_
  · rintro u9 cs2 mo wz ⟨v1, v2', rfl, -, hw⟩
    exact ⟨rfl, rb_one _ (hw.go _ hw.ref.rd)⟩
  · rintro u9 cs2 mo x y ⟨v1, v2', e, e2, hw⟩ ho
    exact ⟨v1, v2', e, e2, hw.pure ho⟩
  · rintro u9 cs2 mo x y ⟨v1, v2', e, e2, hw⟩ hds ho
    exact ⟨v1, v2', e, e2, hw.far hds ho⟩
  rintro y9 y31 y32 y33 y34 y35 y36 y37 y38 y39 y40 y41 y42 y43 w6 ⟨u9, cs2, mo, rfl, hi4, ⟨v1, v2', rfl, -, hw⟩, ho6⟩
  have P4 := Lib.hid hi4
  have P6 := Lib.hid (M6.out.only ho6 (fun e => HNE.out.2.2.1 e.symm))
  have HW := Lib.hid hw
  have O06 := Lib.hid (show Only (fun k => B0 ≤ k) w w6 from O05.out.trans ho6 (fun k _ (e : k = r4) => by have := HNE.out.2.1; omega))
  have HK6 := Lib.hid (show ∀ g ds, Is w g 32 ds → Is w6 g 32 ds from fun g ds hg => (HK5.out g ds hg).only ho6 (fun (e : g = r4) => by have := hg.lt; have := HR.out; omega))
  clear hi4 hw ho6 M4 M5 M6 HIR HDC
  have hone : (((r.ins ⟨n, now, p⟩).gone j).cells v2').all (·.oneCell') = true := rb_one _ (HW.out.go _ HW.out.ref.rd)

  have HST := Lib.hid (fun (w9 : World) (hs : St b B0 B ((m.ins ⟨n, now, p⟩).gone j) v' ((insAt us (m.pos n) un).drop j) ((r.ins ⟨n, now, p⟩).gone j) v2' ((insAt us2 (posR r.ws n) u9).drop j) w9) => stands_is b B _ v' _ _ v2' _ w9 hs.bf hs.good hs.sim hs.ref.rd)
  have HNI := Lib.hid (show ∀ (x y : World), St b B0 B ((m.ins ⟨n, now, p⟩).gone j) v' ((insAt us (m.pos n) un).drop j) ((r.ins ⟨n, now, p⟩).gone j) v2' ((insAt us2 (posR r.ws n) u9).drop j) x → (∃ ds, Is x r6 32 ds) → Only (fun k => k = r6) x y → St b B0 B ((m.ins ⟨n, now, p⟩).gone j) v' ((insAt us (m.pos n) un).drop j) ((r.ins ⟨n, now, p⟩).gone j) v2' ((insAt us2 (posR r.ws n) u9).drop j) y from fun x y hx hd ho => by
    obtain ⟨ds, hd⟩ := hd
    exact hx.far hd (by decide) (by decide) (by decide) (by decide) (by decide) ho)
  clear HX HNUM HLN HUS HUN HUN4 HLT H5 R5 H HU HBD HCQ HRC HTK HJ N1 N3 N4 N5
  go_upto_region 15 with (fail)
  refine rd15 b r4 r6 B0 _ (.slice Av nv cv) y9 (((r.ins ⟨n, now, p⟩).gone j).cells v2') (fun wx => Went b B0 B j (m.ins ⟨n, now, p⟩) v' (.slice Av nv cv) y9 (insAt us (m.pos n) un) (r.ins ⟨n, now, p⟩) v1 v2' (insAt us2 (posR r.ws n) u9) wx) (fun wx => St b B0 B ((m.ins ⟨n, now, p⟩).gone j) v' ((insAt us (m.pos n) un).drop j) ((r.ins ⟨n, now, p⟩).gone j) v2' ((insAt us2 (posR r.ws n) u9).drop j) wx) HNE.out.2.2.1 HNE.out.2.2.2 Try.sizeRb hone (fun w9 hp => after_same hp) HST.out (fun x y hp ho => hp.pure ho) (fun x y hp hd ho => hp.far hd ho) (fun x y hp ho => hp.pure ho) HNI.out _ _ _ _ _ _ _ _ _ _ _ _ _ _ _ _ _ _ _ _ _ _ _ _ _ _ _ _ _ _ _ _ _ _ _ _ _ _ _ _ _ _ _ _ _ _ _ _ _ _ _ _ _ _ _ _ _ _ _ _ _ _ _ _ _ _ _ _ _ _ _ _ _ _ w6 zeroRb rfl P4.out P6.out HW.out ?_
  rintro y66 y67 y68 y69 y70 y71 y72 y73 y74 y75 y76 y77 y78 y79 w9 ⟨hst, hi6, ho, hkp⟩
  have HS9 := Lib.hid hst
  have HI9 := Lib.hid hi6
  have HO9 := Lib.hid ho
  have HKP9 := Lib.hid hkp
  clear hst hi6 ho hkp
  go_wp2
  refine bodyPost_ret (res_cell Try.results11 _ w9 r6 32 (((r.ins ⟨n, now, p⟩).gone j).cells v2') _ (.bool true) rfl rfl HI9.out Try.underlying32 rfl Try.sizeRb) rfl ?_
  exact ⟨_, _, _, _, _, _, rfl, HS9.out, O06.out.trans HO9.out (fun _ _ e => e), fun g ds hg => HKP9.out g ds (HK6.out g ds hg) (by have := hg.lt; have := HR.out; omega)⟩

end Go.Proofs.Ytdcclighccejhaa
