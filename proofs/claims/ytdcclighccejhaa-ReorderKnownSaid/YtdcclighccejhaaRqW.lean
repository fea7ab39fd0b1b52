/- reorder's law: does: a tick, a flush. Conditions: as each says. -/
import Derived.Test.YtdcclighccejhaaRtGr
import Derived.Test.YtdcclighccejhaaRoV
set_option linter.unusedVariables false
set_option linter.unusedSimpArgs false
namespace Go.Proofs.Ytdcclighccejhaa
open Go Go.RowKit

theorem fit_d {d : Int} (h : (Lit.int .i64 d).wf = true) : -9223372036854775808 ≤ d ∧ d ≤ 9223372036854775807 := by
  simp [Lit.wf, IntKind.min, IntKind.max, IntKind.signed, IntKind.bits] at h
  omega
theorem rb_one (r : Rb) {v : Value} {w : World} {ws : List Wt} {us : List V3} (h : RdL w v ws us) : (r.cells v).all (·.oneCell') = true := by
  obtain ⟨A, c, rfl, -⟩ := h.sl
  simp [Rb.cells, Value.oneCell']
/-- What a call of both leaves. -/
def DoesSt (b B0 B : Nat) (w : World) (e : Ending) (w' : World) : Prop :=
  ∃ m v us r v2 us2, e = .returned (.tuple #[.agg (r.cells v2), .bool true]) ∧ St b B0 B m v us r v2 us2 w' ∧ Only (fun k => B0 ≤ k) w w' ∧ (∀ g ds, Is w g 32 ds → Is w' g 32 ds)
theorem own_isSlG {w : World} {B n sz : Nat} {t : TypeId} {v : Value} {xs : List Value} (h : w.ownsRow B t sz v n xs) : ∃ A m c, v = .slice A m c := by
  rcases h.2 with ⟨rfl, rfl⟩ | ⟨g, cap, cur, rfl, _⟩
  · exact ⟨none, 0, 0, rfl⟩
  · exact ⟨_, _, _, rfl⟩

set_option maxRecDepth 100000 in
set_option maxHeartbeats 8000000 in
theorem does_tick (b B0 B : Nat) (m : Bf) (v : Value) (us : List V3) (r : Rb) (v2 : Value) (us2 : List V3) (a : Ac) (u : V3) (w : World) (h : St b B0 B m v us r v2 us2 w) (hfit : a.Fit) (hpick : a.d % 8 = 6) :
    Calls Try.prog 11 #[ptr b, .agg (r.cells v2), .agg (a.cls u).toArray] w (DoesSt b B0 B w) := by
  obtain ⟨A0, c0, rfl, hc0⟩ := h.ref.rd.sl
  obtain ⟨q0, q1, q2, q3, q4, q5, q6, q7, q8, q9, q10, hq⟩ : ∃ q0 q1 q2 q3 q4 q5 q6 q7 q8 q9 q10 : Value, a.p.cls u.1 u.2.1 u.2.2 = #[q0, q1, q2, q3, q4, q5, q6, q7, q8, q9, q10] := ⟨_, _, _, _, _, _, _, _, _, _, _, rfl⟩
  have hcl : (a.cls u).toArray = #[.int .i64 a.d, .int .u64 (a.n : Int), .int .u64 (a.now : Int), q0, q1, q2, q3, q4, q5, q6, q7, q8, q9, q10] := by unfold Ac.cls; rw [hq]
  rw [hcl]
  obtain ⟨d, hd⟩ : ∃ d, a.d = d := ⟨_, rfl⟩
  obtain ⟨n, hn⟩ : ∃ n, a.n = n := ⟨_, rfl⟩
  obtain ⟨now, hnow⟩ : ∃ now, a.now = now := ⟨_, rfl⟩
  rw [hd, hn, hnow] at hcl ⊢
  rw [hd] at hpick
  have hdr := fit_d hfit.2.2
  have hnw := hfit.2.1
  rw [hd] at hdr
  rw [hnow] at hnw
  have HPK := Lib.hid (fun w1 : World => pick_is d 8 w1 hdr (by omega) (by omega))
  rw [hpick] at HPK
  obtain ⟨j, hj⟩ : ∃ j, m.goes (m.must now) = j := ⟨_, rfl⟩
  have HT := Lib.hid (show ∀ w1, Only (fun _ => False) w w1 → Calls Try.prog 13 #[ptr b, .int .u64 (now : Int)] w1 fun e w' => ∃ vo, e = .returned vo ∧ WentO b B m us j w1 w' vo from fun w1 ho => by
    rw [← hj]
    exact rtick_is b now B m v us w1 (h.bf.pure ho) h.good hnw)
  have HR2 := Lib.hid (show ∀ w1, RdL w1 (.slice A0 r.ws.length c0) r.ws us2 → Calls Try.prog 21 #[.agg (r.cells (.slice A0 r.ws.length c0)), .int .u64 (now : Int)] w1 (WentRb (.slice A0 r.ws.length c0) r us2 j w1) from fun w1 hr => by
    rw [← hj, ← sim_must h.sim h.good, ← young_eq h.sim]
    exact rtickR_is r us2 _ now w1 hr (sim_ok h.sim h.good) hnw (fun x hx => by rw [h.sim.ws] at hx; exact (h.good.nums x hx).2))
  have HG := Lib.hid (show (m.gone j).Good ∧ j ≤ m.ws.length from by rw [← hj]; exact ⟨goes_good h.good _, m.goes_le _⟩)
  clear hj
  have HB0 := Lib.hid (show B0 ≤ w.heap.size from Nat.le_trans h.lB h.hB)
  have H := Lib.hid h
  obtain ⟨sz, hsz⟩ : ∃ x, r.size = x := ⟨_, rfl⟩
  obtain ⟨hold, hhold⟩ : ∃ x, r.hold = x := ⟨_, rfl⟩
  obtain ⟨nx, hnx⟩ : ∃ x, r.next = x := ⟨_, rfl⟩
  obtain ⟨bg, hbg⟩ : ∃ x, r.begun = x := ⟨_, rfl⟩
  obtain ⟨L, hL⟩ : ∃ x, r.ws.length = x := ⟨_, rfl⟩
  have hrc : r.cells (.slice A0 r.ws.length c0) = #[.int .i64 sz, .int .u64 (hold : Int), .int .u64 (nx : Int), .bool bg, .slice A0 L c0] := by unfold Rb.cells; rw [hsz, hhold, hnx, hbg, hL]
  have HRC := Lib.hid hrc
  rw [hrc]
  clear hcl hq hd hn hnow hpick hfit hc0 h hsz hhold hnx hbg hL hrc
  go_enter Try.func11, Try.ntmps11
  go_upto_region 4 with (fail)
  generalize hw1 : World.alloc (World.alloc (World.alloc _ _) _) _ = w1
  have O1 := Lib.hid (show Only (fun _ => False) w w1 from by rw [← hw1]; exact (((Only.refl _ w).alloc _).alloc _).alloc _)
  have I4 := Lib.hid (show Is w1 w.heap.size 32 #[.int .i64 sz, .int .u64 (hold : Int), .int .u64 (nx : Int), .bool bg, .slice A0 L c0] from by rw [← hw1]; exact ((Is.made w _ _).alloc _).alloc _)
  have I5 := Lib.hid (show Is w1 (w.heap.size + 1) 44 #[.int .i64 d, .int .u64 (n : Int), .int .u64 (now : Int), q0, q1, q2, q3, q4, q5, q6, q7, q8, q9, q10] from by
    rw [← hw1]
    have := Is.made (w.alloc (.cells #[.int .i64 sz, .int .u64 (hold : Int), .int .u64 (nx : Int), .bool bg, .slice A0 L c0] 32)) 44 #[.int .i64 d, .int .u64 (n : Int), .int .u64 (now : Int), q0, q1, q2, q3, q4, q5, q6, q7, q8, q9, q10]
    rw [World.size_alloc] at this
    exact this.alloc _)
  have J6 := Lib.hid (show Is w1 (w.heap.size + 2) 32 zeroRb from by
    rw [← hw1]
    have := Is.made ((w.alloc (.cells #[.int .i64 sz, .int .u64 (hold : Int), .int .u64 (nx : Int), .bool bg, .slice A0 L c0] 32)).alloc (.cells #[.int .i64 d, .int .u64 (n : Int), .int .u64 (now : Int), q0, q1, q2, q3, q4, q5, q6, q7, q8, q9, q10] 44)) 32 zeroRb
    rw [World.size_alloc, World.size_alloc] at this
    exact this)
  obtain ⟨r4, hr4⟩ : ∃ b, w.heap.size = b := ⟨_, rfl⟩
  obtain ⟨r5, hr5⟩ : ∃ b, w.heap.size + 1 = b := ⟨_, rfl⟩
  obtain ⟨r6, hr6⟩ : ∃ b, w.heap.size + 2 = b := ⟨_, rfl⟩
  have HR := Lib.hid (show r4 = w.heap.size ∧ r5 = w.heap.size + 1 ∧ r6 = w.heap.size + 2 from ⟨hr4.symm, hr5.symm, hr6.symm⟩)
  rw [hr6] at J6 ⊢
  rw [hr5] at I5 ⊢
  rw [hr4] at I4 ⊢
  clear hw1 hr4 hr5 hr6
  have c50 : w1.cell? ⟨r5, 0, none⟩ = some (.int .i64 d) := I5.out.cell 0
  have c52 : w1.cell? ⟨r5, 2, none⟩ = some (.int .u64 (now : Int)) := I5.out.cell 2
  go_wp2_with fail
  refine (HPK.out w1).mono ?_
  rintro e w1' ⟨rfl, rfl⟩

  clear HPK c50
  go_wp2_with fail
  refine (HT.out w1 O1.out).mono ?_
  rintro e w3 ⟨vo, rfl, hW⟩
  obtain ⟨Av, nv, cv, ev⟩ := own_isSlG hW.1.1
  subst ev
  have HWO := Lib.hid hW
  have HREF := Lib.hid (RefSt.prog (H.out.ref.pure O1.out) (H.out.pure O1.out).bf.is hW.2.2.2)
  have HKP := Lib.hid (show ∀ (T : TypeId) (g : Nat) (cs : Array Value), Is w1 g T cs → T ≠ 65 → T ≠ 79 → Is w3 g T cs from fun T g cs hg h1 h2 => hg.only hW.2.2.2 (fun hs => by
    rcases hs with e | ⟨-, ds, hi⟩
    · exact Is.apart hg (H.out.pure O1.out).bf.is h1 e
    · exact Is.apart hg hi h2 rfl))
  have K4 := Lib.hid (HKP.out _ _ _ I4.out (by decide) (by decide))
  have K5 := Lib.hid (HKP.out _ _ _ I5.out (by decide) (by decide))
  have K6 := Lib.hid (HKP.out _ _ _ J6.out (by decide) (by decide))
  have O3 := Lib.hid (show Only (fun k => B0 ≤ k) w w3 from (O1.out.mono (fun _ _ e => e.elim)).trans hW.2.2.2 (fun k _ hs => by
    rcases hs with rfl | ⟨hk, -⟩
    · exact H.out.lb
    · exact Nat.le_trans H.out.lB hk))
  have HK3 := Lib.hid (show ∀ g ds, Is w g 32 ds → Is w3 g 32 ds from fun g ds hg => HKP.out _ _ _ (hg.only O1.out (by simp)) (by decide) (by decide))
  clear hW c52 HT HKP
  have HRT := Lib.hid (HR2.out w3 HREF.out.rd)
  rw [HRC.out] at HRT
  have d52 : w3.cell? ⟨r5, 2, none⟩ = some (.int .u64 (now : Int)) := K5.out.cell 2
  have HBB := Lib.hid (show ¬ r4 = r6 from by have := HR.out; omega)
  go_upto_region 15 with (first
    | (refine wpList_load_want (o := ⟨some 51, _, _, _, _, _⟩) rfl _ _ rfl r4 rfl _ #[.int .i64 sz, .int .u64 (hold : Int), .int .u64 (nx : Int), .bool bg, .slice A0 L c0] _ K4.out Try.underlying32 rfl Try.sizeRb ?_)
    | ((with_reducible refine HRT.out.mono ?_); rintro e w4 ⟨v2', mo, rfl, hR⟩; have R4 := Lib.hid hR; have L4 := Lib.hid (K4.out.only hR.2.2 (by simp)); have L6 := Lib.hid (K6.out.only hR.2.2 (by simp)); have HV2 := Lib.hid (show ((r.gone j).cells v2').all (·.oneCell') = true from rb_one _ (hR.1 _ HREF.out.rd)); obtain ⟨Am, nm, cm, em⟩ := own_isSlG hR.2.1.1; subst em; clear hR)
    | (refine wpList_store_is (o := ⟨none, _, _, _, _, _⟩) rfl 32 _ _ rfl r4 ((r.gone j).cells v2') rfl rfl 32 #[.int .i64 sz, .int .u64 (hold : Int), .int .u64 (nx : Int), .bool bg, .slice A0 L c0] L4.out Try.sizeRb rfl HV2.out ?_; intro w5 hi5 ho5; have M4 := Lib.hid hi5; have O5 := Lib.hid ho5; have M6 := Lib.hid (L6.out.only ho5 (fun e => HBB.out e.symm)); clear hi5 ho5))
  have HK5 := Lib.hid (show ∀ g ds, Is w g 32 ds → Is w5 g 32 ds from fun g ds hg => ((HK3.out g ds hg).only R4.out.2.2 (by simp)).only O5.out (fun (e : g = r4) => by have := hg.lt; have := HR.out; omega))
  obtain ⟨v', hh⟩ := Half.of HWO.out (Nat.le_trans HB0.out O1.out.size)
  have HH := Lib.hid hh
  clear hh

  have HW := Lib.hid (show Went b B0 B j m v' (.slice Av nv cv) (.slice Am nm cm) us r (.slice A0 r.ws.length c0) v2' us2 w5 from by
    obtain ⟨p1, p2, p3⟩ := R4.out
    have hh := HH.out.pure p3
    exact Went.far (w := w4) ⟨hh.bf, hh.pks, HG.out.1, sim_gone H.out.sim H.out.good HG.out.2, H.out.sim.ws, sim_nx H.out.sim H.out.good, H.out.few, HREF.out.pure p3, by have := H.out.good.len; have := H.out.good.le; omega, hh.vo, ⟨owned_low p2.1 (Nat.le_trans HB0.out O3.out.size), p2.2⟩, p1, H.out.lb, H.out.lB, Nat.le_trans H.out.hB (Nat.le_trans O3.out.size p3.size)⟩ ⟨_, L4.out⟩ O5.out)
  have hne : ¬ r4 = r6 := by have := HR.out; omega
  have hB6 : B0 ≤ r6 := by have := HR.out; have := HB0.out; omega
  have hone : ((r.gone j).cells v2').all (·.oneCell') = true := rb_one _ (HW.out.go _ HW.out.ref.rd)
  have HNE := Lib.hid (And.intro hne hB6)
  have HST := Lib.hid (fun (w9 : World) (hs : St b B0 B (m.gone j) v' (us.drop j) (r.gone j) v2' (us2.drop j) w9) => stands_is b B _ v' _ _ v2' _ w9 hs.bf hs.good hs.sim hs.ref.rd)
  have HNI := Lib.hid (show ∀ (x y : World), St b B0 B (m.gone j) v' (us.drop j) (r.gone j) v2' (us2.drop j) x → (∃ ds, Is x r6 32 ds) → Only (fun k => k = r6) x y → St b B0 B (m.gone j) v' (us.drop j) (r.gone j) v2' (us2.drop j) y from fun x y hx hd ho => by
    obtain ⟨ds, hd⟩ := hd
    exact hx.far hd (by decide) (by decide) (by decide) (by decide) (by decide) ho)
  clear hne hB6
  go_upto_region 15 with (fail)
  refine rd15 b r4 r6 B0 _ (.slice Av nv cv) (.slice Am nm cm) ((r.gone j).cells v2') (fun wx => Went b B0 B j m v' (.slice Av nv cv) (.slice Am nm cm) us r (.slice A0 r.ws.length c0) v2' us2 wx) (fun wx => St b B0 B (m.gone j) v' (us.drop j) (r.gone j) v2' (us2.drop j) wx) HNE.out.1 HNE.out.2 Try.sizeRb hone (fun w9 hp => after_same hp) HST.out (fun x y hp ho => hp.pure ho) (fun x y hp hd ho => hp.far hd ho) (fun x y hp ho => hp.pure ho) HNI.out _ _ _ _ _ _ _ _ _ _ _ _ _ _ _ _ _ _ _ _ _ _ _ _ _ _ _ _ _ _ _ _ _ _ _ _ _ _ _ _ _ _ _ _ _ _ _ _ _ _ _ _ _ _ _ _ _ _ _ _ _ _ _ _ _ _ _ _ _ _ _ _ _ _ w5 zeroRb rfl M4.out M6.out HW.out ?_
  rintro y66 y67 y68 y69 y70 y71 y72 y73 y74 y75 y76 y77 y78 y79 w9 ⟨hst, hi6, ho, hkp⟩
  have HS9 := Lib.hid hst
  have HI9 := Lib.hid hi6
  have HO9 := Lib.hid ho
  have HKP9 := Lib.hid hkp
  clear hst hi6 ho hkp
  go_wp2
  refine bodyPost_ret (res_cell Try.results11 _ w9 r6 32 ((r.gone j).cells v2') _ (.bool true) rfl rfl HI9.out Try.underlying32 rfl Try.sizeRb) rfl ?_
  exact ⟨_, _, _, _, _, _, rfl, HS9.out, ((O3.out.trans R4.out.2.2 (fun _ _ e => e.elim)).trans O5.out (fun k hk (e : k = r4) => by have := HR.out; have := HB0.out; omega)).trans HO9.out (fun _ _ e => e), fun g ds hg => HKP9.out g ds (HK5.out g ds hg) (by have := hg.lt; have := HR.out; omega)⟩

set_option maxRecDepth 100000 in
set_option maxHeartbeats 8000000 in
theorem does_flush (b B0 B : Nat) (m : Bf) (v : Value) (us : List V3) (r : Rb) (v2 : Value) (us2 : List V3) (a : Ac) (u : V3) (w : World) (h : St b B0 B m v us r v2 us2 w) (hfit : a.Fit) (hpick : a.d % 8 = 7) :
    Calls Try.prog 11 #[ptr b, .agg (r.cells v2), .agg (a.cls u).toArray] w (DoesSt b B0 B w) := by
  obtain ⟨A0, c0, rfl, hc0⟩ := h.ref.rd.sl
  obtain ⟨q0, q1, q2, q3, q4, q5, q6, q7, q8, q9, q10, hq⟩ : ∃ q0 q1 q2 q3 q4 q5 q6 q7 q8 q9 q10 : Value, a.p.cls u.1 u.2.1 u.2.2 = #[q0, q1, q2, q3, q4, q5, q6, q7, q8, q9, q10] := ⟨_, _, _, _, _, _, _, _, _, _, _, rfl⟩
  have hcl : (a.cls u).toArray = #[.int .i64 a.d, .int .u64 (a.n : Int), .int .u64 (a.now : Int), q0, q1, q2, q3, q4, q5, q6, q7, q8, q9, q10] := by unfold Ac.cls; rw [hq]
  rw [hcl]
  obtain ⟨d, hd⟩ : ∃ d, a.d = d := ⟨_, rfl⟩
  obtain ⟨n, hn⟩ : ∃ n, a.n = n := ⟨_, rfl⟩
  obtain ⟨now, hnow⟩ : ∃ now, a.now = now := ⟨_, rfl⟩
  rw [hd, hn, hnow] at hcl ⊢
  rw [hd] at hpick
  have hdr := fit_d hfit.2.2
  have hnw := hfit.2.1
  rw [hd] at hdr
  rw [hnow] at hnw
  have HPK := Lib.hid (fun w1 : World => pick_is d 8 w1 hdr (by omega) (by omega))
  rw [hpick] at HPK
  obtain ⟨j, hj⟩ : ∃ j, m.goes m.ws.length = j := ⟨_, rfl⟩
  have HT := Lib.hid (show ∀ w1, Only (fun _ => False) w w1 → Calls Try.prog 15 #[ptr b] w1 fun e w' => ∃ vo, e = .returned vo ∧ WentO b B m us j w1 w' vo from fun w1 ho => by
    rw [← hj]
    exact rflush_is b B m v us w1 (h.bf.pure ho) h.good)
  have HR2 := Lib.hid (show ∀ w1, RdL w1 (.slice A0 r.ws.length c0) r.ws us2 → Calls Try.prog 22 #[.agg (r.cells (.slice A0 r.ws.length c0))] w1 (WentRb (.slice A0 r.ws.length c0) r us2 j w1) from fun w1 hr => by
    rw [← hj, ← sim_must h.sim h.good, ← h.sim.ws]
    exact rflushR_is r us2 _ w1 hr (sim_ok h.sim h.good))
  have HG := Lib.hid (show (m.gone j).Good ∧ j ≤ m.ws.length from by rw [← hj]; exact ⟨goes_good h.good _, m.goes_le _⟩)
  clear hj
  have HB0 := Lib.hid (show B0 ≤ w.heap.size from Nat.le_trans h.lB h.hB)
  have H := Lib.hid h
  obtain ⟨sz, hsz⟩ : ∃ x, r.size = x := ⟨_, rfl⟩
  obtain ⟨hold, hhold⟩ : ∃ x, r.hold = x := ⟨_, rfl⟩
  obtain ⟨nx, hnx⟩ : ∃ x, r.next = x := ⟨_, rfl⟩
  obtain ⟨bg, hbg⟩ : ∃ x, r.begun = x := ⟨_, rfl⟩
  obtain ⟨L, hL⟩ : ∃ x, r.ws.length = x := ⟨_, rfl⟩
  have hrc : r.cells (.slice A0 r.ws.length c0) = #[.int .i64 sz, .int .u64 (hold : Int), .int .u64 (nx : Int), .bool bg, .slice A0 L c0] := by unfold Rb.cells; rw [hsz, hhold, hnx, hbg, hL]
  have HRC := Lib.hid hrc
  rw [hrc]
  clear hcl hq hd hn hnow hpick hfit hc0 h hsz hhold hnx hbg hL hrc
  go_enter Try.func11, Try.ntmps11
  go_upto_region 4 with (fail)
  generalize hw1 : World.alloc (World.alloc (World.alloc _ _) _) _ = w1
  have O1 := Lib.hid (show Only (fun _ => False) w w1 from by rw [← hw1]; exact (((Only.refl _ w).alloc _).alloc _).alloc _)
  have I4 := Lib.hid (show Is w1 w.heap.size 32 #[.int .i64 sz, .int .u64 (hold : Int), .int .u64 (nx : Int), .bool bg, .slice A0 L c0] from by rw [← hw1]; exact ((Is.made w _ _).alloc _).alloc _)
  have I5 := Lib.hid (show Is w1 (w.heap.size + 1) 44 #[.int .i64 d, .int .u64 (n : Int), .int .u64 (now : Int), q0, q1, q2, q3, q4, q5, q6, q7, q8, q9, q10] from by
    rw [← hw1]
    have := Is.made (w.alloc (.cells #[.int .i64 sz, .int .u64 (hold : Int), .int .u64 (nx : Int), .bool bg, .slice A0 L c0] 32)) 44 #[.int .i64 d, .int .u64 (n : Int), .int .u64 (now : Int), q0, q1, q2, q3, q4, q5, q6, q7, q8, q9, q10]
    rw [World.size_alloc] at this
    exact this.alloc _)
  have J6 := Lib.hid (show Is w1 (w.heap.size + 2) 32 zeroRb from by
    rw [← hw1]
    have := Is.made ((w.alloc (.cells #[.int .i64 sz, .int .u64 (hold : Int), .int .u64 (nx : Int), .bool bg, .slice A0 L c0] 32)).alloc (.cells #[.int .i64 d, .int .u64 (n : Int), .int .u64 (now : Int), q0, q1, q2, q3, q4, q5, q6, q7, q8, q9, q10] 44)) 32 zeroRb
    rw [World.size_alloc, World.size_alloc] at this
    exact this)
  obtain ⟨r4, hr4⟩ : ∃ b, w.heap.size = b := ⟨_, rfl⟩
  obtain ⟨r5, hr5⟩ : ∃ b, w.heap.size + 1 = b := ⟨_, rfl⟩
  obtain ⟨r6, hr6⟩ : ∃ b, w.heap.size + 2 = b := ⟨_, rfl⟩
  have HR := Lib.hid (show r4 = w.heap.size ∧ r5 = w.heap.size + 1 ∧ r6 = w.heap.size + 2 from ⟨hr4.symm, hr5.symm, hr6.symm⟩)
  rw [hr6] at J6 ⊢
  rw [hr5] at I5 ⊢
  rw [hr4] at I4 ⊢
  clear hw1 hr4 hr5 hr6
  have c50 : w1.cell? ⟨r5, 0, none⟩ = some (.int .i64 d) := I5.out.cell 0
  have c52 : w1.cell? ⟨r5, 2, none⟩ = some (.int .u64 (now : Int)) := I5.out.cell 2
  go_wp2_with fail
  refine (HPK.out w1).mono ?_
  rintro e w1' ⟨rfl, rfl⟩

  clear HPK c50
  go_wp2_with fail
  refine (HT.out w1 O1.out).mono ?_
  rintro e w3 ⟨vo, rfl, hW⟩
  obtain ⟨Av, nv, cv, ev⟩ := own_isSlG hW.1.1
  subst ev
  have HWO := Lib.hid hW
  have HREF := Lib.hid (RefSt.prog (H.out.ref.pure O1.out) (H.out.pure O1.out).bf.is hW.2.2.2)
  have HKP := Lib.hid (show ∀ (T : TypeId) (g : Nat) (cs : Array Value), Is w1 g T cs → T ≠ 65 → T ≠ 79 → Is w3 g T cs from fun T g cs hg h1 h2 => hg.only hW.2.2.2 (fun hs => by
    rcases hs with e | ⟨-, ds, hi⟩
    · exact Is.apart hg (H.out.pure O1.out).bf.is h1 e
    · exact Is.apart hg hi h2 rfl))
  have K4 := Lib.hid (HKP.out _ _ _ I4.out (by decide) (by decide))
  have K5 := Lib.hid (HKP.out _ _ _ I5.out (by decide) (by decide))
  have K6 := Lib.hid (HKP.out _ _ _ J6.out (by decide) (by decide))
  have O3 := Lib.hid (show Only (fun k => B0 ≤ k) w w3 from (O1.out.mono (fun _ _ e => e.elim)).trans hW.2.2.2 (fun k _ hs => by
    rcases hs with rfl | ⟨hk, -⟩
    · exact H.out.lb
    · exact Nat.le_trans H.out.lB hk))
  have HK3 := Lib.hid (show ∀ g ds, Is w g 32 ds → Is w3 g 32 ds from fun g ds hg => HKP.out _ _ _ (hg.only O1.out (by simp)) (by decide) (by decide))
  clear hW c52 HT HKP
  have HRT := Lib.hid (HR2.out w3 HREF.out.rd)
  rw [HRC.out] at HRT
  have d52 : w3.cell? ⟨r5, 2, none⟩ = some (.int .u64 (now : Int)) := K5.out.cell 2
  have HBB := Lib.hid (show ¬ r4 = r6 from by have := HR.out; omega)
  go_upto_region 15 with (first
    | (refine wpList_load_want (o := ⟨some 62, _, _, _, _, _⟩) rfl _ _ rfl r4 rfl _ #[.int .i64 sz, .int .u64 (hold : Int), .int .u64 (nx : Int), .bool bg, .slice A0 L c0] _ K4.out Try.underlying32 rfl Try.sizeRb ?_)
    | ((with_reducible refine HRT.out.mono ?_); rintro e w4 ⟨v2', mo, rfl, hR⟩; have R4 := Lib.hid hR; have L4 := Lib.hid (K4.out.only hR.2.2 (by simp)); have L6 := Lib.hid (K6.out.only hR.2.2 (by simp)); have HV2 := Lib.hid (show ((r.gone j).cells v2').all (·.oneCell') = true from rb_one _ (hR.1 _ HREF.out.rd)); obtain ⟨Am, nm, cm, em⟩ := own_isSlG hR.2.1.1; subst em; clear hR)
    | (refine wpList_store_is (o := ⟨none, _, _, _, _, _⟩) rfl 32 _ _ rfl r4 ((r.gone j).cells v2') rfl rfl 32 #[.int .i64 sz, .int .u64 (hold : Int), .int .u64 (nx : Int), .bool bg, .slice A0 L c0] L4.out Try.sizeRb rfl HV2.out ?_; intro w5 hi5 ho5; have M4 := Lib.hid hi5; have O5 := Lib.hid ho5; have M6 := Lib.hid (L6.out.only ho5 (fun e => HBB.out e.symm)); clear hi5 ho5))
  have HK5 := Lib.hid (show ∀ g ds, Is w g 32 ds → Is w5 g 32 ds from fun g ds hg => ((HK3.out g ds hg).only R4.out.2.2 (by simp)).only O5.out (fun (e : g = r4) => by have := hg.lt; have := HR.out; omega))
  obtain ⟨v', hh⟩ := Half.of HWO.out (Nat.le_trans HB0.out O1.out.size)
  have HH := Lib.hid hh
  clear hh

  have HW := Lib.hid (show Went b B0 B j m v' (.slice Av nv cv) (.slice Am nm cm) us r (.slice A0 r.ws.length c0) v2' us2 w5 from by
    obtain ⟨p1, p2, p3⟩ := R4.out
    have hh := HH.out.pure p3
    exact Went.far (w := w4) ⟨hh.bf, hh.pks, HG.out.1, sim_gone H.out.sim H.out.good HG.out.2, H.out.sim.ws, sim_nx H.out.sim H.out.good, H.out.few, HREF.out.pure p3, by have := H.out.good.len; have := H.out.good.le; omega, hh.vo, ⟨owned_low p2.1 (Nat.le_trans HB0.out O3.out.size), p2.2⟩, p1, H.out.lb, H.out.lB, Nat.le_trans H.out.hB (Nat.le_trans O3.out.size p3.size)⟩ ⟨_, L4.out⟩ O5.out)
  have hne : ¬ r4 = r6 := by have := HR.out; omega
  have hB6 : B0 ≤ r6 := by have := HR.out; have := HB0.out; omega
  have hone : ((r.gone j).cells v2').all (·.oneCell') = true := rb_one _ (HW.out.go _ HW.out.ref.rd)
  have HNE := Lib.hid (And.intro hne hB6)
  have HST := Lib.hid (fun (w9 : World) (hs : St b B0 B (m.gone j) v' (us.drop j) (r.gone j) v2' (us2.drop j) w9) => stands_is b B _ v' _ _ v2' _ w9 hs.bf hs.good hs.sim hs.ref.rd)
  have HNI := Lib.hid (show ∀ (x y : World), St b B0 B (m.gone j) v' (us.drop j) (r.gone j) v2' (us2.drop j) x → (∃ ds, Is x r6 32 ds) → Only (fun k => k = r6) x y → St b B0 B (m.gone j) v' (us.drop j) (r.gone j) v2' (us2.drop j) y from fun x y hx hd ho => by
    obtain ⟨ds, hd⟩ := hd
    exact hx.far hd (by decide) (by decide) (by decide) (by decide) (by decide) ho)
  clear hne hB6
  go_upto_region 15 with (fail)
  refine rd15 b r4 r6 B0 _ (.slice Av nv cv) (.slice Am nm cm) ((r.gone j).cells v2') (fun wx => Went b B0 B j m v' (.slice Av nv cv) (.slice Am nm cm) us r (.slice A0 r.ws.length c0) v2' us2 wx) (fun wx => St b B0 B (m.gone j) v' (us.drop j) (r.gone j) v2' (us2.drop j) wx) HNE.out.1 HNE.out.2 Try.sizeRb hone (fun w9 hp => after_same hp) HST.out (fun x y hp ho => hp.pure ho) (fun x y hp hd ho => hp.far hd ho) (fun x y hp ho => hp.pure ho) HNI.out _ _ _ _ _ _ _ _ _ _ _ _ _ _ _ _ _ _ _ _ _ _ _ _ _ _ _ _ _ _ _ _ _ _ _ _ _ _ _ _ _ _ _ _ _ _ _ _ _ _ _ _ _ _ _ _ _ _ _ _ _ _ _ _ _ _ _ _ _ _ _ _ _ _ w5 zeroRb rfl M4.out M6.out HW.out ?_
  rintro y66 y67 y68 y69 y70 y71 y72 y73 y74 y75 y76 y77 y78 y79 w9 ⟨hst, hi6, ho, hkp⟩
  have HS9 := Lib.hid hst
  have HI9 := Lib.hid hi6
  have HO9 := Lib.hid ho
  have HKP9 := Lib.hid hkp
  clear hst hi6 ho hkp
  go_wp2
  refine bodyPost_ret (res_cell Try.results11 _ w9 r6 32 ((r.gone j).cells v2') _ (.bool true) rfl rfl HI9.out Try.underlying32 rfl Try.sizeRb) rfl ?_
  exact ⟨_, _, _, _, _, _, rfl, HS9.out, ((O3.out.trans R4.out.2.2 (fun _ _ e => e.elim)).trans O5.out (fun k hk (e : k = r4) => by have := HR.out; have := HB0.out; omega)).trans HO9.out (fun _ _ e => e), fun g ds hg => HKP9.out g ds (HK5.out g ds hg) (by have := hg.lt; have := HR.out; omega)⟩
end Go.Proofs.Ytdcclighccejhaa
