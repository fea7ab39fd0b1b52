/- The reference of layer 4: Of, With. Conditions: as each says. -/
import Derived.Test.YtcgfmjdlningpaaMkD
import Derived.Test.YtcgfmjdlningpaaMkG
import Derived.Test.YtcgfmjdlningpaaExT
import Derived.Test.YtcgfmjdlningpaaExW
set_option linter.unusedVariables false
namespace Go.Proofs.Ytcgfmjdlningpaa
open Go.RowKit

theorem Try.sizeRp : (Try.prog.info? 29).map (·.size) = some 11 := by kernel_rfl
theorem rdE_rlit (w : World) (x : El) (v : Value) (hs : Src w v x.data) : RdE (w.alloc (.cells #[.int .u8 (x.id : Nat), v] 101)) (.slice (some ⟨w.heap.size, 0, none⟩) 1 1) [x] := by
  have h := Is.made w 101 #[.int .u8 (x.id : Nat), v]
  refine ⟨_, 1, rfl, Nat.le_refl _, fun _ => ⟨w.heap.size, 0, rfl, fun i z hz => ?_⟩⟩
  match i, hz with
  | 0, hz =>
    injection hz with hz
    subst hz
    exact ⟨v, ⟨h.cell 0, h.cell 1⟩, hs.of_only ((Only.refl _ w).alloc _)⟩
  | i + 1, hz => simp at hz
theorem OwnPk.off {B ob : Nat} {p : Pk} {vc ve vp : Value} {w w' : World} {cs : Array Value} (h : OwnPk B p vc ve vp w) (hi : Is w ob 29 cs) (ho : Only (fun k => k = ob) w w') : OwnPk B p vc ve vp w' :=
  ⟨owned_only h.1 ho (fun k hk e => owned_off h.1 hi (by decide) (by rw [hk, e])), owned_only h.2.1 ho (fun k hk e => owned_off h.2.1 hi (by decide) (by rw [hk, e])), owned_only h.2.2 ho (fun k hk e => owned_off h.2.2 hi (by decide) (by rw [hk, e]))⟩
/-- A packet that can be read. -/
structure RdPk (p : Pk) (vc ve vp : Value) (w : World) : Prop where
  c : Rd .u32 w vc (nats p.csrc)
  e : Src w ve p.ext
  p : Src w vp p.pay
  s : isSl vc
theorem RdPk.only {p : Pk} {vc ve vp : Value} {w w' : World} (h : RdPk p vc ve vp w) (ho : Only (fun _ => False) w w') : RdPk p vc ve vp w' := ⟨h.c.only ho (by simp), h.e.of_only ho, h.p.of_only ho, h.s⟩
theorem src_isSl {w : World} {v : Value} {bs : List Nat} (h : Src w v bs) : isSl v := by
  obtain ⟨A, c, rfl⟩ := h.slice
  exact ⟨_, _, _, rfl⟩
theorem RdPk.far {p : Pk} {vc ve vp : Value} {w w' : World} {g : Nat} (h : RdPk p vc ve vp w) (ho : Only (fun k => k = g) w w') (h1 : vc.ownBlock ≠ some g) (h2 : ve.ownBlock ≠ some g) (h3 : vp.ownBlock ≠ some g) : RdPk p vc ve vp w' :=
  ⟨h.c.only ho (fun k hk e => h1 (by rw [hk, e])), h.e.only ho (fun k hk e => h2 (by rw [hk, e])), h.p.only ho (fun k hk e => h3 (by rw [hk, e])), h.s⟩
def RkWith (p : Pk) (vc0 ve0 vp0 : Value) (q : Pk) (k : Nat) (w : World) (e : Ending) (w' : World) : Prop := ∃ vc ve vp, e = .returned (.tuple #[.agg (q.cls vc ve vp), .int .i64 (k : Nat)]) ∧ RdPk q vc ve vp w' ∧ Only (fun _ => False) w w' ∧ ∀ B, B ≤ w.heap.size → OwnPk B p vc0 ve0 vp0 w → OwnPk B q vc ve vp w'
set_option maxRecDepth 100000 in
set_option maxHeartbeats 4000000 in
theorem rmk_of (p : Pk) (id : Nat) (vc ve vp : Value) (w : World) (hid : id < 256) (hpr : p.profile < 65536) (hvc : isSl vc) (hvp : isSl vp) (he : Src w ve p.ext) (heb : ∀ x ∈ p.ext, x < 256) (hel : p.ext.length ≤ 100000) :
    Calls Try.prog 48 #[.agg (p.cls vc ve vp), .int .u8 id] w (MkOfEnd (ofMk p id) w) := by
  obtain ⟨Ac, nc, cc, rfl⟩ := hvc
  obtain ⟨Ap, np, cp, rfl⟩ := hvp
  obtain ⟨Ae, ce, rfl⟩ := he.slice
  obtain ⟨hi1, hi2, hi3⟩ := parR_ids p.profile p.ext heb
  have HPA := Lib.hid (fun w' (ho : Only (fun _ => False) w w') => rpar_any p.profile (.slice Ae p.ext.length ce) p.ext w' (he.of_only ho) heb hel)
  have HV := Lib.hid (Mk.one Mk.zero)
  have HI1 := Lib.hid (fun x hx => (hi1 x hx).1)
  have HI2 := Lib.hid (show (parR p.profile p.ext).2.length ≤ 1000000 from by omega)
  have HI3 := Lib.hid (show ∀ x ∈ (parR p.profile p.ext).2, x.data.length ≤ 1000000 from fun x hx => by have := hi3 x hx; omega)
  have HI4 := Lib.hid (fun x hx => (hi1 x hx).2)
  have HNO := Lib.hid (fun h => ofMk_none (p := p) (id := id) h)
  have HYE := Lib.hid (fun x h1 h2 h3 => ofMk_some (p := p) (id := id) (x := x) h1 h2 h3)
  clear he heb hel hi1 hi2 hi3
  generalize ofMk p id = r at *
  generalize (parR p.profile p.ext) = pr at *
  go_enter Try.func48, Try.ntmps48
  go_upto_region 1 with (fail)
  generalize hw0 : World.alloc (World.alloc _ _) _ = w0
  have HI := Lib.hid (show Is w0 w.heap.size 29 (p.cls (.slice Ac nc cc) (.slice Ae p.ext.length ce) (.slice Ap np cp)) from by rw [← hw0]; exact (Is.made w _ _).alloc _)
  have HO := Lib.hid (show Is w0 (w.heap.size + 1) 71 Mk.zero.cells from by rw [← hw0]; have := Is.made (w.alloc (.cells (p.cls (.slice Ac nc cc) (.slice Ae p.ext.length ce) (.slice Ap np cp)) 29)) 71 Mk.zero.cells; rw [World.size_alloc] at this; exact this)
  have P0 := Lib.hid (show Only (fun _ => False) w w0 from by rw [← hw0]; exact ((Only.refl _ w).alloc _).alloc _)
  obtain ⟨pb, hpb⟩ : ∃ k, w.heap.size = k := ⟨_, rfl⟩
  obtain ⟨rb, hrb⟩ : ∃ k, w.heap.size + 1 = k := ⟨_, rfl⟩
  have HMB := Lib.hid (show w.heap.size ≤ rb from by omega)
  rw [hrb] at HO ⊢
  rw [hpb] at HI ⊢
  clear hw0 hrb hpb
  have q6 := HI.out.cell 6
  have q7 := HI.out.cell 7
  have q8 := HI.out.cell 8
  simp [Pk.cls] at q6 q7 q8
  cases hx : p.hasExt
  · rw [hx] at q6
    have HR := Lib.hid (HNO.out (.inl hx))
    go_wp2_with (refine wpList_store_is (o := ⟨none, _, _, _, _, _⟩) rfl 71 _ _ rfl rb Mk.zero.cells rfl rfl 71 Mk.zero.cells HO.out Try.sizeRm rfl HV.out ?_; intro w4 hi4 ho4)
    exact bodyPost_ret (res_cell Try.results48 _ w4 rb 71 Mk.zero.cells _ (.bool false) rfl rfl hi4 Try.underlying71 rfl Try.sizeRm) rfl ⟨by rw [HR.out], P0.out.trans ho4 (fun i hi e => by have := HMB.out; omega)⟩
  · rw [hx] at q6
    have HX := Lib.hid hx
    clear hx
    by_cases h0 : pr.1 = 0
    · have HPB := Lib.hid (fun w' ho => (HPA.out w' ho).mono (fun e w'' (k : ExParEnd 101 pr w' e w'') => (show ∃ v vs, e = .returned (.tuple #[v, .int .i64 0]) ∧ Els w'' w'.heap.size 101 v vs pr.2 ∧ Only (fun _ => False) w' w'' from by
        obtain ⟨k1, ⟨k2, _⟩ | ⟨_, v, vs, k3, k4⟩⟩ := k
        · exact absurd h0 k2
        · exact ⟨v, vs, k3, k4, k1⟩)))
      have H0 := Lib.hid h0
      clear h0 HPA
      go_upto_region 6 with (go_at_call 24; refine (HPB.out _ P0.out).mono ?_; rintro e w1 ⟨v1, vs1, rfl, hE1, ho1⟩; have R1 := Lib.hid hE1.rd; have O1 := Lib.hid ho1; obtain ⟨A1, c1, h1, -⟩ := hE1.slice; subst h1; clear hE1 ho1)
      have K1 := Lib.hid (HO.out.only O1.out (by simp))
      clear q6 q7 q8
      have HFI := Lib.hid (rfind_is id (.slice A1 pr.2.length c1) pr.2 w1 R1.out HI1.out hid HI2.out)
      cases hfi : findEl id pr.2
      · rw [hfi] at HFI
        have HR := Lib.hid (HNO.out (.inr (.inr hfi)))
        have HF2 := Lib.hid (HFI.out.mono (fun e w'' (k : RFindEnd none w1 e w'') => (show e = .returned (.tuple #[.slice none 0 0, .bool false]) ∧ Only (fun _ => False) w1 w'' from by
          obtain ⟨k1, ⟨_, k2⟩ | ⟨x, k2, _⟩⟩ := k
          · exact ⟨k2, k1⟩
          · cases k2)))
        clear hfi HFI
        go_wp2_with (first
          | (go_at_call 33; refine HF2.out.mono ?_; rintro e w2 ⟨rfl, ho2⟩; have O2 := Lib.hid ho2; clear ho2)
          | (refine wpList_store_is (o := ⟨none, _, _, _, _, _⟩) rfl 71 _ _ rfl rb Mk.zero.cells rfl rfl 71 Mk.zero.cells (K1.out.only O2.out (by simp)) Try.sizeRm rfl HV.out ?_; intro w4 hi4 ho4))
        exact bodyPost_ret (res_cell Try.results48 _ w4 rb 71 Mk.zero.cells _ (.bool false) rfl rfl hi4 Try.underlying71 rfl Try.sizeRm) rfl ⟨by rw [HR.out], (only_more P0.out (only_more O1.out O2.out)).trans ho4 (fun i hi e => by have := HMB.out; omega)⟩
      · rename_i x
        rw [hfi] at HFI
        have HR := Lib.hid (HYE.out x HX.out H0.out hfi)
        have HXB := Lib.hid (HI4.out x (List.mem_of_find?_eq_some hfi))
        have HF2 := Lib.hid (HFI.out.mono (fun e w'' (k : RFindEnd (some x) w1 e w'') => (show ∃ v, e = .returned (.tuple #[v, .bool true]) ∧ Src w'' v x.data ∧ Only (fun _ => False) w1 w'' from by
          obtain ⟨k1, ⟨k2, _⟩ | ⟨y, k2, v, k3, k4⟩⟩ := k
          · cases k2
          · injection k2 with k2
            subst k2
            exact ⟨v, k3, k4, k1⟩)))
        clear hfi HFI
        have HVM := Lib.hid (Mk.one (mkOf x.data))
        have HEQ := Lib.hid (show ((mkErr x.data : Int) == 0) = decide (mkErr x.data = 0) from by rw [Bool.eq_iff_iff]; simp)
        have HPM := Lib.hid (fun v w (h : Src w v x.data) => rmk_parse v x.data w h HXB.out)
        unfold MkParA at HPM
        generalize mkOf x.data = mo at *
        generalize decide (mkErr x.data = 0) = bo at *
        generalize mkErr x.data = me at *
        generalize x.data = dat at *
        go_upto_region 10 with (first
          | (go_at_call 33; refine HF2.out.mono ?_; rintro e w2 ⟨v2, rfl, hv2, ho2⟩; have V2 := Lib.hid hv2; have O2 := Lib.hid ho2; clear hv2 ho2)
          | (go_at_call 45; refine (HPM.out _ _ V2.out).mono ?_; rintro e w3 ⟨rfl, ho3⟩; have O3 := Lib.hid ho3; clear ho3)
          | (refine wpList_store_is rfl 71 _ _ rfl w3.heap.size mo.cells rfl rfl 71 Mk.zero.cells (Is.made _ _ Mk.zero.cells) Try.sizeRm rfl HVM.out ?_; intro w4 hi4 ho4))
        have I4 := Lib.hid hi4
        have O4 := Lib.hid (only_more O2.out (only_more O3.out (only_made ho4)))
        have K4 := Lib.hid (K1.out.only O4.out (by simp))
        have heq := HEQ.out
        generalize w3.heap.size = ob at *
        clear hi4 ho4
        go_wp2_with (first
          | (refine wpList_load_want (o := ⟨some 41, _, _, _, _, _⟩) rfl _ _ rfl ob rfl _ _ _ I4.out Try.underlying71 rfl Try.sizeRm ?_)
          | (refine wpList_store_is (o := ⟨none, _, _, _, _, _⟩) rfl 71 _ _ rfl rb mo.cells rfl rfl 71 Mk.zero.cells K4.out Try.sizeRm rfl HVM.out ?_; intro w5 hi5 ho5))
        exact bodyPost_ret (res_cell Try.results48 _ w5 rb 71 mo.cells _ (.bool bo) rfl rfl hi5 Try.underlying71 rfl Try.sizeRm) rfl ⟨by rw [HR.out], (only_more P0.out (only_more O1.out O4.out)).trans ho5 (fun i hi e => by have := HMB.out; omega)⟩
    · have HPB := Lib.hid (fun w' ho => (HPA.out w' ho).mono (fun e w'' (k : ExParEnd 101 pr w' e w'') => (show e = .returned (.tuple #[.slice none 0 0, .int .i64 (pr.1 : Nat)]) ∧ Only (fun _ => False) w' w'' from by
        obtain ⟨k1, ⟨_, k2⟩ | ⟨k2, _⟩⟩ := k
        · exact ⟨k2, k1⟩
        · exact absurd k2 h0)))
      have HR := Lib.hid (HNO.out (.inr (.inl h0)))
      have ez : ((pr.1 : Int) != 0) = true := by simp; omega
      clear h0 HPA
      generalize pr.1 = pe at *
      go_wp2_with (first
        | (go_at_call 24; refine (HPB.out _ P0.out).mono ?_; rintro e w1 ⟨rfl, ho1⟩; have O1 := Lib.hid ho1; clear ho1)
        | (refine wpList_store_is (o := ⟨none, _, _, _, _, _⟩) rfl 71 _ _ rfl rb Mk.zero.cells rfl rfl 71 Mk.zero.cells (HO.out.only O1.out (by simp)) Try.sizeRm rfl HV.out ?_; intro w4 hi4 ho4))
      exact bodyPost_ret (res_cell Try.results48 _ w4 rb 71 Mk.zero.cells _ (.bool false) rfl rfl hi4 Try.underlying71 rfl Try.sizeRm) rfl ⟨by rw [HR.out], (only_more P0.out O1.out).trans ho4 (fun i hi e => by have := HMB.out; omega)⟩
theorem rdE_is {w : World} {T : TypeId} {lb : Nat} {x : El} {v : Value} (h : Is w lb T #[.int .u8 (x.id : Nat), v]) (hs : Src w v x.data) : RdE w (.slice (some ⟨lb, 0, none⟩) 1 1) [x] := by
  refine ⟨_, 1, rfl, Nat.le_refl _, fun _ => ⟨lb, 0, rfl, fun i z hz => ?_⟩⟩
  match i, hz with
  | 0, hz =>
    injection hz with hz
    subst hz
    exact ⟨v, ⟨h.cell 0, h.cell 1⟩, hs⟩
  | i + 1, hz => simp at hz
set_option maxRecDepth 100000 in
set_option maxHeartbeats 4000000 in
theorem rmk_with (p : Pk) (ix : Nat) (m : Mk) (vc ve vp : Value) (w : World) (hid : ix < 256) (hrd : RdPk p vc ve vp w) :
    Calls Try.prog 50 #[.agg (p.cls vc ve vp), .int .u8 ix, .agg m.cells] w (RkWith p vc ve vp (withPk p ix m) (withErr ix m) w) := by
  have HRD := Lib.hid hrd
  have HPM := Lib.hid (fun w => rmk_put m w)
  have HV := Lib.hid (p.cls_one hrd.s (src_isSl hrd.e) (src_isSl hrd.p))
  obtain ⟨Ae, ne, ce, rfl⟩ := src_isSl hrd.e
  clear hrd
  cases hr : m.right
  · have e1 : withErr ix m = 40 := by unfold withErr; rw [hr]; rfl
    have e2 : withPk p ix m = p := by unfold withPk; rw [e1]; rfl
    have e3 : m.bad = 40 := by unfold Mk.bad; rw [hr]; rfl
    rw [e1, e2]
    rw [e3] at HPM
    clear e1 e2 e3 hr hid
    generalize m.out = mo at *
    go_enter Try.func50, Try.ntmps50
    go_upto_region 1 with (fail)
    generalize hw0 : World.alloc (World.alloc (World.alloc _ _) _) _ = w0
    have HI := Lib.hid (show Is w0 w.heap.size 29 (p.cls vc (.slice Ae ne ce) vp) from by rw [← hw0]; exact ((Is.made w _ _).alloc _).alloc _)
    have HM := Lib.hid (show Is w0 (w.heap.size + 1) 71 m.cells from by rw [← hw0]; have := Is.made (w.alloc (.cells (p.cls vc (.slice Ae ne ce) vp) 29)) 71 m.cells; rw [World.size_alloc] at this; exact this.alloc _)
    have HO := Lib.hid (show Is w0 (w.heap.size + 2) 29 zeroPk from by rw [← hw0]; have := Is.made ((w.alloc (.cells (p.cls vc (.slice Ae ne ce) vp) 29)).alloc (.cells m.cells 71)) 29 zeroPk; rw [World.size_alloc, World.size_alloc] at this; exact this)
    have P0 := Lib.hid (show Only (fun _ => False) w w0 from by rw [← hw0]; exact (((Only.refl _ w).alloc _).alloc _).alloc _)
    obtain ⟨pb, hpb⟩ : ∃ k, w.heap.size = k := ⟨_, rfl⟩
    obtain ⟨mb, hmb⟩ : ∃ k, w.heap.size + 1 = k := ⟨_, rfl⟩
    obtain ⟨rb, hrb⟩ : ∃ k, w.heap.size + 2 = k := ⟨_, rfl⟩
    have HMB := Lib.hid (show w.heap.size ≤ rb ∧ w.heap.size ≤ pb ∧ pb < rb from by omega)
    rw [hrb] at HO ⊢
    rw [hmb] at HM ⊢
    rw [hpb] at HI ⊢
    clear hw0 hmb hrb hpb
    go_upto_region 2 with (first
      | (refine wpList_load_want (o := ⟨some 14, _, _, _, _, _⟩) rfl _ _ rfl mb rfl _ _ _ HM.out Try.underlying71 rfl Try.sizeRm ?_)
      | (go_at_call 38; refine (HPM.out _).mono ?_; rintro e w3 ⟨vd, rfl, hvd, ho3⟩; have D3 := Lib.hid (owned_low hvd P0.out.size); have O3 := Lib.hid ho3; obtain ⟨Ad, cd, hds, -⟩ := own_slice hvd; subst hds; clear hvd ho3))
    go_wp2_with (first
      | (refine wpList_load_want (o := ⟨some 20, _, _, _, _, _⟩) rfl _ _ rfl pb rfl _ _ _ (HI.out.only O3.out (by simp)) Try.underlying29 rfl Try.sizeRp ?_)
      | (refine wpList_store_is (o := ⟨none, _, _, _, _, _⟩) rfl 29 _ _ rfl rb (p.cls vc (.slice Ae ne ce) vp) rfl rfl 29 zeroPk (HO.out.only O3.out (by simp)) Try.sizeRp rfl HV.out ?_; intro w4 hi4 ho4))
    have R4 := Lib.hid ((only_more P0.out O3.out).trans ho4 (fun i hi e => by have := HMB.out; omega))
    exact bodyPost_ret (res_cell Try.results50 _ w4 rb 29 (p.cls vc (.slice Ae ne ce) vp) _ (.int .i64 40) rfl rfl hi4 Try.underlying29 rfl Try.sizeRp) rfl ⟨_, _, _, rfl, HRD.out.only R4.out, R4.out, fun B hB ho => ho.only R4.out⟩
  · have e3 : m.bad = 0 := by unfold Mk.bad; rw [hr]; rfl
    have e4 : m.out = m.enc := by unfold Mk.out; rw [hr]; rfl
    rw [e3, e4] at HPM
    have HEL := Lib.hid (enc_len m)
    by_cases h0 : ix = 0
    · have e1 : withErr ix m = 40 := by unfold withErr; rw [hr, h0]; rfl
      have e2 : withPk p ix m = p := by unfold withPk; rw [e1]; rfl
      rw [e1, e2]
      have HFO := Lib.hid (fun v w (h : RdE w v [⟨ix, m.enc⟩]) => rform_is v [⟨ix, m.enc⟩] w h (by simp; exact hid) (by simp) (by simp; have := HEL.out; omega))
      rw [show formE [⟨ix, m.enc⟩] = .tuple #[.int .u16 0, .bool false] from by rw [h0]; exact form_none m] at HFO
      clear e1 e2 e3 e4 hr h0
      generalize m.enc = mo at *
      go_enter Try.func50, Try.ntmps50
      go_upto_region 1 with (fail)
      generalize hw0 : World.alloc (World.alloc (World.alloc _ _) _) _ = w0
      have HI := Lib.hid (show Is w0 w.heap.size 29 (p.cls vc (.slice Ae ne ce) vp) from by rw [← hw0]; exact ((Is.made w _ _).alloc _).alloc _)
      have HM := Lib.hid (show Is w0 (w.heap.size + 1) 71 m.cells from by rw [← hw0]; have := Is.made (w.alloc (.cells (p.cls vc (.slice Ae ne ce) vp) 29)) 71 m.cells; rw [World.size_alloc] at this; exact this.alloc _)
      have HO := Lib.hid (show Is w0 (w.heap.size + 2) 29 zeroPk from by rw [← hw0]; have := Is.made ((w.alloc (.cells (p.cls vc (.slice Ae ne ce) vp) 29)).alloc (.cells m.cells 71)) 29 zeroPk; rw [World.size_alloc, World.size_alloc] at this; exact this)
      have P0 := Lib.hid (show Only (fun _ => False) w w0 from by rw [← hw0]; exact (((Only.refl _ w).alloc _).alloc _).alloc _)
      obtain ⟨pb, hpb⟩ : ∃ k, w.heap.size = k := ⟨_, rfl⟩
      obtain ⟨mb, hmb⟩ : ∃ k, w.heap.size + 1 = k := ⟨_, rfl⟩
      obtain ⟨rb, hrb⟩ : ∃ k, w.heap.size + 2 = k := ⟨_, rfl⟩
      have HMB := Lib.hid (show w.heap.size ≤ rb ∧ w.heap.size ≤ pb ∧ pb < rb from by omega)
      rw [hrb] at HO ⊢
      rw [hmb] at HM ⊢
      rw [hpb] at HI ⊢
      clear hw0 hmb hrb hpb
      go_upto_region 2 with (first
        | (refine wpList_load_want (o := ⟨some 14, _, _, _, _, _⟩) rfl _ _ rfl mb rfl _ _ _ HM.out Try.underlying71 rfl Try.sizeRm ?_)
        | (go_at_call 38; refine (HPM.out _).mono ?_; rintro e w3 ⟨vd, rfl, hvd, ho3⟩; have D3 := Lib.hid (owned_low hvd P0.out.size); have O3 := Lib.hid ho3; obtain ⟨Ad, cd, hds, -⟩ := own_slice hvd; subst hds; clear hvd ho3))
      have R3 := Lib.hid (only_more P0.out O3.out)
      go_upto_region 5 with (fail)
      have E5 := Lib.hid (Is.made w3 101 #[.int .u8 (ix : Nat), .slice Ad mo.length cd])
      have O5 := Lib.hid (show Only (fun _ => False) w3 (w3.alloc (.cells #[.int .u8 (ix : Nat), .slice Ad mo.length cd] 101)) from (Only.refl _ w3).alloc _)
      have HLB := Lib.hid (show w3.heap.size < (w3.alloc (.cells #[.int .u8 (ix : Nat), .slice Ad mo.length cd] 101)).heap.size from by simp)
      have HPL := Lib.hid (show pb < w3.heap.size from Nat.lt_of_lt_of_le HI.out.lt O3.out.size)
      generalize (w3.alloc (.cells #[.int .u8 (ix : Nat), .slice Ad mo.length cd] 101)) = w5 at *
      generalize w3.heap.size = eb at *
      go_upto_region 6 with (go_at_call 34; refine (HFO.out _ _ (rdE_is (x := ⟨ix, mo⟩) E5.out (Src.of_own (own_only D3.out O5.out (by simp))))).mono ?_; rintro e w6 ⟨rfl, ho6⟩; have O6 := Lib.hid ho6; clear ho6)
      have O36 := Lib.hid (only_more O5.out O6.out)
      have O26 := Lib.hid (only_more O3.out O36.out)
      have I6 := Lib.hid (HI.out.only O26.out (by simp))
      have K6 := Lib.hid (HO.out.only O26.out (by simp))
      have R6 := Lib.hid (only_more P0.out O26.out)
      have E6 := Lib.hid (E5.out.only O6.out (by simp))
      have D6 := Lib.hid (own_only D3.out O36.out (by simp))
      have HNE := Lib.hid (show pb < eb from HPL.out)
      go_wp2_with (first
        | (refine wpList_load_want (o := ⟨some 33, _, _, _, _, _⟩) rfl _ _ rfl pb rfl _ _ _ I6.out Try.underlying29 rfl Try.sizeRp ?_)
        | (refine wpList_store_is (o := ⟨none, _, _, _, _, _⟩) rfl 29 _ _ rfl rb (p.cls vc (.slice Ae ne ce) vp) rfl rfl 29 zeroPk K6.out Try.sizeRp rfl HV.out ?_; intro w8 hi8 ho8))
      have R8 := Lib.hid (R6.out.trans ho8 (fun i hi e => by have := HMB.out; omega))
      exact bodyPost_ret (res_cell Try.results50 _ w8 rb 29 (p.cls vc (.slice Ae ne ce) vp) _ (.int .i64 40) rfl rfl hi8 Try.underlying29 rfl Try.sizeRp) rfl ⟨_, _, _, rfl, HRD.out.only R8.out, R8.out, fun B hB ho => ho.only R8.out⟩
    · have e1 : withErr ix m = 0 := by unfold withErr; rw [hr, if_neg (by simp), if_neg h0]
      have HQ := Lib.hid (show withPk p ix m = { p with hasExt := true, profile := withProf ix, ext := exPut (decide (ix ≤ 14)) [⟨ix, m.enc⟩] } from by unfold withPk; rw [e1]; rfl)
      rw [e1]
      have HFO := Lib.hid (fun v w (h : RdE w v [⟨ix, m.enc⟩]) => rform_is v [⟨ix, m.enc⟩] w h (by simp; exact hid) (by simp) (by simp; have := HEL.out; omega))
      rw [form_some ix m h0] at HFO
      obtain ⟨f1, f2, f3⟩ := with_form ix
      have HPU := Lib.hid (fun v w (h : RdE w v [⟨ix, m.enc⟩]) => rput_any (withProf ix) v [⟨ix, m.enc⟩] w h (by simp; exact hid) (by simp) (by simp; have := HEL.out; omega))
      rw [with_err ix m h0, f2] at HPU
      have HPU2 := Lib.hid (fun v w h => (HPU.out v w h).mono (fun _ _ k => putB_zero k))
      clear HPU
      obtain ⟨xo, hxo⟩ : ∃ l, exPut (decide (ix ≤ 14)) [⟨ix, m.enc⟩] = l := ⟨_, rfl⟩
      rw [hxo] at HPU2 HQ
      generalize withProf ix = wp at *
      generalize m.enc = mo at *
      generalize hqk : withPk p ix m = q at *
      clear e1 e3 e4 hr h0 f1 f2 f3 hxo hqk
      go_enter Try.func50, Try.ntmps50
      go_upto_region 1 with (fail)
      generalize hw0 : World.alloc (World.alloc (World.alloc _ _) _) _ = w0
      have HI := Lib.hid (show Is w0 w.heap.size 29 (p.cls vc (.slice Ae ne ce) vp) from by rw [← hw0]; exact ((Is.made w _ _).alloc _).alloc _)
      have HM := Lib.hid (show Is w0 (w.heap.size + 1) 71 m.cells from by rw [← hw0]; have := Is.made (w.alloc (.cells (p.cls vc (.slice Ae ne ce) vp) 29)) 71 m.cells; rw [World.size_alloc] at this; exact this.alloc _)
      have HO := Lib.hid (show Is w0 (w.heap.size + 2) 29 zeroPk from by rw [← hw0]; have := Is.made ((w.alloc (.cells (p.cls vc (.slice Ae ne ce) vp) 29)).alloc (.cells m.cells 71)) 29 zeroPk; rw [World.size_alloc, World.size_alloc] at this; exact this)
      have P0 := Lib.hid (show Only (fun _ => False) w w0 from by rw [← hw0]; exact (((Only.refl _ w).alloc _).alloc _).alloc _)
      obtain ⟨pb, hpb⟩ : ∃ k, w.heap.size = k := ⟨_, rfl⟩
      obtain ⟨mb, hmb⟩ : ∃ k, w.heap.size + 1 = k := ⟨_, rfl⟩
      obtain ⟨rb, hrb⟩ : ∃ k, w.heap.size + 2 = k := ⟨_, rfl⟩
      have HMB := Lib.hid (show w.heap.size ≤ rb ∧ w.heap.size ≤ pb ∧ pb < rb from by omega)
      rw [hrb] at HO ⊢
      rw [hmb] at HM ⊢
      rw [hpb] at HI ⊢
      clear hw0 hmb hrb hpb
      go_upto_region 2 with (first
        | (refine wpList_load_want (o := ⟨some 14, _, _, _, _, _⟩) rfl _ _ rfl mb rfl _ _ _ HM.out Try.underlying71 rfl Try.sizeRm ?_)
        | (go_at_call 38; refine (HPM.out _).mono ?_; rintro e w3 ⟨vd, rfl, hvd, ho3⟩; have D3 := Lib.hid (owned_low hvd P0.out.size); have O3 := Lib.hid ho3; obtain ⟨Ad, cd, hds, -⟩ := own_slice hvd; subst hds; clear hvd ho3))
      have R3 := Lib.hid (only_more P0.out O3.out)
      go_upto_region 5 with (fail)
      have E5 := Lib.hid (Is.made w3 101 #[.int .u8 (ix : Nat), .slice Ad mo.length cd])
      have O5 := Lib.hid (show Only (fun _ => False) w3 (w3.alloc (.cells #[.int .u8 (ix : Nat), .slice Ad mo.length cd] 101)) from (Only.refl _ w3).alloc _)
      have HLB := Lib.hid (show w3.heap.size < (w3.alloc (.cells #[.int .u8 (ix : Nat), .slice Ad mo.length cd] 101)).heap.size from by simp)
      have HPL := Lib.hid (show pb < w3.heap.size from Nat.lt_of_lt_of_le HI.out.lt O3.out.size)
      generalize (w3.alloc (.cells #[.int .u8 (ix : Nat), .slice Ad mo.length cd] 101)) = w5 at *
      generalize w3.heap.size = eb at *
      go_upto_region 6 with (go_at_call 34; refine (HFO.out _ _ (rdE_is (x := ⟨ix, mo⟩) E5.out (Src.of_own (own_only D3.out O5.out (by simp))))).mono ?_; rintro e w6 ⟨rfl, ho6⟩; have O6 := Lib.hid ho6; clear ho6)
      have O36 := Lib.hid (only_more O5.out O6.out)
      have O26 := Lib.hid (only_more O3.out O36.out)
      have I6 := Lib.hid (HI.out.only O26.out (by simp))
      have K6 := Lib.hid (HO.out.only O26.out (by simp))
      have R6 := Lib.hid (only_more P0.out O26.out)
      have E6 := Lib.hid (E5.out.only O6.out (by simp))
      have D6 := Lib.hid (own_only D3.out O36.out (by simp))
      have HNE := Lib.hid (show pb < eb from HPL.out)
      have d6 := I6.out.cell 6
      have d7 := I6.out.cell 7
      have g6 := I6.out.free 6
      have g7 := I6.out.free 7
      simp [Pk.cls] at d6 d7
      go_upto_region 10 with (fail)
      generalize hT : World.setCell _ _ _ = T
      have I7 := Lib.hid (show Is T pb 29 (Pk.cls { p with hasExt := true, profile := wp } vc (.slice Ae ne ce) vp) from by
        rw [← hT]
        exact (I6.out.put 6 (.bool true)).put 7 (.int .u16 (wp : Nat)))
      have Q7 := Lib.hid (show Only (fun k => k = pb) w6 T from by
        rw [← hT]
        exact ((Only.refl (fun k => k = pb) w6).set (p := ⟨pb, 6, none⟩) (fun _ => rfl) _).set (p := ⟨pb, 7, none⟩) (fun _ => rfl) _)
      have R7 := Lib.hid (R6.out.trans Q7.out (fun i hi e => by have := HMB.out; omega))
      have K7 := Lib.hid (K6.out.only Q7.out (fun e => by have := HMB.out; omega))
      have E7 := Lib.hid (E6.out.only Q7.out (fun e => by have := HNE.out; omega))
      have SD7 := Lib.hid (owned_only D6.out Q7.out (fun k hk e => owned_off D6.out I6.out (by decide) (by rw [hk, e])))
      clear hT d6 d7 g6 g7
      go_upto_region 11 with (go_at_call 32; refine (HPU2.out _ _ (rdE_is (x := ⟨ix, mo⟩) E7.out (Src.of_own SD7.out))).mono ?_; rintro e w8 ⟨v8, rfl, hv8, ho8⟩; have O8 := Lib.hid ho8; have V8 := Lib.hid hv8; have I8 := Lib.hid (I7.out.only O8.out (by simp)); have d8 := I8.out.cell 8; have g8 := I8.out.free 8; simp [Pk.cls] at d8; obtain ⟨A8, c8, h8, -⟩ := own_slice hv8; subst h8; clear hv8 ho8)
      generalize hU : World.setCell _ _ _ = U
      have I9 := Lib.hid (show Is U pb 29 (q.cls vc (.slice A8 xo.length c8) vp) from by
        rw [← hU, HQ.out]
        exact I8.out.put 8 (.slice A8 xo.length c8))
      have Q9 := Lib.hid (show Only (fun k => k = pb) w8 U from by
        rw [← hU]
        exact (Only.refl (fun k => k = pb) w8).set (p := ⟨pb, 8, none⟩) (fun _ => rfl) _)
      have R9 := Lib.hid ((only_more R7.out O8.out).trans Q9.out (fun i hi e => by have := HMB.out; omega))
      have SX9 := Lib.hid (owned_only V8.out Q9.out (fun k hk e => owned_off V8.out I8.out (by decide) (by rw [hk, e])))
      have HV9 := Lib.hid (q.cls_one (vc := vc) (ve := .slice A8 xo.length c8) (vp := vp) HRD.out.s ⟨_, _, _, rfl⟩ (src_isSl HRD.out.p))
      have K9 := Lib.hid ((K7.out.only O8.out (by simp)).only Q9.out (fun e => by have := HMB.out; omega))
      clear hU d8 g8
      go_wp2_with (first
        | (refine wpList_load_want (o := ⟨some 44, _, _, _, _, _⟩) rfl _ _ rfl pb rfl _ _ _ I9.out Try.underlying29 rfl Try.sizeRp ?_)
        | (refine wpList_store_is (o := ⟨none, _, _, _, _, _⟩) rfl 29 _ _ rfl rb (q.cls vc (.slice A8 xo.length c8) vp) rfl rfl 29 zeroPk K9.out Try.sizeRp rfl HV9.out ?_; intro w10 hi10 ho10))
      have R10 := Lib.hid (R9.out.trans ho10 (fun i hi e => by have := HMB.out; omega))
      have X10 := Lib.hid (owned_only SX9.out ho10 (fun k hk e => owned_off SX9.out K9.out (by decide) (by rw [hk, e])))
      have V10 := Lib.hid (Src.of_own X10.out)
      have H10 := Lib.hid (HRD.out.only R10.out)
      refine bodyPost_ret (res_cell Try.results50 _ w10 rb 29 (q.cls vc (.slice A8 xo.length c8) vp) _ (.int .i64 0) rfl rfl hi10 Try.underlying29 rfl Try.sizeRp) rfl ⟨_, _, _, rfl, ?_, R10.out, fun B hB ho => ?_⟩
      · rw [HQ.out]
        exact ⟨H10.out.c, V10.out, H10.out.p, H10.out.s⟩
      · rw [HQ.out]
        exact ⟨(ho.only R10.out).1, owned_low X10.out (Nat.le_trans hB R7.out.size), (ho.only R10.out).2.2⟩
end Go.Proofs.Ytcgfmjdlningpaa
