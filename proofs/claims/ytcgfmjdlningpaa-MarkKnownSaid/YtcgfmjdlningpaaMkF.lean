/- mark: With, Of. Conditions: as each says. -/
import Derived.Test.YtcgfmjdlningpaaMkE
import Derived.Test.YtcgfmjdlningpaaExC
import Derived.Test.YtcgfmjdlningpaaExE
set_option linter.unusedVariables false
namespace Go.Proofs.Ytcgfmjdlningpaa
open Go.RowKit

theorem rdE_lit (w : World) (x : El) (v : Value) (hs : Src w v x.data) : RdE (w.alloc (.cells #[.int .u8 (x.id : Nat), v] 50)) (.slice (some ⟨w.heap.size, 0, none⟩) 1 1) [x] := by
  have h := Is.made w 50 #[.int .u8 (x.id : Nat), v]
  refine ⟨_, 1, rfl, Nat.le_refl _, fun _ => ⟨w.heap.size, 0, rfl, fun i z hz => ?_⟩⟩
  match i, hz with
  | 0, hz =>
    injection hz with hz
    subst hz
    exact ⟨v, ⟨h.cell 0, h.cell 1⟩, hs.of_only ((Only.refl _ w).alloc _)⟩
  | i + 1, hz => simp at hz
def withErr (id : Nat) (m : Mk) : Nat := if m.right = false then 40 else if id = 0 then 40 else 0
def withProf (id : Nat) : Nat := if id ≤ 14 then 48862 else 4096
def withPk (p : Pk) (id : Nat) (m : Mk) : Pk := if withErr id m = 0 then { p with hasExt := true, profile := withProf id, ext := exPut (decide (id ≤ 14)) [⟨id, m.enc⟩] } else p
theorem enc_len (m : Mk) : m.enc.length = 1 ∨ m.enc.length = 3 := by
  unfold Mk.enc
  cases m.lg
  · exact .inl rfl
  · exact .inr rfl
theorem form_none (m : Mk) : formE [⟨0, m.enc⟩] = .tuple #[.int .u16 0, .bool false] := by
  unfold formE
  simp [elOk]
theorem form_some (id : Nat) (m : Mk) (h : id ≠ 0) : formE [⟨id, m.enc⟩] = .tuple #[.int .u16 (withProf id : Nat), .bool true] := by
  have hl := enc_len m
  unfold formE withProf
  by_cases h14 : id ≤ 14
  · rw [if_pos (by simp [elOk]; omega), if_pos h14]
    rfl
  · rw [if_neg (by simp [elOk]; omega), if_pos (by simp [elOk]; omega), if_neg h14]
    rfl
theorem first_lt (m : Mk) (h : m.tid ≤ 7) : m.first < 256 := by
  unfold Mk.first
  have h1 : ∀ b n, bn b n ≤ n := fun b n => by cases b <;> simp [bn]
  have := h1 m.st 128
  have := h1 m.en 64
  have := h1 m.ind 32
  have := h1 m.dr 16
  have := h1 m.ba 8
  omega
theorem enc_byte (m : Mk) (hf : m.Fit) (h : m.tid ≤ 7) : ∀ y ∈ m.enc, y < 256 := by
  have h1 := first_lt m h
  have h2 := hf.lid
  have h3 := hf.tl
  unfold Mk.enc
  cases m.lg
  · simp; omega
  · simp; omega
theorem with_form (id : Nat) : formB (withProf id) ≠ 0 ∧ (formB (withProf id) == 1) = decide (id ≤ 14) ∧ withProf id < 65536 := by
  unfold withProf
  by_cases h : id ≤ 14
  · rw [if_pos h, decide_eq_true h]
    exact ⟨by decide, by decide, by decide⟩
  · rw [if_neg h, decide_eq_false h]
    exact ⟨by decide, by decide, by decide⟩
theorem with_all (id : Nat) (m : Mk) (h : id ≠ 0) : [(⟨id, m.enc⟩ : El)].all (elOk (decide (id ≤ 14))) = true := by
  have hl := enc_len m
  by_cases h14 : id ≤ 14
  · rw [decide_eq_true h14]
    simp [elOk]
    omega
  · rw [decide_eq_false h14]
    simp [elOk]
    omega
theorem with_err (id : Nat) (m : Mk) (h : id ≠ 0) : putErr (withProf id) [⟨id, m.enc⟩] = 0 := by
  obtain ⟨h1, h2, _⟩ := with_form id
  unfold putErr
  rw [if_neg h1, h2, if_pos (with_all id m h)]
theorem with_len (id : Nat) (m : Mk) (one : Bool) : (elsEnc one [⟨id, m.enc⟩]).length ≤ 5 := by
  have hl := enc_len m
  unfold elsEnc elEnc
  cases one <;> simp <;> omega

theorem putB_zero {out : List Nat} {w w' : World} {e : Ending} (h : ExPutEnd 0 out w e w') : PutB 0 out w e w' := by
  obtain ⟨ho, ⟨hne, _⟩ | ⟨_, v, rfl, hv⟩⟩ := h
  · exact absurd rfl hne
  · exact ⟨v, rfl, hv, ho⟩
def MkWith (q : Pk) (k : Nat) (w : World) (e : Ending) (w' : World) : Prop := ∃ vc ve vp, e = .returned (.tuple #[.agg (q.cls vc ve vp), .int .i64 (k : Nat)]) ∧ OwnPk w.heap.size q vc ve vp w' ∧ Only (fun _ => False) w w'
theorem OwnPk.far {B ob : Nat} {p : Pk} {vc ve vp : Value} {w w' : World} {cs : Array Value} (h : OwnPk B p vc ve vp w) (hi : Is w ob 33 cs) (ho : Only (fun k => k = ob) w w') : OwnPk B p vc ve vp w' :=
  ⟨owned_only h.1 ho (fun k hk e => owned_off h.1 hi (by decide) (by rw [hk, e])), owned_only h.2.1 ho (fun k hk e => owned_off h.2.1 hi (by decide) (by rw [hk, e])), owned_only h.2.2 ho (fun k hk e => owned_off h.2.2 hi (by decide) (by rw [hk, e]))⟩
theorem OwnPk.low {B B' : Nat} {p : Pk} {vc ve vp : Value} {w : World} (h : OwnPk B p vc ve vp w) (hB : B' ≤ B) : OwnPk B' p vc ve vp w := ⟨owned_low h.1 hB, owned_low h.2.1 hB, owned_low h.2.2 hB⟩

set_option maxRecDepth 100000 in
set_option maxHeartbeats 4000000 in
theorem mk_with (p : Pk) (id : Nat) (m : Mk) (vc ve vp : Value) (w : World) (hid : id < 256) (hmf : m.Fit) (hc : Rd .u32 w vc (nats p.csrc)) (hn0 : vc = .slice none 0 0 ∨ ∃ ad n c, vc = .slice (some ad) n c) (he : Src w ve p.ext) (hp : Src w vp p.pay) (hl : p.csrc.length ≤ 1000000 ∧ p.ext.length ≤ 1000000 ∧ p.pay.length ≤ 1000000) :
    Calls Try.prog 49 #[.agg (p.cls vc ve vp), .int .u8 id, .agg m.cells] w (MkWith (withPk p id m) (withErr id m) w) := by
  have HCP := Lib.hid (fun w' (ho : Only (fun _ => False) w w') => mk_copied p vc ve vp w' (hc.only ho (by simp)) hn0 (he.of_only ho) (hp.of_only ho) hl)
  have HPM := Lib.hid (fun w => mk_put m w)
  clear hc hn0 he hp hl
  have START : True := trivial
  cases hr : m.right
  · have e1 : withErr id m = 40 := by unfold withErr; rw [hr]; rfl
    have e2 : withPk p id m = p := by unfold withPk; rw [e1]; rfl
    have e3 : m.bad = 40 := by unfold Mk.bad; rw [hr]; rfl
    rw [e1, e2]
    rw [e3] at HPM
    clear e1 e2 e3 hr hmf hid
    generalize m.out = mo at *
    go_enter Try.func49, Try.ntmps49
    go_upto_region 1 with (fail)
    generalize hw0 : World.alloc (World.alloc (World.alloc _ _) _) _ = w0
    have HI := Lib.hid (show Is w0 w.heap.size 33 (p.cls vc ve vp) from by rw [← hw0]; exact ((Is.made w _ _).alloc _).alloc _)
    have HM := Lib.hid (show Is w0 (w.heap.size + 1) 69 m.cells from by rw [← hw0]; have := Is.made (w.alloc (.cells (p.cls vc ve vp) 33)) 69 m.cells; rw [World.size_alloc] at this; exact this.alloc _)
    have HO := Lib.hid (show Is w0 (w.heap.size + 2) 33 zeroPk from by rw [← hw0]; have := Is.made ((w.alloc (.cells (p.cls vc ve vp) 33)).alloc (.cells m.cells 69)) 33 zeroPk; rw [World.size_alloc, World.size_alloc] at this; exact this)
    have P0 := Lib.hid (show Only (fun _ => False) w w0 from by rw [← hw0]; exact (((Only.refl _ w).alloc _).alloc _).alloc _)
    obtain ⟨pb, hpb⟩ : ∃ k, w.heap.size = k := ⟨_, rfl⟩
    obtain ⟨mb, hmb⟩ : ∃ k, w.heap.size + 1 = k := ⟨_, rfl⟩
    obtain ⟨rb, hrb⟩ : ∃ k, w.heap.size + 2 = k := ⟨_, rfl⟩
    have HMB := Lib.hid (show w.heap.size ≤ rb from by omega)
    rw [hrb] at HO ⊢
    rw [hmb] at HM ⊢
    rw [hpb] at HI ⊢
    clear hw0 hmb hrb hpb
    go_upto_region 2 with (first
      | (refine wpList_load_want (o := ⟨some 14, _, _, _, _, _⟩) rfl _ _ rfl pb rfl _ _ _ HI.out Try.underlying33 rfl Try.sizePq ?_)
      | (go_at_call 79; refine (HCP.out _ P0.out).mono ?_; rintro e w1 ⟨vc1, ve1, vp1, rfl, hown1, ho1⟩; have O1 := Lib.hid ho1; have OW1 := Lib.hid hown1; have HV := Lib.hid (p.cls_one (own_isSl hown1.1) (own_isSl hown1.2.1) (own_isSl hown1.2.2)); clear ho1 hown1)
      | (refine wpList_store_is rfl 33 _ _ rfl w1.heap.size (p.cls vc1 ve1 vp1) rfl rfl 33 zeroPk (Is.made _ _ zeroPk) Try.sizePq rfl HV.out ?_; intro w2 hi2 ho2))
    have I2 := Lib.hid hi2
    have O2 := Lib.hid (only_more O1.out (only_made ho2))
    have OW2 := Lib.hid ((OW1.out.only (only_made ho2)).low P0.out.size)
    have R2 := Lib.hid (only_more P0.out O2.out)
    have M2 := Lib.hid (HM.out.only O2.out (by simp))
    have K2 := Lib.hid (HO.out.only O2.out (by simp))
    have HOB := Lib.hid (show w.heap.size ≤ w1.heap.size ∧ rb < w1.heap.size from ⟨Nat.le_trans P0.out.size O1.out.size, Nat.lt_of_lt_of_le HO.out.lt O1.out.size⟩)
    generalize w1.heap.size = ob at *
    clear hi2 ho2
    go_upto_region 3 with (first
      | (refine wpList_load_want (o := ⟨some 17, _, _, _, _, _⟩) rfl _ _ rfl mb rfl _ _ _ M2.out Try.underlying69 rfl Try.sizeMk ?_)
      | (go_at_call 40; refine (HPM.out _).mono ?_; rintro e w3 ⟨vd, rfl, hvd, ho3⟩; have D3 := Lib.hid (owned_low hvd R2.out.size); have O3 := Lib.hid ho3; obtain ⟨Ad, cd, hds, -⟩ := own_slice hvd; subst hds; clear hvd ho3))
    go_wp2_with (first
      | (refine wpList_load_want (o := ⟨some 23, _, _, _, _, _⟩) rfl _ _ rfl ob rfl _ _ _ (I2.out.only O3.out (by simp)) Try.underlying33 rfl Try.sizePq ?_)
      | (refine wpList_store_is (o := ⟨none, _, _, _, _, _⟩) rfl 33 _ _ rfl rb (p.cls vc1 ve1 vp1) rfl rfl 33 zeroPk (K2.out.only O3.out (by simp)) Try.sizePq rfl HV.out ?_; intro w4 hi4 ho4))
    exact bodyPost_ret (res_cell Try.results49 _ w4 rb 33 (p.cls vc1 ve1 vp1) _ (.int .i64 40) rfl rfl hi4 Try.underlying33 rfl Try.sizePq) rfl ⟨_, _, _, rfl, (OW2.out.only O3.out).far (K2.out.only O3.out (by simp)) ho4, (only_more R2.out O3.out).trans ho4 (fun i hi e => by have := HMB.out; omega)⟩
  · have e3 : m.bad = 0 := by unfold Mk.bad; rw [hr]; rfl
    have e4 : m.out = m.enc := by unfold Mk.out; rw [hr]; rfl
    rw [e3, e4] at HPM
    have h7 : m.tid ≤ 7 := by
      unfold Mk.right at hr
      simp at hr
      exact hr.1
    have HEB := Lib.hid (enc_byte m hmf h7)
    have HEL := Lib.hid (enc_len m)
    by_cases h0 : id = 0
    · have e1 : withErr id m = 40 := by unfold withErr; rw [hr, h0]; rfl
      have e2 : withPk p id m = p := by unfold withPk; rw [e1]; rfl
      rw [e1, e2]
      have HFO := Lib.hid (fun v w (h : RdE w v [⟨id, m.enc⟩]) => form_is v [⟨id, m.enc⟩] w h (by simp; exact hid) (by simp) (by simp; have := HEL.out; omega))
      rw [show formE [⟨id, m.enc⟩] = .tuple #[.int .u16 0, .bool false] from by rw [h0]; exact form_none m] at HFO
      clear e1 e2 e3 e4 hr hmf h7 h0
      generalize m.enc = mo at *
      go_enter Try.func49, Try.ntmps49
      go_upto_region 1 with (fail)
      generalize hw0 : World.alloc (World.alloc (World.alloc _ _) _) _ = w0
      have HI := Lib.hid (show Is w0 w.heap.size 33 (p.cls vc ve vp) from by rw [← hw0]; exact ((Is.made w _ _).alloc _).alloc _)
      have HM := Lib.hid (show Is w0 (w.heap.size + 1) 69 m.cells from by rw [← hw0]; have := Is.made (w.alloc (.cells (p.cls vc ve vp) 33)) 69 m.cells; rw [World.size_alloc] at this; exact this.alloc _)
      have HO := Lib.hid (show Is w0 (w.heap.size + 2) 33 zeroPk from by rw [← hw0]; have := Is.made ((w.alloc (.cells (p.cls vc ve vp) 33)).alloc (.cells m.cells 69)) 33 zeroPk; rw [World.size_alloc, World.size_alloc] at this; exact this)
      have P0 := Lib.hid (show Only (fun _ => False) w w0 from by rw [← hw0]; exact (((Only.refl _ w).alloc _).alloc _).alloc _)
      obtain ⟨pb, hpb⟩ : ∃ k, w.heap.size = k := ⟨_, rfl⟩
      obtain ⟨mb, hmb⟩ : ∃ k, w.heap.size + 1 = k := ⟨_, rfl⟩
      obtain ⟨rb, hrb⟩ : ∃ k, w.heap.size + 2 = k := ⟨_, rfl⟩
      have HMB := Lib.hid (show w.heap.size ≤ rb from by omega)
      rw [hrb] at HO ⊢
      rw [hmb] at HM ⊢
      rw [hpb] at HI ⊢
      clear hw0 hmb hrb hpb
      go_upto_region 2 with (first
        | (refine wpList_load_want (o := ⟨some 14, _, _, _, _, _⟩) rfl _ _ rfl pb rfl _ _ _ HI.out Try.underlying33 rfl Try.sizePq ?_)
        | (go_at_call 79; refine (HCP.out _ P0.out).mono ?_; rintro e w1 ⟨vc1, ve1, vp1, rfl, hown1, ho1⟩; have O1 := Lib.hid ho1; have OW1 := Lib.hid hown1; have HV := Lib.hid (p.cls_one (own_isSl hown1.1) (own_isSl hown1.2.1) (own_isSl hown1.2.2)); clear ho1 hown1)
        | (refine wpList_store_is rfl 33 _ _ rfl w1.heap.size (p.cls vc1 ve1 vp1) rfl rfl 33 zeroPk (Is.made _ _ zeroPk) Try.sizePq rfl HV.out ?_; intro w2 hi2 ho2))
      have I2 := Lib.hid hi2
      have O2 := Lib.hid (only_more O1.out (only_made ho2))
      have OW2 := Lib.hid ((OW1.out.only (only_made ho2)).low P0.out.size)
      have R2 := Lib.hid (only_more P0.out O2.out)
      have M2 := Lib.hid (HM.out.only O2.out (by simp))
      have K2 := Lib.hid (HO.out.only O2.out (by simp))
      have HOB := Lib.hid (show w.heap.size ≤ w1.heap.size ∧ rb < w1.heap.size from ⟨Nat.le_trans P0.out.size O1.out.size, Nat.lt_of_lt_of_le HO.out.lt O1.out.size⟩)
      generalize w1.heap.size = ob at *
      clear hi2 ho2
      go_upto_region 3 with (first
        | (refine wpList_load_want (o := ⟨some 17, _, _, _, _, _⟩) rfl _ _ rfl mb rfl _ _ _ M2.out Try.underlying69 rfl Try.sizeMk ?_)
        | (go_at_call 40; refine (HPM.out _).mono ?_; rintro e w3 ⟨vd, rfl, hvd, ho3⟩; have D3 := Lib.hid (owned_low hvd R2.out.size); have O3 := Lib.hid ho3; obtain ⟨Ad, cd, hds, -⟩ := own_slice hvd; subst hds; clear hvd ho3))
      have R3 := Lib.hid (only_more R2.out O3.out)
      go_upto_region 7 with (first
        | (refine wpList_store_is rfl 50 _ _ rfl w3.heap.size #[.int .u8 (id : Nat), .slice Ad mo.length cd] rfl rfl 50 zeroE (Is.made _ _ zeroE) Try.sizeEl rfl (by simp [Value.oneCell']) ?_; intro w5 hi5 ho5; have I5 := Lib.hid hi5; have O5 := Lib.hid (only_made ho5); clear hi5 ho5)
        | (refine wpList_load_want (o := ⟨some 29, _, _, _, _, _⟩) rfl _ _ rfl w3.heap.size rfl _ _ _ I5.out Try.underlying50 rfl Try.sizeEl ?_)
        | (go_at_call 37; refine (HFO.out _ _ (rdE_lit w5 ⟨id, mo⟩ (.slice Ad mo.length cd) (Src.of_own (own_only D3.out O5.out (by simp))))).mono ?_; rintro e w6 ⟨rfl, ho6⟩; have O6 := Lib.hid (only_more ((Only.refl _ w5).alloc _) ho6); clear ho6))
      have O36 := Lib.hid (only_more O5.out O6.out)
      have O26 := Lib.hid (only_more O3.out O36.out)
      have I6 := Lib.hid (I2.out.only O26.out (by simp))
      have K6 := Lib.hid (K2.out.only O26.out (by simp))
      have OW6 := Lib.hid (OW2.out.only O26.out)
      have R6 := Lib.hid (only_more R2.out O26.out)
      have E6 := Lib.hid (I5.out.only O6.out (by simp))
      have D6 := Lib.hid (own_only D3.out O36.out (by simp))
      have HNE := Lib.hid (show rb < ob ∧ ob < w3.heap.size from ⟨HOB.out.2, Nat.lt_of_lt_of_le I2.out.lt O3.out.size⟩)
      generalize w3.heap.size = eb at *
      go_wp2_with (first
        | (refine wpList_load_want (o := ⟨some 36, _, _, _, _, _⟩) rfl _ _ rfl ob rfl _ _ _ I6.out Try.underlying33 rfl Try.sizePq ?_)
        | (refine wpList_store_is (o := ⟨none, _, _, _, _, _⟩) rfl 33 _ _ rfl rb (p.cls vc1 ve1 vp1) rfl rfl 33 zeroPk K6.out Try.sizePq rfl HV.out ?_; intro w8 hi8 ho8))
      exact bodyPost_ret (res_cell Try.results49 _ w8 rb 33 (p.cls vc1 ve1 vp1) _ (.int .i64 40) rfl rfl hi8 Try.underlying33 rfl Try.sizePq) rfl ⟨_, _, _, rfl, OW6.out.far K6.out ho8, R6.out.trans ho8 (fun i hi e => by have := HMB.out; omega)⟩
    · have e1 : withErr id m = 0 := by unfold withErr; rw [hr, if_neg (by simp), if_neg h0]
      have HQ := Lib.hid (show withPk p id m = { p with hasExt := true, profile := withProf id, ext := exPut (decide (id ≤ 14)) [⟨id, m.enc⟩] } from by unfold withPk; rw [e1]; rfl)
      rw [e1]
      have HFO := Lib.hid (fun v w (h : RdE w v [⟨id, m.enc⟩]) => form_is v [⟨id, m.enc⟩] w h (by simp; exact hid) (by simp) (by simp; have := HEL.out; omega))
      rw [form_some id m h0] at HFO
      obtain ⟨f1, f2, f3⟩ := with_form id
      have HPU := Lib.hid (fun v w (h : RdE w v [⟨id, m.enc⟩]) => exput_any (withProf id) v [⟨id, m.enc⟩] w h f3 (by simp; exact ⟨hid, HEB.out⟩) (by simp) (by simp; have := HEL.out; omega) (fun _ => by have := with_len id m (formB (withProf id) == 1); omega))
      rw [with_err id m h0, f2] at HPU
      have HPU2 := Lib.hid (fun v w h => (HPU.out v w h).mono (fun _ _ k => putB_zero k))
      clear HPU
      obtain ⟨xo, hxo⟩ : ∃ l, exPut (decide (id ≤ 14)) [⟨id, m.enc⟩] = l := ⟨_, rfl⟩
      rw [hxo] at HPU2 HQ
      generalize withProf id = wp at *
      generalize m.enc = mo at *
      generalize hqk : withPk p id m = q at *
      clear e1 e3 e4 hr hmf h7 h0 f1 f2 f3 hxo hqk
      go_enter Try.func49, Try.ntmps49
      go_upto_region 1 with (fail)
      generalize hw0 : World.alloc (World.alloc (World.alloc _ _) _) _ = w0
      have HI := Lib.hid (show Is w0 w.heap.size 33 (p.cls vc ve vp) from by rw [← hw0]; exact ((Is.made w _ _).alloc _).alloc _)
      have HM := Lib.hid (show Is w0 (w.heap.size + 1) 69 m.cells from by rw [← hw0]; have := Is.made (w.alloc (.cells (p.cls vc ve vp) 33)) 69 m.cells; rw [World.size_alloc] at this; exact this.alloc _)
      have HO := Lib.hid (show Is w0 (w.heap.size + 2) 33 zeroPk from by rw [← hw0]; have := Is.made ((w.alloc (.cells (p.cls vc ve vp) 33)).alloc (.cells m.cells 69)) 33 zeroPk; rw [World.size_alloc, World.size_alloc] at this; exact this)
      have P0 := Lib.hid (show Only (fun _ => False) w w0 from by rw [← hw0]; exact (((Only.refl _ w).alloc _).alloc _).alloc _)
      obtain ⟨pb, hpb⟩ : ∃ k, w.heap.size = k := ⟨_, rfl⟩
      obtain ⟨mb, hmb⟩ : ∃ k, w.heap.size + 1 = k := ⟨_, rfl⟩
      obtain ⟨rb, hrb⟩ : ∃ k, w.heap.size + 2 = k := ⟨_, rfl⟩
      have HMB := Lib.hid (show w.heap.size ≤ rb from by omega)
      rw [hrb] at HO ⊢
      rw [hmb] at HM ⊢
      rw [hpb] at HI ⊢
      clear hw0 hmb hrb hpb
      go_upto_region 2 with (first
        | (refine wpList_load_want (o := ⟨some 14, _, _, _, _, _⟩) rfl _ _ rfl pb rfl _ _ _ HI.out Try.underlying33 rfl Try.sizePq ?_)
        | (go_at_call 79; refine (HCP.out _ P0.out).mono ?_; rintro e w1 ⟨vc1, ve1, vp1, rfl, hown1, ho1⟩; have O1 := Lib.hid ho1; have OW1 := Lib.hid hown1; have HV := Lib.hid (p.cls_one (own_isSl hown1.1) (own_isSl hown1.2.1) (own_isSl hown1.2.2)); clear ho1 hown1)
        | (refine wpList_store_is rfl 33 _ _ rfl w1.heap.size (p.cls vc1 ve1 vp1) rfl rfl 33 zeroPk (Is.made _ _ zeroPk) Try.sizePq rfl HV.out ?_; intro w2 hi2 ho2))
      have I2 := Lib.hid hi2
      have O2 := Lib.hid (only_more O1.out (only_made ho2))
      have OW2 := Lib.hid ((OW1.out.only (only_made ho2)).low P0.out.size)
      have R2 := Lib.hid (only_more P0.out O2.out)
      have M2 := Lib.hid (HM.out.only O2.out (by simp))
      have K2 := Lib.hid (HO.out.only O2.out (by simp))
      have HOB := Lib.hid (show w.heap.size ≤ w1.heap.size ∧ rb < w1.heap.size from ⟨Nat.le_trans P0.out.size O1.out.size, Nat.lt_of_lt_of_le HO.out.lt O1.out.size⟩)
      generalize w1.heap.size = ob at *
      clear hi2 ho2
      go_upto_region 3 with (first
        | (refine wpList_load_want (o := ⟨some 17, _, _, _, _, _⟩) rfl _ _ rfl mb rfl _ _ _ M2.out Try.underlying69 rfl Try.sizeMk ?_)
        | (go_at_call 40; refine (HPM.out _).mono ?_; rintro e w3 ⟨vd, rfl, hvd, ho3⟩; have D3 := Lib.hid (owned_low hvd R2.out.size); have O3 := Lib.hid ho3; obtain ⟨Ad, cd, hds, -⟩ := own_slice hvd; subst hds; clear hvd ho3))
      have R3 := Lib.hid (only_more R2.out O3.out)
      go_upto_region 7 with (first
        | (refine wpList_store_is rfl 50 _ _ rfl w3.heap.size #[.int .u8 (id : Nat), .slice Ad mo.length cd] rfl rfl 50 zeroE (Is.made _ _ zeroE) Try.sizeEl rfl (by simp [Value.oneCell']) ?_; intro w5 hi5 ho5; have I5 := Lib.hid hi5; have O5 := Lib.hid (only_made ho5); clear hi5 ho5)
        | (refine wpList_load_want (o := ⟨some 29, _, _, _, _, _⟩) rfl _ _ rfl w3.heap.size rfl _ _ _ I5.out Try.underlying50 rfl Try.sizeEl ?_)
        | (go_at_call 37; refine (HFO.out _ _ (rdE_lit w5 ⟨id, mo⟩ (.slice Ad mo.length cd) (Src.of_own (own_only D3.out O5.out (by simp))))).mono ?_; rintro e w6 ⟨rfl, ho6⟩; have O6 := Lib.hid (only_more ((Only.refl _ w5).alloc _) ho6); clear ho6))
      have O36 := Lib.hid (only_more O5.out O6.out)
      have O26 := Lib.hid (only_more O3.out O36.out)
      have I6 := Lib.hid (I2.out.only O26.out (by simp))
      have K6 := Lib.hid (K2.out.only O26.out (by simp))
      have OW6 := Lib.hid (OW2.out.only O26.out)
      have R6 := Lib.hid (only_more R2.out O26.out)
      have E6 := Lib.hid (I5.out.only O6.out (by simp))
      have D6 := Lib.hid (own_only D3.out O36.out (by simp))
      have HNE := Lib.hid (show rb < ob ∧ ob < w3.heap.size from ⟨HOB.out.2, Nat.lt_of_lt_of_le I2.out.lt O3.out.size⟩)
      generalize w3.heap.size = eb at *
      have d6 := I6.out.cell 6
      have d7 := I6.out.cell 7
      have g6 := I6.out.free 6
      have g7 := I6.out.free 7
      simp [Pk.cls] at d6 d7
      go_upto_region 10 with (fail)
      generalize hT : World.setCell _ _ _ = T
      have I7 := Lib.hid (show Is T ob 33 (Pk.cls { p with hasExt := true, profile := wp } vc1 ve1 vp1) from by
        rw [← hT]
        exact (I6.out.put 6 (.bool true)).put 7 (.int .u16 (wp : Nat)))
      have Q7 := Lib.hid (show Only (fun k => k = ob) w6 T from by
        rw [← hT]
        exact ((Only.refl (fun k => k = ob) w6).set (p := ⟨ob, 6, none⟩) (fun _ => rfl) _).set (p := ⟨ob, 7, none⟩) (fun _ => rfl) _)
      have R7 := Lib.hid (R6.out.trans Q7.out (fun i hi e => by have := HOB.out; omega))
      have OW7 := Lib.hid (OW6.out.far I6.out Q7.out)
      have K7 := Lib.hid (K6.out.only Q7.out (fun e => by have := HNE.out; omega))
      have E7 := Lib.hid (E6.out.only Q7.out (fun e => by have := HNE.out; omega))
      have SD7 := Lib.hid (owned_only D6.out Q7.out (fun k hk e => owned_off D6.out I6.out (by decide) (by rw [hk, e])))
      clear hT d6 d7 g6 g7
      go_upto_region 11 with (first
        | (refine wpList_load_want (o := ⟨some 42, _, _, _, _, _⟩) rfl _ _ rfl eb rfl _ _ _ E7.out Try.underlying50 rfl Try.sizeEl ?_)
        | (go_at_call 35; refine (HPU2.out _ _ (rdE_lit T ⟨id, mo⟩ (.slice Ad mo.length cd) (Src.of_own SD7.out))).mono ?_; rintro e w8 ⟨v8, rfl, hv8, ho8⟩; have O8 := Lib.hid (only_more ((Only.refl _ T).alloc _) ho8); have V8 := Lib.hid (owned_low hv8 (show T.heap.size ≤ _ by simp)); have I8 := Lib.hid (I7.out.only O8.out (by simp)); have d8 := I8.out.cell 8; have g8 := I8.out.free 8; simp [Pk.cls] at d8; obtain ⟨A8, c8, h8, -⟩ := own_slice hv8; subst h8; clear hv8 ho8))
      generalize hU : World.setCell _ _ _ = U
      have I9 := Lib.hid (show Is U ob 33 (q.cls vc1 (.slice A8 xo.length c8) vp1) from by
        rw [← hU, HQ.out]
        exact I8.out.put 8 (.slice A8 xo.length c8))
      have Q9 := Lib.hid (show Only (fun k => k = ob) w8 U from by
        rw [← hU]
        exact (Only.refl (fun k => k = ob) w8).set (p := ⟨ob, 8, none⟩) (fun _ => rfl) _)
      have OW8 := Lib.hid (OW7.out.only O8.out)
      have OW9 := Lib.hid (show OwnPk w.heap.size q vc1 (.slice A8 xo.length c8) vp1 U from by
        rw [HQ.out]
        exact ⟨owned_only OW8.out.1 Q9.out (fun k hk e => owned_off OW8.out.1 I8.out (by decide) (by rw [hk, e])), owned_only (owned_low V8.out R7.out.size) Q9.out (fun k hk e => owned_off V8.out I8.out (by decide) (by rw [hk, e])), owned_only OW8.out.2.2 Q9.out (fun k hk e => owned_off OW8.out.2.2 I8.out (by decide) (by rw [hk, e]))⟩)
      have HV9 := Lib.hid (q.cls_one (own_isSl OW9.out.1) (own_isSl OW9.out.2.1) (own_isSl OW9.out.2.2))
      have K9 := Lib.hid ((K7.out.only O8.out (by simp)).only Q9.out (fun e => by have := HNE.out; omega))
      have R9 := Lib.hid ((only_more R7.out O8.out).trans Q9.out (fun i hi e => by have := HOB.out; omega))
      clear hU d8 g8
      go_wp2_with (first
        | (refine wpList_load_want (o := ⟨some 48, _, _, _, _, _⟩) rfl _ _ rfl ob rfl _ _ _ I9.out Try.underlying33 rfl Try.sizePq ?_)
        | (refine wpList_store_is (o := ⟨none, _, _, _, _, _⟩) rfl 33 _ _ rfl rb (q.cls vc1 (.slice A8 xo.length c8) vp1) rfl rfl 33 zeroPk K9.out Try.sizePq rfl HV9.out ?_; intro w10 hi10 ho10))
      exact bodyPost_ret (res_cell Try.results49 _ w10 rb 33 (q.cls vc1 (.slice A8 xo.length c8) vp1) _ (.int .i64 0) rfl rfl hi10 Try.underlying33 rfl Try.sizePq) rfl ⟨_, _, _, rfl, OW9.out.far K9.out ho10, R9.out.trans ho10 (fun i hi e => by have := HMB.out; omega)⟩
/-- The marking that an extension holds. -/
def ofMk (p : Pk) (id : Nat) : Mk × Bool :=
  if p.hasExt = false then (Mk.zero, false)
  else if (parR p.profile p.ext).1 ≠ 0 then (Mk.zero, false)
  else match findEl id (parR p.profile p.ext).2 with
    | none => (Mk.zero, false)
    | some x => (mkOf x.data, decide (mkErr x.data = 0))
theorem ofMk_none {p : Pk} {id : Nat} (h : p.hasExt = false ∨ (parR p.profile p.ext).1 ≠ 0 ∨ findEl id (parR p.profile p.ext).2 = none) : ofMk p id = (Mk.zero, false) := by
  unfold ofMk
  by_cases h1 : p.hasExt = false
  · rw [if_pos h1]
  · rw [if_neg h1]
    by_cases h2 : (parR p.profile p.ext).1 ≠ 0
    · rw [if_pos h2]
    · rw [if_neg h2]
      rcases h with h | h | h
      · exact absurd h h1
      · exact absurd h h2
      · rw [h]
theorem ofMk_some {p : Pk} {id : Nat} {x : El} (h1 : p.hasExt = true) (h2 : (parR p.profile p.ext).1 = 0) (h3 : findEl id (parR p.profile p.ext).2 = some x) : ofMk p id = (mkOf x.data, decide (mkErr x.data = 0)) := by
  unfold ofMk
  rw [if_neg (by rw [h1]; simp), if_neg (by rw [h2]; simp), h3]
def MkOfEnd (r : Mk × Bool) (w : World) (e : Ending) (w' : World) : Prop := e = .returned (.tuple #[.agg r.1.cells, .bool r.2]) ∧ Only (fun _ => False) w w'

theorem expar_ids (one : Bool) (bs : List Nat) (hb : ∀ x ∈ bs, x < 256) : ∀ x ∈ (exP one bs).2, x.id < 256 ∧ ∀ y ∈ x.data, y < 256 := by
  induction hn : bs.length using Nat.strongRecOn generalizing bs with
  | _ n ih =>
    cases bs with
    | nil => rw [exP_nil]; simp
    | cons b r =>
      rcases exKind_cases one b r with h | h | h | h | h
      · rw [exP_pad (by simp) h, show (b :: r).drop 1 = r from rfl]
        exact ih r.length (by rw [← hn, List.length_cons]; omega) r (fun x hx => hb x (by simp [hx])) rfl
      · rw [exP_end (by simp) h]; simp
      · rw [exP_bad (by simp) h]; simp
      · rw [exP_short (by simp) h]; simp
      · rw [exP_go (by simp) h]
        have hl := exLen_le h
        have := ih ((b :: r).drop (exLen one (b :: r))).length (by rw [← hn, List.length_drop]; omega) _ (fun x hx => hb x (List.mem_of_mem_drop hx)) rfl
        intro x hx
        rcases List.mem_cons.1 hx with rfl | hx
        · have hb0 := hb b (by simp)
          refine ⟨?_, fun y hy => ?_⟩
          · cases one
            · exact hb0
            · show b / 16 < 256
              omega
          · cases one
            · exact hb y (List.mem_cons_of_mem _ (List.mem_of_mem_drop (List.mem_of_mem_take hy)))
            · exact hb y (List.mem_cons_of_mem _ (List.mem_of_mem_take hy))
        · exact this x hx
theorem parR_ids (p : Nat) (bs : List Nat) (hb : ∀ x ∈ bs, x < 256) : (∀ x ∈ (parR p bs).2, x.id < 256 ∧ ∀ y ∈ x.data, y < 256) ∧ (parR p bs).2.length ≤ bs.length ∧ ∀ x ∈ (parR p bs).2, x.data.length ≤ bs.length := by
  unfold parR
  split
  · simp
  · split
    · simp
    · have h1 := exP_len (formB p == 1) bs
      exact ⟨expar_ids _ bs hb, h1.1, h1.2⟩

set_option maxRecDepth 100000 in
set_option maxHeartbeats 4000000 in
theorem mk_of (p : Pk) (id : Nat) (vc ve vp : Value) (w : World) (hid : id < 256) (hpr : p.profile < 65536) (hvc : isSl vc) (hvp : isSl vp) (he : Src w ve p.ext) (heb : ∀ x ∈ p.ext, x < 256) (hel : p.ext.length ≤ 100000) :
    Calls Try.prog 47 #[.agg (p.cls vc ve vp), .int .u8 id] w (MkOfEnd (ofMk p id) w) := by
  obtain ⟨Ac, nc, cc, rfl⟩ := hvc
  obtain ⟨Ap, np, cp, rfl⟩ := hvp
  obtain ⟨Ae, ce, rfl⟩ := he.slice
  obtain ⟨hi1, hi2, hi3⟩ := parR_ids p.profile p.ext heb
  have HPA := Lib.hid (fun w' (ho : Only (fun _ => False) w w') => expar_any p.profile (.slice Ae p.ext.length ce) p.ext w' (he.of_only ho) heb hpr hel)
  have HV := Lib.hid (Mk.one Mk.zero)
  have HI1 := Lib.hid (fun x hx => (hi1 x hx).1)
  have HI2 := Lib.hid (show (parR p.profile p.ext).2.length ≤ 1000000 from by omega)
  have HI3 := Lib.hid (show ∀ x ∈ (parR p.profile p.ext).2, x.data.length ≤ 1000000 from fun x hx => by have := hi3 x hx; omega)
  have HI4 := Lib.hid (fun x hx => (hi1 x hx).2)
  have HNO := Lib.hid (fun h => ofMk_none (p := p) (id := id) h)
  have HYE := Lib.hid (fun x h1 h2 h3 => ofMk_some (p := p) (id := id) (x := x) h1 h2 h3)
  clear he heb hel hi1 hi2 hi3
  generalize ofMk p id = r at *
  generalize (parR p.profile p.ext) = pr at *
  go_enter Try.func47, Try.ntmps47
  go_upto_region 1 with (fail)
  generalize hw0 : World.alloc (World.alloc _ _) _ = w0
  have HI := Lib.hid (show Is w0 w.heap.size 33 (p.cls (.slice Ac nc cc) (.slice Ae p.ext.length ce) (.slice Ap np cp)) from by rw [← hw0]; exact (Is.made w _ _).alloc _)
  have HO := Lib.hid (show Is w0 (w.heap.size + 1) 69 Mk.zero.cells from by rw [← hw0]; have := Is.made (w.alloc (.cells (p.cls (.slice Ac nc cc) (.slice Ae p.ext.length ce) (.slice Ap np cp)) 33)) 69 Mk.zero.cells; rw [World.size_alloc] at this; exact this)
  have P0 := Lib.hid (show Only (fun _ => False) w w0 from by rw [← hw0]; exact ((Only.refl _ w).alloc _).alloc _)
  obtain ⟨pb, hpb⟩ : ∃ k, w.heap.size = k := ⟨_, rfl⟩
  obtain ⟨rb, hrb⟩ : ∃ k, w.heap.size + 1 = k := ⟨_, rfl⟩
  have HMB := Lib.hid (show w.heap.size ≤ rb from by omega)
  rw [hrb] at HO ⊢
  rw [hpb] at HI ⊢
  clear hw0 hrb hpb
  have q6 := HI.out.cell 6
  have q7 := HI.out.cell 7
  have q8 := HI.out.cell 8
  simp [Pk.cls] at q6 q7 q8
  cases hx : p.hasExt
  · rw [hx] at q6
    have HR := Lib.hid (HNO.out (.inl hx))
    go_wp2_with (refine wpList_store_is (o := ⟨none, _, _, _, _, _⟩) rfl 69 _ _ rfl rb Mk.zero.cells rfl rfl 69 Mk.zero.cells HO.out Try.sizeMk rfl HV.out ?_; intro w4 hi4 ho4)
    exact bodyPost_ret (res_cell Try.results47 _ w4 rb 69 Mk.zero.cells _ (.bool false) rfl rfl hi4 Try.underlying69 rfl Try.sizeMk) rfl ⟨by rw [HR.out], P0.out.trans ho4 (fun i hi e => by have := HMB.out; omega)⟩
  · rw [hx] at q6
    have HX := Lib.hid hx
    clear hx
    by_cases h0 : pr.1 = 0
    · have HPB := Lib.hid (fun w' ho => (HPA.out w' ho).mono (fun e w'' (k : ExParEnd 50 pr w' e w'') => (show ∃ v vs, e = .returned (.tuple #[v, .int .i64 0]) ∧ Els w'' w'.heap.size 50 v vs pr.2 ∧ Only (fun _ => False) w' w'' from by
        obtain ⟨k1, ⟨k2, _⟩ | ⟨_, v, vs, k3, k4⟩⟩ := k
        · exact absurd h0 k2
        · exact ⟨v, vs, k3, k4, k1⟩)))
      have H0 := Lib.hid h0
      clear h0 HPA
      go_upto_region 6 with (go_at_call 25; refine (HPB.out _ P0.out).mono ?_; rintro e w1 ⟨v1, vs1, rfl, hE1, ho1⟩; have R1 := Lib.hid hE1.rd; have O1 := Lib.hid ho1; obtain ⟨A1, c1, h1, -⟩ := hE1.slice; subst h1; clear hE1 ho1)
      have K1 := Lib.hid (HO.out.only O1.out (by simp))
      clear q6 q7 q8
      have HFI := Lib.hid (find_is id (.slice A1 pr.2.length c1) pr.2 w1 R1.out HI1.out hid HI2.out HI3.out)
      cases hfi : findEl id pr.2
      · rw [hfi] at HFI
        have HR := Lib.hid (HNO.out (.inr (.inr hfi)))
        have HF2 := Lib.hid (HFI.out.mono (fun e w'' (k : FindEnd none w1 e w'') => (show e = .returned (.tuple #[.slice none 0 0, .bool false]) ∧ Only (fun _ => False) w1 w'' from by
          obtain ⟨k1, ⟨_, k2⟩ | ⟨x, k2, _⟩⟩ := k
          · exact ⟨k2, k1⟩
          · cases k2)))
        clear hfi HFI
        go_wp2_with (first
          | (go_at_call 36; refine HF2.out.mono ?_; rintro e w2 ⟨rfl, ho2⟩; have O2 := Lib.hid ho2; clear ho2)
          | (refine wpList_store_is (o := ⟨none, _, _, _, _, _⟩) rfl 69 _ _ rfl rb Mk.zero.cells rfl rfl 69 Mk.zero.cells (K1.out.only O2.out (by simp)) Try.sizeMk rfl HV.out ?_; intro w4 hi4 ho4))
        exact bodyPost_ret (res_cell Try.results47 _ w4 rb 69 Mk.zero.cells _ (.bool false) rfl rfl hi4 Try.underlying69 rfl Try.sizeMk) rfl ⟨by rw [HR.out], (only_more P0.out (only_more O1.out O2.out)).trans ho4 (fun i hi e => by have := HMB.out; omega)⟩
      · rename_i x
        rw [hfi] at HFI
        have HR := Lib.hid (HYE.out x HX.out H0.out hfi)
        have HXB := Lib.hid (HI4.out x (List.mem_of_find?_eq_some hfi))
        have HF2 := Lib.hid (HFI.out.mono (fun e w'' (k : FindEnd (some x) w1 e w'') => (show ∃ v, e = .returned (.tuple #[v, .bool true]) ∧ w''.ownsRow w1.heap.size 5 1 v x.data.length (cellsOf x.data) ∧ Only (fun _ => False) w1 w'' from by
          obtain ⟨k1, ⟨k2, _⟩ | ⟨y, k2, v, k3, k4⟩⟩ := k
          · cases k2
          · injection k2 with k2
            subst k2
            exact ⟨v, k3, k4, k1⟩)))
        clear hfi HFI
        have HVM := Lib.hid (Mk.one (mkOf x.data))
        have HEQ := Lib.hid (show ((mkErr x.data : Int) == 0) = decide (mkErr x.data = 0) from by rw [Bool.eq_iff_iff]; simp)
        have HPM := Lib.hid (fun v w (h : Src w v x.data) => mk_parse v x.data w h HXB.out)
        unfold MkParA at HPM
        generalize mkOf x.data = mo at *
        generalize decide (mkErr x.data = 0) = bo at *
        generalize mkErr x.data = me at *
        generalize x.data = dat at *
        go_upto_region 10 with (first
          | (go_at_call 36; refine HF2.out.mono ?_; rintro e w2 ⟨v2, rfl, hv2, ho2⟩; have V2 := Lib.hid (Src.of_own hv2); have O2 := Lib.hid ho2; clear hv2 ho2)
          | (go_at_call 44; refine (HPM.out _ _ V2.out).mono ?_; rintro e w3 ⟨rfl, ho3⟩; have O3 := Lib.hid ho3; clear ho3)
          | (refine wpList_store_is rfl 69 _ _ rfl w3.heap.size mo.cells rfl rfl 69 Mk.zero.cells (Is.made _ _ Mk.zero.cells) Try.sizeMk rfl HVM.out ?_; intro w4 hi4 ho4))
        have I4 := Lib.hid hi4
        have O4 := Lib.hid (only_more O2.out (only_more O3.out (only_made ho4)))
        have K4 := Lib.hid (K1.out.only O4.out (by simp))
        have heq := HEQ.out
        generalize w3.heap.size = ob at *
        clear hi4 ho4
        go_wp2_with (first
          | (refine wpList_load_want (o := ⟨some 40, _, _, _, _, _⟩) rfl _ _ rfl ob rfl _ _ _ I4.out Try.underlying69 rfl Try.sizeMk ?_)
          | (refine wpList_store_is (o := ⟨none, _, _, _, _, _⟩) rfl 69 _ _ rfl rb mo.cells rfl rfl 69 Mk.zero.cells K4.out Try.sizeMk rfl HVM.out ?_; intro w5 hi5 ho5))
        exact bodyPost_ret (res_cell Try.results47 _ w5 rb 69 mo.cells _ (.bool bo) rfl rfl hi5 Try.underlying69 rfl Try.sizeMk) rfl ⟨by rw [HR.out], (only_more P0.out (only_more O1.out O4.out)).trans ho5 (fun i hi e => by have := HMB.out; omega)⟩
    · have HPB := Lib.hid (fun w' ho => (HPA.out w' ho).mono (fun e w'' (k : ExParEnd 50 pr w' e w'') => (show e = .returned (.tuple #[.slice none 0 0, .int .i64 (pr.1 : Nat)]) ∧ Only (fun _ => False) w' w'' from by
        obtain ⟨k1, ⟨_, k2⟩ | ⟨k2, _⟩⟩ := k
        · exact ⟨k2, k1⟩
        · exact absurd k2 h0)))
      have HR := Lib.hid (HNO.out (.inr (.inl h0)))
      have ez : ((pr.1 : Int) != 0) = true := by simp; omega
      clear h0 HPA
      generalize pr.1 = pe at *
      go_wp2_with (first
        | (go_at_call 25; refine (HPB.out _ P0.out).mono ?_; rintro e w1 ⟨rfl, ho1⟩; have O1 := Lib.hid ho1; clear ho1)
        | (refine wpList_store_is (o := ⟨none, _, _, _, _, _⟩) rfl 69 _ _ rfl rb Mk.zero.cells rfl rfl 69 Mk.zero.cells (HO.out.only O1.out (by simp)) Try.sizeMk rfl HV.out ?_; intro w4 hi4 ho4))
      exact bodyPost_ret (res_cell Try.results47 _ w4 rb 69 Mk.zero.cells _ (.bool false) rfl rfl hi4 Try.underlying69 rfl Try.sizeMk) rfl ⟨by rw [HR.out], (only_more P0.out O1.out).trans ho4 (fun i hi e => by have := HMB.out; omega)⟩
end Go.Proofs.Ytcgfmjdlningpaa
