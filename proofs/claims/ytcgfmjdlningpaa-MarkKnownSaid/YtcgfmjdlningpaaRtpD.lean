/- Put: what is written. Conditions: as each says. -/
import Derived.Test.YtcgfmjdlningpaaRtpC
import Derived.Test.YtcgfmjdlningpaaBase
import Derived.Deep.RegionHeld3
import Derived.Deep.DrawnRows
set_option linter.unusedVariables false
namespace Go.Proofs.Ytcgfmjdlningpaa
open Go.RowKit

/-- Two bytes of a number; one. -/
def b2 (n : Nat) : List Nat := [n / 256 % 256, n % 256]
/-- What is written ahead of contributors. -/
def Pk.head (p : Pk) : List Nat := [p.first, p.second] ++ b2 p.seq ++ b4 p.time ++ b4 p.ssrc
def Pk.tail (p : Pk) : List Nat := if p.hasExt then b2 p.profile ++ b2 (p.ext.length / 4) ++ p.ext else []
/-- What is written. -/
def Pk.enc (p : Pk) : List Nat := p.head ++ p.csrc.flatMap b4 ++ p.tail ++ p.pay ++ padOf p.pad
def Pk.cells (p : Pk) (vc ve vp : Value) : Array Value := #[.bool p.marker, .int .u8 p.ty, .int .u16 p.seq, .int .u32 p.time, .int .u32 p.ssrc, vc, .bool p.hasExt, .int .u16 p.profile, ve, vp, .int .u8 p.pad]
theorem Try.sizePacket : (Try.prog.info? 33).map (·.size) = some 11 := by kernel_rfl

theorem Rd.slice {k : IntKind} {w : World} {v : Value} {zs : List Int} (h : Rd k w v zs) : ∃ A c, v = .slice A zs.length c := by
  obtain ⟨A, c, rfl, _⟩ := h
  exact ⟨A, c, rfl⟩

set_option maxRecDepth 100000 in
set_option maxHeartbeats 400000 in
theorem put_wrong (p : Pk) (vc ve vp : Value) (w : World) (hr : p.right = false) (hc : Rd .u32 w vc (nats p.csrc)) (he : Src w ve p.ext) (hp : Src w vp p.pay) (hcl : p.csrc.length ≤ 140737488355328) (hel : p.ext.length ≤ 140737488355328) :
    Calls Try.prog 52 #[p.val vc ve vp] w fun e w' => e = .returned (.tuple #[.slice none 0 0, .int .i64 2]) ∧ Pure w w' := by
  obtain ⟨Ac, cc, rfl⟩ := hc.slice
  obtain ⟨Ae, ce, rfl⟩ := he.slice
  obtain ⟨Ap, cp, rfl⟩ := hp.slice
  rw [nats_length]
  have HR := Lib.hid (fun w => right_is p Ac Ae Ap cc ce cp w hcl hel)
  rw [hr] at HR
  have HI := Lib.hid (Is.made w 33 (p.cells (.slice Ac p.csrc.length cc) (.slice Ae p.ext.length ce) (.slice Ap p.pay.length cp)))
  simp only [Pk.val, Pk.cells] at HI HR ⊢
  clear hc he hp hr hcl hel
  generalize p.csrc.length = lc at *
  generalize p.ext.length = le at *
  generalize p.pay.length = lp at *
  go_enter Try.func52, Try.ntmps52
  go_wp2_with (first | (refine wpList_load_row (o := ⟨some 8, _, _, _, _, _⟩) rfl _ _ rfl w.heap.size rfl _ _ _ _ HI.out Try.underlying33 rfl Try.sizePacket ?_) | (go_at_call 82; refine (HR.out _).mono ?_; rintro e w' ⟨rfl, ho⟩))
  go_ret2
  exact ⟨rfl, ((Only.refl _ w).alloc _).trans ho (fun _ _ e => e)⟩

theorem Out.size {w0 w : World} {ob : Nat} {bs : List Nat} (h : Out w0 w ob bs) : w0.heap.size ≤ w.heap.size := by
  obtain ⟨_, _, _, ho, _⟩ := h
  exact ho.size
theorem Out.is {w0 w : World} {ob b : Nat} {bs : List Nat} {t : TypeId} {cs : Array Value} (h : Out w0 w ob bs) (hi : Is w0 b t cs) : Is w b t cs := by
  obtain ⟨_, _, _, ho, _⟩ := h
  exact hi.only ho (by simp)
theorem Out.pure {w0 w w1 : World} {ob : Nat} {bs : List Nat} (h : Out w0 w ob bs) (ho : Pure w w1) : Out w0 w1 ob bs := by
  obtain ⟨v, hi, hw, hp, hob⟩ := h
  exact ⟨v, hi.only ho (by simp), hw.pure ho (by simp), hp.trans ho (fun _ _ e => e), hob⟩
theorem Out.same {w0 w : World} {ob : Nat} {bs cs : List Nat} (h : Out w0 w ob bs) (e : bs = cs) : Out w0 w ob cs := e ▸ h
theorem out_new {w0 w2 w3 : World} {n : Nat} (ho : Pure w0 w2) (hown : w3.ownsRow w0.heap.size 5 1 (.slice (some ⟨w2.heap.size, 0, none⟩) 0 n) 0 []) (hg : w2.grownBy w3 none) :
    Out w0 (w3.alloc (.cells #[.slice (some ⟨w2.heap.size, 0, none⟩) 0 n] 22)) w3.heap.size [] := by
  have h3 : Pure w0 w3 := ho.grown hg (by simp)
  exact ⟨_, Is.made _ _ _, hown.alloc _, h3.alloc _, h3.size⟩

theorem flat4 (xs : List Nat) : (xs.flatMap b4).length = 4 * xs.length := by
  induction xs with
  | nil => rfl
  | cons x xs ih => rw [List.flatMap_cons, List.length_append, ih, List.length_cons]; simp [b4]; omega
theorem flat4_snoc (k : Nat) (xs : List Nat) (h : k < xs.length) : (xs.take (k + 1)).flatMap b4 = (xs.take k).flatMap b4 ++ b4 xs[k] := by
  rw [List.take_succ_eq_append_getElem h, List.flatMap_append]
  simp
theorem Rd.at_ {k : IntKind} {w : World} {A : Option Addr} {n c : Nat} {zs : List Int} (h : Rd k w (.slice A n c) zs) (hp : 0 < zs.length) : ∃ g o, A = some ⟨g, o, none⟩ ∧ ∀ j (h : j < zs.length), w.cell? ⟨g, o + j, none⟩ = some (.int k zs[j]) := by
  obtain ⟨A', c', e, _, hc⟩ := h
  injection e with e1 e2 e3
  subst e1
  exact hc hp

theorem put_fin {w w0 wx wp wz : World} {vb vz : Value} {bs enc : List Nat} {pd : Nat} (P0 : Pure w w0) (WB : wx.ownsRow w0.heap.size 5 1 vb bs.length (cellsOf bs)) (PB : Pure w0 wx) (hop : Pure wx.drew wp)
    (hoz : wz.ownsRow w0.heap.size 5 1 vz (bs.length + (padOf pd).length) (cellsOf bs ++ cellsOf (padOf pd))) (hgb : wp.grownBy wz vb.ownBlock) (he : enc = bs ++ padOf pd) :
    wz.ownsRow w.heap.size 5 1 vz enc.length (cellsOf enc) ∧ Pure w wz := by
  subst he
  refine ⟨?_, P0.trans (T := fun _ => False) ((PB.drew.trans hop (fun _ _ e => e)).trans (T := fun k => vb.ownBlock = some k) ((Only.refl _ wp).grown hgb (fun i e _ => e)) ?_) (fun _ _ e => e)⟩
  · rw [List.length_append, cellsOf_append]
    exact hoz.low P0.size
  · intro i hi e
    have := (WB.lt i e).1
    omega

set_option maxRecDepth 100000 in
set_option maxHeartbeats 2000000 in
theorem put_right (p : Pk) (vc ve vp : Value) (w : World) (hf : p.Fit) (hr : p.right = true) (hc : Rd .u32 w vc (nats p.csrc)) (he : Src w ve p.ext) (hp : Src w vp p.pay) (hpl : p.pay.length ≤ 100000) :
    Calls Try.prog 52 #[p.val vc ve vp] w fun e w' => ∃ v, e = .returned (.tuple #[v, .int .i64 0]) ∧ w'.ownsRow w.heap.size 5 1 v p.enc.length (cellsOf p.enc) ∧ Pure w w' := by
  obtain ⟨Ac, cc, rfl⟩ := hc.slice
  obtain ⟨Ae, ce, rfl⟩ := he.slice
  obtain ⟨Ap, cp, rfl⟩ := hp.slice
  rw [nats_length] at hc ⊢
  have hrr : p.ty ≤ 127 ∧ p.csrc.length ≤ 15 ∧ p.ext.length % 4 = 0 ∧ p.ext.length ≤ 262140 ∧ (p.hasExt = true ∨ (p.profile = 0 ∧ p.ext.length = 0)) := by simpa [Pk.right] using hr
  obtain ⟨hty, hcl, hem, hel, _⟩ := hrr
  have HR := Lib.hid (fun w => right_is p Ac Ae Ap cc ce cp w (by omega) (by omega))
  rw [hr] at HR
  have HS := Lib.hid (fun w => size_is p Ac Ae Ap cc ce cp w (by omega) (by omega) (by omega) hf.pad)
  have HF1 := Lib.hid (fun w => first_is p Ac Ae Ap cc ce cp w (by omega))
  have HF2 := Lib.hid (fun w => second_is p (.slice Ac p.csrc.length cc) (.slice Ae p.ext.length ce) (.slice Ap p.pay.length cp) w hty)
  have hfb : p.first < 256 := by unfold Pk.first; split <;> split <;> omega
  have hsb : p.second < 256 := by unfold Pk.second; split <;> omega
  have hsz : p.size ≤ 1000000 := by have := hf.pad; unfold Pk.size; split <;> omega
  have HI := Lib.hid (Is.made w 33 (p.cells (.slice Ac p.csrc.length cc) (.slice Ae p.ext.length ce) (.slice Ap p.pay.length cp)))
  obtain ⟨f1, f2, f3, f4, f5, f6, f7, f8, f9⟩ := hf
  have HC := Lib.hid hc
  have HE := Lib.hid he
  have HP := Lib.hid hp
  have HCX := Lib.hid f5
  clear hc he hp hr f5 f7 f8
  obtain ⟨i0, hi, hz0, hz1, hz2⟩ := info_parts Try.infoU8
  have HEN := Lib.hid (show p.enc = p.head ++ p.csrc.flatMap b4 ++ p.tail ++ p.pay ++ padOf p.pad from rfl)
  have HHD := Lib.hid (show p.head = [p.first, p.second] ++ b2 p.seq ++ b4 p.time ++ b4 p.ssrc from rfl)
  have HTL := Lib.hid (show p.tail = if p.hasExt then b2 p.profile ++ b2 (p.ext.length / 4) ++ p.ext else [] from rfl)
  simp only [Pk.val, Pk.cells] at HI HR HS HF1 HF2 ⊢
  generalize p.enc = enc at *
  generalize p.head = hd at *
  generalize p.tail = tl at *
  generalize p.first = fb at *
  generalize p.second = sb at *
  generalize p.size = sz at *
  obtain ⟨m, ty, sq, tm, ss, cs, hx, pr, ex, py, pd⟩ := p
  simp only at *
  generalize hlc : cs.length = lc at *
  generalize hle : ex.length = le at *
  generalize hlp : py.length = lp at *
  have HLC := Lib.hid hlc
  have HLE := Lib.hid hle
  have HLP := Lib.hid hlp
  clear hlc hle hlp
  generalize hw0 : w.alloc (.cells #[.bool m, .int .u8 ty, .int .u16 sq, .int .u32 tm, .int .u32 ss, .slice Ac lc cc, .bool hx, .int .u16 pr, .slice Ae le ce, .slice Ap lp cp, .int .u8 pd] 33) = w0 at *
  have HW0 := Lib.hid hw0
  have hs0 : w.heap.size ≤ w0.heap.size := by rw [← hw0]; simp
  go_enter Try.func52, Try.ntmps52
  go_upto_region 1 with (fail)
  clear hw0
  go_upto_region 5 with (first | (refine wpList_load_row (o := ⟨some 8, _, _, _, _, _⟩) rfl _ _ rfl w.heap.size rfl _ _ _ _ HI.out Try.underlying33 rfl Try.sizePacket ?_) | (go_at_call 82; refine (HR.out _).mono ?_; rintro e w1 ⟨rfl, ho1⟩; have O1 := Lib.hid ho1; clear ho1) | (refine wpList_load_row (o := ⟨some 11, _, _, _, _, _⟩) rfl _ _ rfl w.heap.size rfl _ _ _ _ (HI.out.only O1.out (by simp)) Try.underlying33 rfl Try.sizePacket ?_) | (go_at_call 83; refine (HS.out _).mono ?_; rintro e w2 ⟨rfl, ho2⟩; have O2 := Lib.hid (O1.out.trans ho2 (fun _ _ e => e)); clear ho2) | (at_make; refine wpList_make_own _ rfl _ _ 22 rfl w0.heap.size 5 i0 (.int .u8 0) 1 Try.underlying22 hi hz0 hz1 .i64 .i64 _ sz rfl rfl rfl (by rw [hz2]; omega) (by unfold maxLen; omega) O2.out.size ?_; intro w3 hown hg; have HOUT := Lib.hid (out_new O2.out hown hg); clear hown hg))
  generalize hw4 : w3.alloc (.cells #[.slice (some ⟨w2.heap.size, 0, none⟩) 0 sz] 22) = w4 at *
  generalize w3.heap.size = ob at *
  clear hw4 O1 O2 HR HS
  go_wp2_with (first | (refine wpList_load_row (o := ⟨some 16, _, _, _, _, _⟩) rfl _ _ rfl w.heap.size rfl _ _ _ _ (HOUT.out.is HI.out) Try.underlying33 rfl Try.sizePacket ?_) | (go_at_call 86; refine (HF1.out _).mono ?_; rintro e w5 ⟨rfl, ho5⟩; have Q5 := Lib.hid (HOUT.out.pure ho5); clear ho5))
  refine (putc_is w0 _ ob fb 1 [] Q5.out (by omega) 1 (by simp) (by simp)).mono ?_
  rintro e w6 ⟨rfl, q6⟩
  have Q6 := Lib.hid q6
  clear q6 HOUT Q5
  go_wp2_with (first | (refine wpList_load_row (o := ⟨some 21, _, _, _, _, _⟩) rfl _ _ rfl w.heap.size rfl _ _ _ _ (Q6.out.is HI.out) Try.underlying33 rfl Try.sizePacket ?_) | (go_at_call 87; refine (HF2.out _).mono ?_; rintro e w7 ⟨rfl, ho7⟩; have Q7 := Lib.hid (Q6.out.pure ho7); clear ho7))
  refine (putc_is w0 _ ob sb 1 _ Q7.out (by omega) 1 (by simp) (by simp [b4])).mono ?_
  rintro e w8 ⟨rfl, q8⟩
  have c8 := (q8.is HI.out).cell 2
  simp at c8
  have Q8 := Lib.hid q8
  clear q8 Q6 Q7 HF1 HF2
  go_wp2_with fail
  refine (putc_is w0 _ ob sq 2 _ Q8.out (by omega) 2 (by simp) (by simp [b4])).mono ?_
  rintro e w9 ⟨rfl, q9⟩
  have c9 := (q9.is HI.out).cell 3
  simp at c9
  have Q9 := Lib.hid q9
  clear q9 Q8 c8
  go_wp2_with fail
  refine (putc_is w0 _ ob tm 4 _ Q9.out (by omega) 4 (by simp) (by simp [b4])).mono ?_
  rintro e w10 ⟨rfl, q10⟩
  have c10 := (q10.is HI.out).cell 4
  simp at c10
  have Q10 := Lib.hid q10
  clear q10 Q9 c9
  go_wp2_with fail
  refine (putc_is w0 _ ob ss 4 _ Q10.out (by omega) 4 (by simp) (by simp [b4])).mono ?_
  rintro e w11 ⟨rfl, q11⟩
  have c11 := (q11.is HI.out).cell 5
  simp at c11
  have Q11 := Lib.hid (q11.same (cs := hd) (by rw [HHD.out]; simp [b4, b2]; omega))
  clear q11 Q10 c10
  go_wp2
  clear c11
  have hh12 : hd.length = 12 := by rw [HHD.out]; simp [b4, b2]
  have HH := Lib.hid hh12
  have P0 := Lib.hid (show Pure w w0 from HW0.out ▸ (Only.refl _ w).alloc _)
  clear hh12
  go_loopw [41] (fun i wr => ∃ k : Nat, k ≤ lc ∧ i = .int .i64 k ∧ Out w0 wr ob (hd ++ (cs.take k).flatMap b4)) (fun i _ => lc - (intOf i).toNat)
  case atStart => exact ⟨0, by omega, rfl, Q11.out.same (by simp)⟩
  case round =>
    obtain ⟨k, hk, rfl, hq⟩ := hrel
    have HQ := Lib.hid hq
    clear hq Q11
    have hbl : (hd ++ (cs.take k).flatMap b4).length = 12 + 4 * k := by
      rw [List.length_append, HH.out, flat4, List.length_take, HLC.out]
      omega
    have HBL := Lib.hid hbl
    clear hbl
    by_cases hlt : k < lc
    · have hkx : k < cs.length := by rw [HLC.out]; exact hlt
      obtain ⟨g, o, rfl, hcl⟩ := HC.out.at_ (by rw [nats_length]; omega)
      have q0 := hcl k (by rw [nats_length]; exact hkx)
      have q1 : wr.cell? ⟨g, o + k, none⟩ = some (.int .u32 (cs[k] : Nat)) := by
        obtain ⟨_, _, _, hp, _⟩ := HQ.out
        rw [(P0.out.trans hp (fun _ _ e => e)).cell (World.block_lt_of_cell? w _ q0) (by simp), q0]
        simp [nats]
      have hxk := HCX.out _ (List.getElem_mem hkx)
      have hfl := flat4_snoc k cs hkx
      generalize cs[k] = x at *
      have HF := Lib.hid hfl
      clear q0 hcl hfl hkx
      go_wp2_with fail
      refine (putc_is w0 wr ob x 4 _ HQ.out hxk 4 (by simp) (by rw [HBL.out]; omega)).mono ?_
      rintro e w12 ⟨rfl, q12⟩
      have Q12 := Lib.hid (q12.same (cs := hd ++ (cs.take (k + 1)).flatMap b4) (by rw [HF.out, List.append_assoc]; rfl))
      clear q12 q1
      go_wp2
      go_roundw
      case rel => exact ⟨k + 1, by omega, by go_num, Q12.out⟩
      case measure => simp [intOf]; omega
    · have hkl : k = lc := by omega
      subst hkl
      obtain ⟨bs0, hbs0⟩ : ∃ bs0, bs0 = hd ++ (cs.take k).flatMap b4 := ⟨_, rfl⟩
      rw [← hbs0] at HQ HBL
      have HB0 := Lib.hid (show bs0 = hd ++ cs.flatMap b4 by rw [hbs0, List.take_of_length_le (by rw [HLC.out]; exact Nat.le_refl _)])
      clear hbs0
      have c6 := (HQ.out.is HI.out).cell 6
      have c7 := (HQ.out.is HI.out).cell 7
      simp at c6 c7
      cases hx
      · clear c7
        go_upto_region 19 with (fail)
        obtain ⟨va, hia, howna, hpa, hoba⟩ := HQ.out
        have caa := hia.cell 0
        have cba := (HQ.out.is HI.out).cell 9
        simp at caa cba
        have Ia := Lib.hid hia
        have Wa := Lib.hid howna
        have Pa := Lib.hid hpa
        have Sa := Lib.hid (HP.out.only (P0.out.trans hpa (fun _ _ e => e)) (by simp))
        clear hia howna hpa
        go_upto_region 20 with (at_builtin; refine wpList_append_src _ rfl (.tmp 67) (.tmp 69) rfl w0.heap.size va _ rfl Wa.out _ py rfl Sa.out (by rw [HBL.out, HLP.out]; omega) Pa.out.size ?_; intro ua xa hoa hga; obtain ⟨raa, rba, rca⟩ := out_close Ia.out Wa.out Pa.out hoba hoa hga; obtain ⟨Aa, za, rfl, _⟩ := own_slice hoa; have Ra := Lib.hid rca; clear rca hoa hga caa cba)
        generalize hwx : xa.setCell ⟨ob, 0, none⟩ (.slice Aa (bs0.length + py.length) za) = wx at *
        clear hwx raa rba Ia Wa Pa Sa hoba
        obtain ⟨vb, hib, hownb, hpb, hobb⟩ := Ra.out
        have cvb := hib.cell 0
        have cpd := (Ra.out.is HI.out).cell 10
        simp at cvb cpd
        have hbl := HBL.out
        have CV := Lib.hid cvb
        have CP := Lib.hid cpd
        have LTV := Lib.hid (World.block_lt_of_cell? wx _ cvb)
        have LTP := Lib.hid (World.block_lt_of_cell? wx _ cpd)
        have APV := Lib.hid (own_apart hib hownb (by decide))
        have APP := Lib.hid (own_apart (Ra.out.is HI.out) hownb (by decide))
        have IB := Lib.hid hib
        have WB := Lib.hid hownb
        have PB := Lib.hid hpb
        clear hib hownb hpb hbl
        go_region_held3 (fun w' => w'.cell? ⟨ob, 0, none⟩ = some vb ∧ w'.cell? ⟨w.heap.size, 10, none⟩ = some (.int .u8 pd)) (first | go_keep | exact ⟨(hop.cell LTV.out (by simp)).trans CV.out, (hop.cell LTP.out (by simp)).trans CP.out⟩ | exact ⟨(hgb.cell_far ⟨ob, 0, none⟩ (Nat.lt_of_lt_of_le LTV.out hop.size) APV.out.symm).trans ((hop.cell LTV.out (by simp)).trans CV.out), (hgb.cell_far ⟨w.heap.size, 10, none⟩ (Nat.lt_of_lt_of_le LTP.out hop.size) APP.out.symm).trans ((hop.cell LTP.out (by simp)).trans CP.out)⟩) (first | (go_at_call 88; refine (padding_is pd wx.drew w0.heap.size PB.out.drew.size f9).mono ?_; rintro e wp ⟨u, rfl, hu, hop, _⟩) | (refine step_append_src _ (by rfl) (.tmp 71) (.tmp 74) (by rfl) w0.heap.size vb _ (by rfl) (World.ownsRow.pure (w := wx.drew) WB.out hop (by simp)) u (padOf pd) (by rfl) (Src.of_own (by rw [← length_cellsOf]; exact hu)) (by rw [padOf_length, List.length_append, HBL.out, HLP.out]; omega) (Nat.le_trans PB.out.size hop.size) ?_; intro vz wz hoz hgb))
        go_wp2
        go_ret2
        have hfin := put_fin P0.out WB.out PB.out hop hoz hgb (enc := enc) (by rw [HEN.out, HTL.out, HB0.out]; simp)
        exact ⟨_, rfl, hfin.1, hfin.2⟩
      · go_wp2_with fail
        refine (putc_is w0 wr ob pr 2 _ HQ.out (by omega) 2 (by simp) (by rw [HBL.out]; omega)).mono ?_
        rintro e w12 ⟨rfl, q12⟩
        have c12 := (q12.is HI.out).cell 8
        simp at c12
        have e4 : ((le : Int) / 4) = ((le / 4 : Nat) : Int) := by omega
        have E4 := Lib.hid e4
        have Q12 := Lib.hid q12
        clear q12 c6 c7 e4
        go_wp2_with fail
        rw [E4.out]
        refine (putc_is w0 w12 ob (le / 4) 2 _ Q12.out (by omega) 2 (by simp) (by rw [List.length_append, HBL.out]; simp [b4]; omega)).mono ?_
        rintro e w13 ⟨rfl, q13⟩
        obtain ⟨bs1, hbs1⟩ : ∃ bs1, bs1 = bs0 ++ (b4 pr).drop (4 - 2) ++ (b4 (le / 4)).drop (4 - 2) := ⟨_, rfl⟩
        rw [← hbs1] at q13
        have HL1 := Lib.hid (show bs1.length = 16 + 4 * k by rw [hbs1, List.length_append, List.length_append, HBL.out]; simp [b4]; omega)
        have HB1 := Lib.hid hbs1
        have Q13 := Lib.hid q13
        clear q13 hbs1 c12 Q12
        go_upto_region 18 with (fail)
        obtain ⟨vc, hic, hownc, hpc, hobc⟩ := Q13.out
        have cac := hic.cell 0
        have cbc := (Q13.out.is HI.out).cell 8
        simp at cac cbc
        have Ic := Lib.hid hic
        have Wc := Lib.hid hownc
        have Pc := Lib.hid hpc
        have Sc := Lib.hid (HE.out.only (P0.out.trans hpc (fun _ _ e => e)) (by simp))
        clear hic hownc hpc
        go_upto_region 19 with (at_builtin; refine wpList_append_src _ rfl (.tmp 63) (.tmp 65) rfl w0.heap.size vc _ rfl Wc.out _ ex rfl Sc.out (by rw [HL1.out, HLE.out]; omega) Pc.out.size ?_; intro uc xc hoc hgc; obtain ⟨rac, rbc, rcc⟩ := out_close Ic.out Wc.out Pc.out hobc hoc hgc; obtain ⟨Ac_, zc, rfl, _⟩ := own_slice hoc; have Rc := Lib.hid rcc; clear rcc hoc hgc cac cbc)
        generalize hwc : xc.setCell ⟨ob, 0, none⟩ (.slice Ac_ (bs1.length + ex.length) zc) = wc at *
        clear hwc rac rbc Ic Wc Pc Sc hobc Q13
        obtain ⟨bs2, hbs2⟩ : ∃ bs2, bs2 = bs1 ++ ex := ⟨_, rfl⟩
        rw [← hbs2] at Rc
        have HL2 := Lib.hid (show bs2.length = 16 + 4 * k + le by rw [hbs2, List.length_append, HL1.out, HLE.out])
        have HB2 := Lib.hid hbs2
        clear hbs2
        obtain ⟨va, hia, howna, hpa, hoba⟩ := Rc.out
        have caa := hia.cell 0
        have cba := (Rc.out.is HI.out).cell 9
        simp at caa cba
        have Ia := Lib.hid hia
        have Wa := Lib.hid howna
        have Pa := Lib.hid hpa
        have Sa := Lib.hid (HP.out.only (P0.out.trans hpa (fun _ _ e => e)) (by simp))
        clear hia howna hpa
        go_upto_region 20 with (at_builtin; refine wpList_append_src _ rfl (.tmp 67) (.tmp 69) rfl w0.heap.size va _ rfl Wa.out _ py rfl Sa.out (by rw [HL2.out, HLP.out]; omega) Pa.out.size ?_; intro ua xa hoa hga; obtain ⟨raa, rba, rca⟩ := out_close Ia.out Wa.out Pa.out hoba hoa hga; obtain ⟨Aa, za, rfl, _⟩ := own_slice hoa; have Ra := Lib.hid rca; clear rca hoa hga caa cba)
        generalize hwx : xa.setCell ⟨ob, 0, none⟩ (.slice Aa (bs2.length + py.length) za) = wx at *
        clear hwx raa rba Ia Wa Pa Sa hoba
        obtain ⟨vb, hib, hownb, hpb, hobb⟩ := Ra.out
        have cvb := hib.cell 0
        have cpd := (Ra.out.is HI.out).cell 10
        simp at cvb cpd
        have hbl := HL2.out
        have CV := Lib.hid cvb
        have CP := Lib.hid cpd
        have LTV := Lib.hid (World.block_lt_of_cell? wx _ cvb)
        have LTP := Lib.hid (World.block_lt_of_cell? wx _ cpd)
        have APV := Lib.hid (own_apart hib hownb (by decide))
        have APP := Lib.hid (own_apart (Ra.out.is HI.out) hownb (by decide))
        have IB := Lib.hid hib
        have WB := Lib.hid hownb
        have PB := Lib.hid hpb
        clear hib hownb hpb hbl
        go_region_held3 (fun w' => w'.cell? ⟨ob, 0, none⟩ = some vb ∧ w'.cell? ⟨w.heap.size, 10, none⟩ = some (.int .u8 pd)) (first | go_keep | exact ⟨(hop.cell LTV.out (by simp)).trans CV.out, (hop.cell LTP.out (by simp)).trans CP.out⟩ | exact ⟨(hgb.cell_far ⟨ob, 0, none⟩ (Nat.lt_of_lt_of_le LTV.out hop.size) APV.out.symm).trans ((hop.cell LTV.out (by simp)).trans CV.out), (hgb.cell_far ⟨w.heap.size, 10, none⟩ (Nat.lt_of_lt_of_le LTP.out hop.size) APP.out.symm).trans ((hop.cell LTP.out (by simp)).trans CP.out)⟩) (first | (go_at_call 88; refine (padding_is pd wx.drew w0.heap.size PB.out.drew.size f9).mono ?_; rintro e wp ⟨u, rfl, hu, hop, _⟩) | (refine step_append_src _ (by rfl) (.tmp 71) (.tmp 74) (by rfl) w0.heap.size vb _ (by rfl) (World.ownsRow.pure (w := wx.drew) WB.out hop (by simp)) u (padOf pd) (by rfl) (Src.of_own (by rw [← length_cellsOf]; exact hu)) (by rw [padOf_length, List.length_append, HL2.out, HLP.out]; omega) (Nat.le_trans PB.out.size hop.size) ?_; intro vz wz hoz hgb))
        go_wp2
        go_ret2
        have hfin := put_fin P0.out WB.out PB.out hop hoz hgb (enc := enc) (by rw [HEN.out, HTL.out, HB2.out, HB1.out, HB0.out]; simp [b2, b4])
        exact ⟨_, rfl, hfin.1, hfin.2⟩
theorem Rd.pure {k : IntKind} {w w1 : World} {v : Value} {zs : List Int} (h : Rd k w v zs) (ho : Pure w w1) : Rd k w1 v zs := h.only ho (by simp)
theorem Src.pure {w w1 : World} {v : Value} {bs : List Nat} (h : Src w v bs) (ho : Pure w w1) : Src w1 v bs := h.later ho (by simp)
end Go.Proofs.Ytcgfmjdlningpaa
