/- mark: slices.Clone of numbers, copied. Conditions: as each says. -/
import Derived.Test.YtcgfmjdlningpaaMkB
import Derived.Test.YtcgfmjdlningpaaRtpF
set_option linter.unusedVariables false
namespace Go.Proofs.Ytcgfmjdlningpaa
open Go.RowKit

theorem Try.sizePq : (Try.prog.info? 33).map (·.size) = some 11 := by kernel_rfl
set_option maxRecDepth 100000 in
set_option maxHeartbeats 400000 in
theorem clone32_nil (w : World) : Calls Try.prog 96 #[.slice none 0 0] w fun e w' => e = .returned (.slice none 0 0) ∧ w = w' := by
  have hq := fun (w : World) => Lib.run_eql_slice_nil (P := Try.prog) w 27 26 none 0 0 0 0 Try.underlying27
  simp at hq
  go_enter Try.func96, Try.ntmps96
  go_wp2
  go_ret
  exact ⟨rfl, rfl⟩
/-- Numbers in new memory. -/
def Own32 (ns : List Nat) (w : World) (e : Ending) (w' : World) : Prop := ∃ v, e = .returned v ∧ w'.ownsRow w.heap.size 26 1 v ns.length (cells32 ns) ∧ Only (fun _ => False) w w'
set_option maxRecDepth 100000 in
set_option maxHeartbeats 400000 in
theorem clone32_some (a : Addr) (c : Nat) (ns : List Nat) (w : World) (hc : ∀ j u, (cells32 ns)[j]? = some u → w.cell? (a.add j) = some u) (hn : ns.length ≤ 1000000) :
    Calls Try.prog 96 #[.slice (some a) ns.length c] w (Own32 ns w) := by
  have hq := fun (w : World) => Lib.run_eql_slice_nil (P := Try.prog) w 27 26 (some a) ns.length c 0 0 Try.underlying27
  simp at hq
  obtain ⟨i0, hi, hz0, hz1, hz2⟩ := info_parts Try.infoU32
  have Hl := Lib.hid (show (cells32 ns).length = ns.length from length_cells32 ns)
  have H1 := Lib.hid (show ∀ u ∈ cells32 ns, u.oneCell' = true from by simp [cells32, Value.oneCell'])
  have Hz := Lib.hid (show ∀ j u, (cells32 ns)[j]? = some u → (w.alloc (.cells #[] 26)).cell? (a.add j) = some u from fun j u hu => Lib.cell?_alloc_some _ (hc j u hu))
  obtain ⟨news, hnews⟩ : ∃ x, cells32 ns = x := ⟨_, rfl⟩
  obtain ⟨n, hnn⟩ : ∃ n, ns.length = n := ⟨_, rfl⟩
  have HNW := Lib.hid hnews
  have HNL := Lib.hid hnn
  rw [hnews] at Hl H1 Hz
  rw [hnn] at Hl hn ⊢
  simp only [hnn] at hq
  clear hc hnews hnn
  go_enter Try.func96, Try.ntmps96
  go_wp2_with (at_builtin; refine wpList_append_own _ rfl _ _ 27 rfl w.heap.size 26 i0 (.int .u32 0) 1 4 Try.underlying27 hi hz0 hz1 hz2 rfl (by decide) _ 0 [] rfl (World.ownsRow_lit w #[] 0 (Nat.le_refl _) (by decide) rfl) a n c news rfl (by rw [Hl.out, Nat.mul_one]) Hz.out H1.out (by unfold maxLen; omega) (by omega) (by simp) ?_)
  intro v' w1 hown hg _
  go_wp2
  go_ret
  refine ⟨_, rfl, ?_, ?_⟩
  · rw [HNL.out, HNW.out]
    simpa using hown
  · exact ((Only.refl _ w).alloc _).grown hg (fun i hi hlt => by simp [Value.ownBlock] at hi; omega)
theorem clone32_is (v : Value) (ns : List Nat) (w : World) (hr : Rd .u32 w v (nats ns)) (hn0 : v = .slice none 0 0 ∨ ∃ ad n c, v = .slice (some ad) n c) (hn : ns.length ≤ 1000000) :
    Calls Try.prog 96 #[v] w (Own32 ns w) := by
  obtain ⟨A, c, rfl, hc, hh⟩ := hr
  rw [nats_length] at hc hn0 ⊢
  rcases hn0 with e | ⟨ad, n, c', e⟩
  · injection e with e1 e2 e3
    have e2' := e2
    obtain rfl := List.eq_nil_of_length_eq_zero e2
    subst e1 e3
    refine (clone32_nil w).mono ?_
    rintro e w' ⟨rfl, rfl⟩
    exact ⟨_, rfl, World.ownsRow_nil _ _ _ _, Only.refl _ _⟩
  · injection e with e1 e2 e3
    subst e1
    refine clone32_some ad c ns w (fun j u hu => ?_) hn
    have hj : j < ns.length := by rw [← length_cells32]; exact (List.getElem?_eq_some_iff.1 hu).1
    obtain ⟨b, o, e1, hcell⟩ := hh (by rw [nats_length]; omega)
    injection e1 with e1
    subst e1
    have h1 := hcell j (by rw [nats_length]; exact hj)
    rw [add_plain, h1, ← hu]
    simp [cells32, nats, hj]

def Pk.cls (p : Pk) (vc ve vp : Value) : Array Value := #[.bool p.marker, .int .u8 p.ty, .int .u16 p.seq, .int .u32 p.time, .int .u32 p.ssrc, vc, .bool p.hasExt, .int .u16 p.profile, ve, vp, .int .u8 p.pad]
def isSl (v : Value) : Prop := ∃ A n c, v = .slice A n c
theorem Pk.cls_one (p : Pk) {vc ve vp : Value} (h1 : isSl vc) (h2 : isSl ve) (h3 : isSl vp) : (p.cls vc ve vp).all (·.oneCell') = true := by
  obtain ⟨a1, a2, a3, rfl⟩ := h1
  obtain ⟨b1, b2, b3, rfl⟩ := h2
  obtain ⟨c1, c2, c3, rfl⟩ := h3
  simp [Pk.cls, Value.oneCell']
def zeroPk : Array Value := #[.bool false, .int .u8 0, .int .u16 0, .int .u32 0, .int .u32 0, .slice none 0 0, .bool false, .int .u16 0, .slice none 0 0, .slice none 0 0, .int .u8 0]
/-- A packet whose rows are its own. -/
def OwnPk (B : Nat) (p : Pk) (vc ve vp : Value) (w' : World) : Prop :=
  w'.ownsRow B 26 1 vc p.csrc.length (cells32 p.csrc) ∧ w'.ownsRow B 5 1 ve p.ext.length (cellsOf p.ext) ∧ w'.ownsRow B 5 1 vp p.pay.length (cellsOf p.pay)
theorem OwnPk.only {B : Nat} {p : Pk} {vc ve vp : Value} {w w' : World} (h : OwnPk B p vc ve vp w) (ho : Only (fun _ => False) w w') : OwnPk B p vc ve vp w' :=
  ⟨own_only h.1 ho (by simp), own_only h.2.1 ho (by simp), own_only h.2.2 ho (by simp)⟩
def GotCopy (p : Pk) (w : World) (e : Ending) (w' : World) : Prop := ∃ vc ve vp, e = .returned (.agg (p.cls vc ve vp)) ∧ OwnPk w.heap.size p vc ve vp w' ∧ Only (fun _ => False) w w'
theorem own_isSl {w : World} {B n : Nat} {t : TypeId} {v : Value} {xs : List Value} (h : w.ownsRow B t 1 v n xs) : isSl v := by
  rcases h.2 with ⟨rfl, rfl⟩ | ⟨g, cap, cur, rfl, _⟩
  · exact ⟨none, 0, 0, rfl⟩
  · exact ⟨_, _, _, rfl⟩
/-- A field of a packet is written. -/
theorem pk_set {w w0 : World} {g : Nat} {cs cs' : Array Value} (h : Is w g 33 cs) (i : Nat) (v : Value) (hd : cs.setIfInBounds i v = cs') : Is (w.setCell ⟨g, i, none⟩ v) g 33 cs' ∧ Only (fun k => k = g) w (w.setCell ⟨g, i, none⟩ v) := by
  rw [← hd]
  exact ⟨h.put i v, Only.set (S := fun k => k = g) (p := ⟨g, i, none⟩) (Only.refl _ w) (fun _ => rfl) v⟩

set_option maxRecDepth 100000 in
set_option maxHeartbeats 2000000 in
theorem mk_copied (p : Pk) (vc ve vp : Value) (w : World) (hc : Rd .u32 w vc (nats p.csrc)) (hn0 : vc = .slice none 0 0 ∨ ∃ ad n c, vc = .slice (some ad) n c) (he : Src w ve p.ext) (hp : Src w vp p.pay) (hl : p.csrc.length ≤ 1000000 ∧ p.ext.length ≤ 1000000 ∧ p.pay.length ≤ 1000000) :
    Calls Try.prog 79 #[.agg (p.cls vc ve vp)] w (GotCopy p w) := by
  obtain ⟨Ac, cc, rfl, -, -⟩ := id hc
  obtain ⟨Ae, ce, rfl⟩ := he.slice
  obtain ⟨Ap, cp, rfl⟩ := hp.slice
  rw [nats_length] at hc hn0 ⊢
  have HCL := Lib.hid (fun w' (ho : Only (fun _ => False) w w') => clone32_is (.slice Ac p.csrc.length cc) p.csrc w' (hc.only ho (by simp)) hn0 (by omega))
  have HEL := Lib.hid (fun w' (ho : Only (fun _ => False) w w') => clone_src (.slice Ae p.ext.length ce) p.ext w' w.heap.size ho.size (he.of_only ho) (by omega))
  have HPL := Lib.hid (fun w' (ho : Only (fun _ => False) w w') => clone_src (.slice Ap p.pay.length cp) p.pay w' w.heap.size ho.size (hp.of_only ho) (by omega))
  clear hc he hp hn0 hl
  obtain ⟨B, hB⟩ : ∃ k, w.heap.size = k := ⟨_, rfl⟩
  have HB := Lib.hid hB
  clear hB
  go_enter Try.func79, Try.ntmps79
  go_upto_region 1 with (fail)
  generalize hw0 : World.alloc (World.alloc _ _) _ = w0
  have HI := Lib.hid (show Is w0 w.heap.size 33 (p.cls (.slice Ac p.csrc.length cc) (.slice Ae p.ext.length ce) (.slice Ap p.pay.length cp)) from by rw [← hw0]; exact (Is.made w _ _).alloc _)
  have HO := Lib.hid (show Is w0 (w.heap.size + 1) 33 zeroPk from by rw [← hw0]; have := Is.made (w.alloc (.cells (p.cls (.slice Ac p.csrc.length cc) (.slice Ae p.ext.length ce) (.slice Ap p.pay.length cp)) 33)) 33 zeroPk; rw [World.size_alloc] at this; exact this)
  have P0 := Lib.hid (show Only (fun _ => False) w w0 from by rw [← hw0]; exact ((Only.refl _ w).alloc _).alloc _)
  obtain ⟨mb, hmb⟩ : ∃ k, w.heap.size = k := ⟨_, rfl⟩
  obtain ⟨rb, hrb⟩ : ∃ k, w.heap.size + 1 = k := ⟨_, rfl⟩
  have HMB := Lib.hid (show w.heap.size ≤ mb ∧ w.heap.size ≤ rb ∧ mb ≠ rb from by omega)
  rw [hrb] at HO ⊢
  rw [hmb] at HI ⊢
  clear hw0 hmb hrb
  have c5' := HI.out.cell 5
  simp [Pk.cls] at c5'
  go_wp2_with fail
  refine (HCL.out _ P0.out).mono ?_
  rintro e w1 ⟨v1, rfl, hv1, ho1⟩
  obtain ⟨A1, c1, h1, -⟩ := own_slice hv1
  subst h1
  have V1 := Lib.hid hv1
  have O1 := Lib.hid ho1
  have I1 := Lib.hid (HI.out.only ho1 (by simp))
  have K1 := Lib.hid (HO.out.only ho1 (by simp))
  have d5 := I1.out.cell 5
  have f5 := I1.out.free 5
  simp [Pk.cls] at d5
  clear hv1 ho1 c5'
  go_upto_region 2 with (fail)
  generalize hT1 : World.setCell _ _ _ = T1
  have hs1 := pk_set (w0 := w) I1.out 5 (.slice A1 p.csrc.length c1) (cs' := p.cls (.slice A1 p.csrc.length c1) (.slice Ae p.ext.length ce) (.slice Ap p.pay.length cp)) rfl
  rw [hT1] at hs1
  have J1 := Lib.hid hs1.1
  have Q1 := Lib.hid hs1.2
  have M1 := Lib.hid (K1.out.only hs1.2 (fun e => by have := HMB.out; omega))
  have R1 := Lib.hid ((only_more P0.out O1.out).trans Q1.out (fun i hi e => by have := HMB.out; omega))
  have W11 := Lib.hid (owned_only V1.out Q1.out (fun k hk e => owned_off V1.out I1.out (by decide) (by rw [hk, e])))
  clear hs1 hT1 d5 f5
  have c8' := J1.out.cell 8
  simp [Pk.cls] at c8'
  go_wp2_with fail
  refine (HEL.out _ R1.out).mono ?_
  rintro e w2 ⟨v2, rfl, hv2, ho2, -⟩
  rw [length_cellsOf] at hv2
  obtain ⟨A2, c2, h2, -⟩ := own_slice hv2
  subst h2
  have V2 := Lib.hid hv2
  have O2 := Lib.hid ho2
  have I2 := Lib.hid (J1.out.only ho2 (by simp))
  have K2 := Lib.hid (M1.out.only ho2 (by simp))
  have d8 := I2.out.cell 8
  have f8 := I2.out.free 8
  simp [Pk.cls] at d8
  clear hv2 ho2 c8'
  go_upto_region 3 with (fail)
  generalize hT2 : World.setCell _ _ _ = T2
  have hs2 := pk_set (w0 := w) I2.out 8 (.slice A2 p.ext.length c2) (cs' := p.cls (.slice A1 p.csrc.length c1) (.slice A2 p.ext.length c2) (.slice Ap p.pay.length cp)) rfl
  rw [hT2] at hs2
  have J2 := Lib.hid hs2.1
  have Q2 := Lib.hid hs2.2
  have M2 := Lib.hid (K2.out.only hs2.2 (fun e => by have := HMB.out; omega))
  have R2 := Lib.hid ((only_more R1.out O2.out).trans Q2.out (fun i hi e => by have := HMB.out; omega))
  have W12 := Lib.hid (owned_only (own_only W11.out O2.out (by simp)) Q2.out (fun k hk e => owned_off (own_only W11.out O2.out (by simp)) I2.out (by decide) (by rw [hk, e])))
  have W22 := Lib.hid (owned_only V2.out Q2.out (fun k hk e => owned_off V2.out I2.out (by decide) (by rw [hk, e])))
  clear hs2 hT2 d8 f8
  have c9' := J2.out.cell 9
  simp [Pk.cls] at c9'
  go_wp2_with fail
  refine (HPL.out _ R2.out).mono ?_
  rintro e w3 ⟨v3, rfl, hv3, ho3, -⟩
  rw [length_cellsOf] at hv3
  obtain ⟨A3, c3, h3, -⟩ := own_slice hv3
  subst h3
  have V3 := Lib.hid hv3
  have O3 := Lib.hid ho3
  have I3 := Lib.hid (J2.out.only ho3 (by simp))
  have K3 := Lib.hid (M2.out.only ho3 (by simp))
  have d9 := I3.out.cell 9
  have f9 := I3.out.free 9
  simp [Pk.cls] at d9
  clear hv3 ho3 c9'
  go_upto_region 4 with (fail)
  generalize hT3 : World.setCell _ _ _ = T3
  have hs3 := pk_set (w0 := w) I3.out 9 (.slice A3 p.pay.length c3) (cs' := p.cls (.slice A1 p.csrc.length c1) (.slice A2 p.ext.length c2) (.slice A3 p.pay.length c3)) rfl
  rw [hT3] at hs3
  have J3 := Lib.hid hs3.1
  have Q3 := Lib.hid hs3.2
  have M3 := Lib.hid (K3.out.only hs3.2 (fun e => by have := HMB.out; omega))
  have R3 := Lib.hid ((only_more R2.out O3.out).trans Q3.out (fun i hi e => by have := HMB.out; omega))
  have W13 := Lib.hid (owned_only (own_only W12.out O3.out (by simp)) Q3.out (fun k hk e => owned_off (own_only W12.out O3.out (by simp)) I3.out (by decide) (by rw [hk, e])))
  have W23 := Lib.hid (owned_only (own_only W22.out O3.out (by simp)) Q3.out (fun k hk e => owned_off (own_only W22.out O3.out (by simp)) I3.out (by decide) (by rw [hk, e])))
  have W33 := Lib.hid (owned_only V3.out Q3.out (fun k hk e => owned_off V3.out I3.out (by decide) (by rw [hk, e])))
  clear hs3 hT3 d9 f9
  have HV := Lib.hid (p.cls_one (vc := .slice A1 p.csrc.length c1) (ve := .slice A2 p.ext.length c2) (vp := .slice A3 p.pay.length c3) ⟨_, _, _, rfl⟩ ⟨_, _, _, rfl⟩ ⟨_, _, _, rfl⟩)
  go_wp2_with (first
    | (refine wpList_load_want rfl _ _ rfl mb rfl _ _ _ J3.out Try.underlying33 rfl Try.sizePq ?_)
    | (refine wpList_store_is (o := ⟨none, _, _, _, _, _⟩) rfl 33 _ _ rfl rb (p.cls (.slice A1 p.csrc.length c1) (.slice A2 p.ext.length c2) (.slice A3 p.pay.length c3)) rfl rfl 33 zeroPk M3.out Try.sizePq rfl HV.out ?_; intro w4 hi4 ho4))
  refine bodyPost_ret (res_one Try.results79 _ w4 rb 33 (p.cls (.slice A1 p.csrc.length c1) (.slice A2 p.ext.length c2) (.slice A3 p.pay.length c3)) _ rfl hi4 Try.underlying33 rfl Try.sizePq) rfl ⟨_, _, _, rfl, ⟨?_, ?_, ?_⟩, R3.out.trans ho4 (fun i hi e => by have := HMB.out; omega)⟩
  · exact owned_low (owned_only W13.out ho4 (fun k hk e => owned_off W13.out M3.out (by decide) (by rw [hk, e]))) P0.out.size
  · exact owned_only W23.out ho4 (fun k hk e => owned_off W23.out M3.out (by decide) (by rw [hk, e]))
  · exact owned_only W33.out ho4 (fun k hk e => owned_off W33.out M3.out (by decide) (by rw [hk, e]))
end Go.Proofs.Ytcgfmjdlningpaa
