/- feedback.Put of any message: its packet, or that it is refused. Conditions: as each says. -/
import Derived.Test.YtoibllmijkggnaaFcJ
import Derived.Test.YtoibllmijkggnaaFcB
set_option linter.unusedVariables false
namespace Go.Proofs.Ytoibllmijkggnaa
open Go.RowKit

/-- What a sort's part puts, by the contract of its call. -/
def Parts (fn : Nat) (m : Ms) (p1 o1 s1 : Value) (pd : List Nat) : Prop := ∀ (b B : Nat) (d : List Nat) (wB w : World), Pw b B d w wB w → RdM m p1 o1 s1 wB → wB.heap.size ≤ B → d.length ≤ 1000 →
  Calls Try.prog fn #[.agg (m.cls p1 o1 s1), ptr b] w fun e w' => e = .returned (.tuple #[]) ∧ Pw b B (d ++ pd) w wB w'
/-- A message is put. -/
def Putted (m : Ms) (ct kd : Nat) (d : List Nat) (w : World) (e : Ending) (w' : World) : Prop :=
  ∃ A c bs, e = .returned (.tuple #[.agg (pktC ct kd (.slice A bs.length c)), .int .i64 0]) ∧ Wrote bs d ∧ w'.ownsRow w.heap.size 5 1 (.slice A bs.length c) bs.length (cellsOf bs) ∧ Only (fun _ => False) w w'

set_option maxRecDepth 100000 in
set_option maxHeartbeats 4000000 in
theorem fput_sort (m : Ms) (p1 o1 s1 : Value) (w : World) (fn ct kd : Nat) (nm : ByteArray) (pd : List Nat) (h1 : RdM m p1 o1 s1 w) (hl : m.pairs.length ≤ 1000 ∧ m.orders.length ≤ 1000 ∧ m.srcs.length ≤ 1000) (hm : m.mant < 4294967296) (he : m.exp < 256) (hsm : m.sender < 4294967296 ∧ m.media < 4294967296)
    (hok : rightMs m = true) (hs1 : 1 ≤ m.sort) (hs4 : m.sort ≤ 4) (hc0 : (srtV m.sort)[0]? = some (.int .u8 (kd : Nat))) (hc1 : (srtV m.sort)[1]? = some (.int .u8 (ct : Nat))) (hc2 : (srtV m.sort)[2]? = some (.string nm)) (hc13 : (srtV m.sort)[13]? = some (.func (.func fn) #[] #[])) (hnm : nm.size ≤ 100)
    (hpart : Parts fn m p1 o1 s1 pd) (hpd : pd.length ≤ 1000000) (hcf : ∀ (args : Array Value) (w : World), (callFunc fn args).run Try.prog w = .ok (.enter fn args) w) :
    Calls Try.prog 12 #[.agg (m.cls p1 o1 s1)] w (Putted m ct kd (headD m.sender m.media nm ++ pd) w) := by
  have HRD := Lib.hid h1
  have HRI := Lib.hid (fun w (h : RdM m p1 o1 s1 w) => by have := fright_is m p1 o1 s1 w h (by omega) hm he; rwa [hok] at this)
  have HSO := Lib.hid (fun w => sortof_is m.sort w hs1 hs4)
  have HZ := Lib.hid (show _ ∧ _ ∧ _ from ⟨srt_size m.sort hs1 hs4, srt_hold m.sort hs1 hs4, srt_one m.sort hs1 hs4⟩)
  have HSM := Lib.hid hsm
  have HC0 := Lib.hid hc0
  have HC1 := Lib.hid hc1
  have HC2 := Lib.hid hc2
  have HC13 := Lib.hid hc13
  have HPART := Lib.hid hpart
  have HNM := Lib.hid hnm
  have HPD := Lib.hid hpd
  have HCF := Lib.hid hcf
  have HDL := Lib.hid (show (headD m.sender m.media nm).length ≤ 1000 from by unfold headD; simp only [List.length_append, digs_length]; have : (D (nameB nm)).length = 8 * (nameB nm).length := D_length _; rw [this, nameB_len]; omega)
  obtain ⟨A, hA⟩ : ∃ a, m.cls p1 o1 s1 = a := ⟨_, rfl⟩
  have HA := Lib.hid hA
  have SZP := Lib.hid (show (Try.prog.info? 27).map (·.size) = some A.size from by rw [← hA]; exact Try.sizeMe)
  rw [hA] at HRI
  rw [hA]
  clear hA h1 hl hm he hsm hok hs1 hs4 hc0 hc1 hc2 hc13 hpart hnm hpd hcf
  go_enter Try.func12, Try.ntmps12
  go_upto_region 1 with (fail)
  generalize hw0 : World.alloc _ _ = w0
  obtain ⟨mb, hmb⟩ : ∃ k, w.heap.size = k := ⟨_, rfl⟩
  obtain ⟨rb, hrb⟩ : ∃ k, w.heap.size + 1 = k := ⟨_, rfl⟩
  have I0 := Lib.hid (show Is w0 mb 27 A from by rw [← hw0, ← hmb]; exact (Is.made _ _ _).alloc _)
  have R0 := Lib.hid (show Is w0 rb 41 pktZ from by rw [← hw0, ← hrb]; have h := Is.made (w.alloc (.cells A 27)) 41 pktZ; rw [World.size_alloc] at h; exact h)
  have P0 := Lib.hid (show Only (fun _ => False) w w0 from by rw [← hw0]; exact ((Only.refl _ w).alloc _).alloc _)
  have HRB := Lib.hid (show w.heap.size ≤ rb from by omega)
  rw [hrb, hmb]
  clear hw0 hmb hrb
  go_upto_region 3 with (first
    | (refine wpList_load_want (o := ⟨some 7, _, _, _, _, _⟩) rfl _ _ rfl mb rfl _ _ _ I0.out Try.underlying27 rfl SZP.out ?_)
    | (go_at_call 15; refine (HRI.out _ (HRD.out.only P0.out)).mono ?_; rintro e w1 ⟨rfl, ho1⟩; have O1 := Lib.hid ho1; clear ho1))
  have I1 := Lib.hid (I0.out.only O1.out (by simp))
  have R1 := Lib.hid (R0.out.only O1.out (by simp))
  have P1 := Lib.hid (only_more P0.out O1.out)
  clear I0 R0 P0 O1
  have m0 := (I1.out.cell 0).trans (show A[0]? = some (.int .u8 (m.sort : Nat)) from by rw [← HA.out]; rfl)
  go_upto_region 4 with (first
    | (go_at_call 43; refine (HSO.out _).mono ?_; rintro e w2 ⟨rfl, ho2⟩; have O2 := Lib.hid ho2; clear ho2)
    | (refine wpList_store_is rfl 93 _ _ rfl w2.heap.size (srtV m.sort) rfl rfl 93 (srtV 0) (Is.made w2 _ (srtV 0)) HZ.out.1 HZ.out.2.1 HZ.out.2.2 ?_; intro w3 hi3 ho3; have O3 := Lib.hid (fb_made ho3); have S3 := Lib.hid hi3; clear hi3 ho3))
  clear m0
  generalize w2.heap.size = sb at *
  have P3 := Lib.hid (only_more P1.out (only_more O2.out O3.out))
  have I3 := Lib.hid (show Is w3 mb 27 (m.cls p1 o1 s1) from by rw [HA.out]; exact I1.out.only (only_more O2.out O3.out) (by simp))
  have R3 := Lib.hid (R1.out.only (only_more O2.out O3.out) (by simp))
  clear I1 R1 P1 O2 O3
  refine putm4 m p1 o1 s1 mb sb m.sort nm HSM.out HNM.out HC2.out _ _ _ _ _ _ _ _ _ _ _ _ _ _ _ _ _ _ _ _ _ _ _ _ _ _ _ _ _ _ _ _ _ _ _ _ _ _ _ _ _ _ w3 I3.out S3.out ?_
  rintro y6 y17 y18 y19 y20 y21 y22 y23 y24 y25 y26 y27 y28 y29 y30 w4 ⟨k, rfl, hP4⟩
  have P4 := Lib.hid hP4
  have I4 := Lib.hid (hP4.far _ _ _ (by decide) (by decide) I3.out)
  have S4 := Lib.hid (hP4.far _ _ _ (by decide) (by decide) S3.out)
  have R4 := Lib.hid (hP4.far _ _ _ (by decide) (by decide) R3.out)
  clear hP4
  have s13 := (S4.out.cell 13).trans HC13.out
  unfold ptr at *
  go_upto_region 6 with (refine wpList_load_want (o := ⟨some 33, _, _, _, _, _⟩) rfl _ _ rfl mb rfl _ _ _ I4.out Try.underlying27 rfl (by rw [HA.out]; exact SZP.out) ?_)
  rw [HCF.out]
  simp only [Oper.upon]
  refine (HPART.out k w3.heap.size _ w3 _ P4.out.here (HRD.out.only P3.out) (Nat.le_refl _) HDL.out).mono ?_
  rintro e w5 ⟨rfl, hP5⟩
  have P5 := Lib.hid hP5
  clear hP5 s13
  go_upto_region 6 with (fail)
  obtain ⟨bs, v, hw5⟩ := P5.out.wr
  have S5 := Lib.hid (P5.out.far _ _ _ (by decide) (by decide) S4.out)
  have R5 := Lib.hid (P5.out.far _ _ _ (by decide) (by decide) R4.out)
  have W5 := Lib.hid hw5
  clear hw5
  refine putm6 sb rb k w3.heap.size m.sort ct kd _ bs v HC0.out HC1.out (by rw [List.length_append]; have := HDL.out; have := HPD.out; omega) _ _ _ _ _ _ _ _ _ _ _ _ _ _ _ _ _ _ _ _ _ _ _ _ _ _ _ _ _ _ _ _ _ _ _ _ _ _ _ _ _ w5 S5.out R5.out W5.out ?_
  rintro y36 y37 y38 y39 y40 y41 y42 w6 ⟨A6, c6, hI6, hown, ho6⟩
  have I6 := Lib.hid hI6
  have W6 := Lib.hid hown
  have O6 := Lib.hid ho6
  clear hI6 hown ho6
  go_wp2
  refine bodyPost_ret (res_pair Try.results12 _ w6 rb 41 _ _ _ rfl rfl I6.out Try.underlying41 rfl Try.sizeRt) rfl ?_
  have hO : Only (fun _ => False) w w5 := P3.out.trans P5.out.old (fun i hi e => by have := P3.out.size; omega)
  exact ⟨A6, c6, bs, rfl, W5.out.wrote, owned_low W6.out hO.size, hO.trans O6.out (fun i hi e => by have := HRB.out; omega)⟩

set_option maxRecDepth 100000 in
set_option maxHeartbeats 4000000 in
theorem fput_none (m : Ms) (p1 o1 s1 : Value) (w : World) (h1 : RdM m p1 o1 s1 w) (hl : m.pairs.length ≤ 1000 ∧ m.orders.length ≤ 1000 ∧ m.srcs.length ≤ 1000) (hm : m.mant < 4294967296) (he : m.exp < 256) (hok : rightMs m = false) :
    Calls Try.prog 12 #[.agg (m.cls p1 o1 s1)] w fun e w' => e = .returned (.tuple #[.agg pktZ, .int .i64 2]) ∧ Only (fun _ => False) w w' := by
  have HRI := Lib.hid (fun w (h : RdM m p1 o1 s1 w) => by have := fright_is m p1 o1 s1 w h (by omega) hm he; rwa [hok] at this)
  have HRD := Lib.hid h1
  obtain ⟨A, hA⟩ : ∃ a, m.cls p1 o1 s1 = a := ⟨_, rfl⟩
  have SZP := Lib.hid (show (Try.prog.info? 27).map (·.size) = some A.size from by rw [← hA]; exact Try.sizeMe)
  rw [hA] at HRI
  rw [hA]
  clear hA h1 hl hm he hok
  go_enter Try.func12, Try.ntmps12
  go_upto_region 1 with (fail)
  generalize hw0 : World.alloc _ _ = w0
  obtain ⟨mb, hmb⟩ : ∃ k, w.heap.size = k := ⟨_, rfl⟩
  obtain ⟨rb, hrb⟩ : ∃ k, w.heap.size + 1 = k := ⟨_, rfl⟩
  have I0 := Lib.hid (show Is w0 mb 27 A from by rw [← hw0, ← hmb]; exact (Is.made _ _ _).alloc _)
  have R0 := Lib.hid (show Is w0 rb 41 pktZ from by rw [← hw0, ← hrb]; have h := Is.made (w.alloc (.cells A 27)) 41 pktZ; rw [World.size_alloc] at h; exact h)
  have P0 := Lib.hid (show Only (fun _ => False) w w0 from by rw [← hw0]; exact ((Only.refl _ w).alloc _).alloc _)
  have HRB := Lib.hid (show w.heap.size ≤ rb from by omega)
  rw [hrb, hmb]
  clear hw0 hmb hrb
  go_wp2_with (first
    | (refine wpList_load_want (o := ⟨some 7, _, _, _, _, _⟩) rfl _ _ rfl mb rfl _ _ _ I0.out Try.underlying27 rfl SZP.out ?_)
    | (go_at_call 15; refine (HRI.out _ (HRD.out.only P0.out)).mono ?_; rintro e w1 ⟨rfl, ho1⟩; have O1 := Lib.hid ho1; clear ho1; have R1 := Lib.hid (R0.out.only O1.out (by simp)))
    | (refine wpList_store_is rfl 41 _ _ rfl rb pktZ rfl rfl 41 pktZ R1.out Try.sizeRt rfl (by simp [pktZ, Value.oneCell']) ?_; intro w3 hi3 ho3; have O3 := Lib.hid ho3; have I3 := Lib.hid hi3; clear hi3 ho3))
  refine bodyPost_ret (res_pair Try.results12 _ w3 rb 41 _ _ _ rfl rfl I3.out Try.underlying41 rfl Try.sizeRt) rfl ?_
  exact ⟨rfl, (only_more P0.out O1.out).trans O3.out (fun i hi e => by have := HRB.out; omega)⟩
theorem fput_1 : ∀ (args : Array Value) (w : World), (callFunc 69 args).run Try.prog w = .ok (.enter 69 args) w := fun _ _ => by kernel_rfl
theorem fput_2 : ∀ (args : Array Value) (w : World), (callFunc 71 args).run Try.prog w = .ok (.enter 71 args) w := fun _ _ => by kernel_rfl
theorem fput_3 : ∀ (args : Array Value) (w : World), (callFunc 73 args).run Try.prog w = .ok (.enter 73 args) w := fun _ _ => by kernel_rfl
theorem fput_4 : ∀ (args : Array Value) (w : World), (callFunc 75 args).run Try.prog w = .ok (.enter 75 args) w := fun _ _ => by kernel_rfl
end Go.Proofs.Ytoibllmijkggnaa
