/- ReorderPlays' walk. Conditions: as it says. -/
import Derived.Test.YtdcclighccejhaaRqZ
set_option linter.unusedVariables false
set_option linter.unusedSimpArgs false
namespace Go.Proofs.Ytdcclighccejhaa
open Go Go.RowKit

set_option maxRecDepth 100000 in
set_option maxHeartbeats 8000000 in
theorem plays_loop (z : Int) (hold : Nat) (lv : Value) (l : List Ac) (us3 : List V3) (w : World) (h : RdAs w lv l us3) (hfit : ∀ a ∈ l, a.Fit) (hll : l.length ≤ 9223372036854775807) (hf : fewA l 60 = true) (s : Nat) (hz : z = (s : Int)) (h1 : 1 ≤ s) (h2 : s ≤ 256) (hh : hold < 18446744073709551616) :
    Calls Try.prog 3 #[.int .i64 z, .int .u64 (hold : Int), lv] w (SaysO (.bool true) w) := by
  subst hz
  obtain ⟨A3, c3, rfl, hc3⟩ := h.sl
  have HF := Lib.hid (rfew_is _ l us3 60 w h (by decide) hll)
  rw [hf] at HF
  have hf2 : (∀ a ∈ l, a.few = true) ∧ l.length ≤ 60 := by
    unfold fewA at hf
    simp only [Bool.and_eq_true, decide_eq_true_eq, List.all_eq_true] at hf
    exact hf
  have HFW := Lib.hid hf2
  have HFIT := Lib.hid hfit
  have H := Lib.hid h
  have HN := Lib.hid (fun w1 => new_yes s hold w1 h1 h2)
  have HRN := Lib.hid (fun w1 => rnewR_yes s hold w1 h1 h2)
  have HSH := Lib.hid (And.intro h1 (And.intro h2 hh))
  obtain ⟨L, hL⟩ : ∃ L, l.length = L := ⟨_, rfl⟩
  have HL := Lib.hid hL
  rw [hL] at hc3 HF ⊢
  clear h hfit hll hf hf2 h1 h2 hh hL
  go_enter Try.func3, Try.ntmps3
  go_wp2_with fail
  refine HF.out.mono ?_
  rintro e w1 ⟨rfl, ho1⟩
  have O1 := Lib.hid ho1
  clear ho1 HF
  go_wp2_with fail
  refine (HN.out w1).mono ?_
  rintro e w2 ⟨b, rfl, hb, hbw, ho2⟩
  have hss : (s : Int).toNat = s := by omega
  rw [hss] at hb
  have BF := Lib.hid hb
  have O2 := Lib.hid (O1.out.trans ho2 (fun _ _ e => e))
  have HBW := Lib.hid (show w.heap.size ≤ b ∧ w.heap.size ≤ w1.heap.size ∧ w1.heap.size ≤ w2.heap.size from ⟨by rw [hbw]; exact O1.out.size, O1.out.size, ho2.size⟩)
  clear hb hbw ho2 hss HN
  go_wp2_with fail
  refine (HRN.out w2).mono ?_
  rintro e w3 ⟨rfl, ho3⟩
  have O3 := Lib.hid (O2.out.trans ho3 (fun _ _ e => e))
  have BF3 := Lib.hid (BF.out.pure ho3)
  have HS3 := Lib.hid (show w2.heap.size ≤ w3.heap.size from ho3.size)
  clear ho3 HRN BF
  obtain ⟨R0, hR0⟩ : ∃ R0, (⟨s, hold, 0, false, []⟩ : Rb) = R0 := ⟨_, rfl⟩
  have HR0 := Lib.hid hR0
  rw [hR0]
  clear hR0
  have HZ := Lib.hid (show Is (w3.alloc (.cells zeroRb 32)) w3.heap.size 32 zeroRb from Is.made w3 _ _)
  have HV := Lib.hid (show (R0.cells (.slice none 0 0)).all (·.oneCell') = true from by simp [Rb.cells, Value.oneCell'])
  go_upto_region 8 with (refine wpList_store_is (o := ⟨none, _, _, _, _, _⟩) rfl 32 _ _ rfl w3.heap.size (R0.cells (.slice none 0 0)) rfl rfl 32 zeroRb HZ.out Try.sizeRb rfl HV.out ?_; intro w4 hi4 ho4; have I4 := Lib.hid hi4; have O34 := Lib.hid (((Only.refl _ w3).alloc _).trans ho4 (fun i hi e => by omega) : Only (fun _ => False) w3 w4); clear hi4 ho4)
  obtain ⟨r9, hr9⟩ : ∃ x, w3.heap.size = x := ⟨_, rfl⟩
  have HR9 := Lib.hid (show w.heap.size ≤ r9 from by rw [← hr9]; have := HBW.out; have := HS3.out; omega)
  rw [hr9] at I4 ⊢
  have S4 := Lib.hid (show St b w.heap.size w1.heap.size (Bf.new s hold) (.slice none 0 0) [] R0 (.slice none 0 0) [] w4 from by
    rw [← HR0.out]
    refine ⟨BF3.out.pure O34.out, new_good HSH.out.1 HSH.out.2.1 HSH.out.2.2, Sim.new s hold, fun x hx => by simp [Bf.new] at hx, ?_, HBW.out.1, HBW.out.2.1, ?_⟩
    · exact ⟨.slice none 0 0, [], [], OwnS.nil _ _ _ _, rfl, fun i x u hx => by simp at hx, fun W _ => RdL.nil W, by simp, by simp, fun i x u hx => by simp at hx⟩
    · have := HBW.out.2.2
      have := HS3.out
      have := O34.out.size
      omega)
  have O4 := Lib.hid (O3.out.trans O34.out (fun _ _ e => e))
  clear hr9 HZ HV BF3 O34 HS3 O3 O2 O1 HSH HR0
  go_wp2
  go_loopw [11] (fun s11 wr => ∃ (k : Nat) (m : Bf) (v : Value) (us : List V3) (r : Rb) (v2 : Value) (us2 : List V3), k ≤ L ∧ s11 = .int .i64 (k : Int) ∧ St b w.heap.size w1.heap.size m v us r v2 us2 wr ∧ Is wr r9 32 (r.cells v2) ∧ Only (fun _ => False) w wr) (fun s11 _ => L - (intOf s11).toNat)
  case atStart => exact ⟨0, _, _, _, _, _, _, by omega, rfl, S4.out, I4.out, O4.out⟩
  case round =>
    obtain ⟨k, m, v, us, r, v2, us2, hk, rfl, hS, hI, hO⟩ := hrel
    have S := Lib.hid hS
    have I := Lib.hid hI
    have O := Lib.hid hO
    clear hS hI hO S4 I4 O4
    by_cases hkL : k < L
    · obtain ⟨a, ha⟩ : ∃ a, l[k]? = some a := ⟨_, List.getElem?_eq_getElem (by rw [HL.out]; exact hkL)⟩
      obtain ⟨u, hu⟩ : ∃ u, us3[k]? = some u := ⟨_, List.getElem?_eq_getElem (by rw [H.out.len, HL.out]; exact hkL)⟩
      obtain ⟨⟨ga, oa, na, ca, e, hra⟩, hru⟩ := H.out.at_ k a u ha hu
      injection e with e1 e2 e3
      subst e1
      clear e2 e3
      have hgl : ga < w.heap.size := World.block_lt_of_cell? w _ (hra 0 _ rfl)
      have HRA := Lib.hid (range_pure hra O.out)
      have HFA := Lib.hid (HFW.out.1 a (List.mem_of_getElem? ha))
      have HFI := Lib.hid (HFIT.out a (List.mem_of_getElem? ha))
      have HRU := Lib.hid hru
      have HLB := Lib.hid HFW.out.2
      rw [HL.out] at HLB
      have HAC := Lib.hid (show ∀ x y : World, x.rangeAt ga (oa + k * 14) (a.cls u) → Only (fun j => w.heap.size ≤ j) x y → y.rangeAt ga (oa + k * 14) (a.cls u) from fun x y hx ho j z hj => (ho.cell (p := ⟨ga, oa + k * 14 + j, none⟩) (World.block_lt_of_cell? x _ (hx j z hj)) (fun (e : w.heap.size ≤ ga) => by omega)).trans (hx j z hj))
      have HDO := Lib.hid (show ∀ w5, St b w.heap.size w1.heap.size m v us r v2 us2 w5 ∧ Only (fun _ => False) w w5 → Calls Try.prog 11 #[ptr b, .agg (r.cells v2), .agg (a.cls u).toArray] w5 (fun e w6 => ∃ cs2, e = .returned (.tuple #[.agg cs2, .bool true]) ∧ cs2.size = (r.cells v2).size ∧ cs2.all (·.oneCell') = true ∧
          (∃ m v us r v2 us2, cs2 = Rb.cells r v2 ∧ St b w.heap.size w1.heap.size m v us r v2 us2 w6) ∧ Only (fun j => w.heap.size ≤ j) w5 w6 ∧ (∀ g ds, Is w5 g 32 ds → Is w6 g 32 ds)) from fun w5 h5 => by
        refine (does_is b w.heap.size w1.heap.size m v us r v2 us2 a u w5 h5.1 HFI.out HFA.out (fun w6 ho => HRU.out.pure ((h5.2.trans ho (fun i hi e => by omega)))) ).mono ?_
        rintro e w6 ⟨m', v', us', r', v2', us2', rfl, hst, ho, hkp⟩
        exact ⟨_, rfl, rfl, rb_one _ hst.ref.rd, ⟨m', v', us', r', v2', us2', rfl, hst⟩, ho, hkp⟩)
      have hr9 : r9 < wr.heap.size := I.out.lt
      clear ha hu hra hru
      have hkLI : (k : Int) < (L : Int) := by omega
      go_upto_region 10 with (fail)
      refine rp10 b r9 w.heap.size ga oa L c3 k (a.cls u) (r.cells v2) (fun wx => St b w.heap.size w1.heap.size m v us r v2 us2 wx ∧ Only (fun _ => False) w wx) (fun cs2 wx => ∃ m v us r v2 us2, cs2 = Rb.cells r v2 ∧ St b w.heap.size w1.heap.size m v us r v2 us2 wx) wr hkL HLB.out hr9 O.out.size rfl Try.sizeRb Try.sizeAc HAC.out HDO.out (fun x y hp ho => ⟨hp.1.pure ho, hp.2.trans ho (fun _ _ e => e)⟩) (fun c x y ⟨m, v, us, r, v2, us2, e, hs⟩ ho => ⟨m, v, us, r, v2, us2, e, hs.pure ho⟩) (fun c x y g ds ⟨m, v, us, r, v2, us2, e, hs⟩ hg ho => ⟨m, v, us, r, v2, us2, e, hs.far hg (by decide) (by decide) (by decide) (by decide) (by decide) ho⟩) _ _ _ _ _ _ _ _ _ _ _ _ _ _ _ _ _ _ _ _ _ _ _ _ _ _ _ _ _ _ _ _ _ _ _ _ _ _ _ _ _ _ _ _ _ _ _ _ _ _ _ _ _ _ _ _ _ _ _ _ _ wr (Only.refl _ _) I.out ⟨S.out, O.out⟩ HRA.out ?_
      rintro y12 y50 y51 y52 y53 y54 y55 y56 y57 y58 y59 w5 ⟨g, cs2, rfl, hg9, hg, ⟨m', v', us', r', v2', us2', rfl, hst⟩, h9, hz, h1, ho⟩
      have G5 := Lib.hid hg
      have I5 := Lib.hid h9
      have S5 := Lib.hid hst
      have O5 := Lib.hid (show Only (fun _ => False) w w5 from O.out.trans ho (fun i hi e => by omega))
      have HV := Lib.hid h1
      clear hg h9 hst ho hz h1 hg9 HDO HAC HRA S I O HRU HFA HFI
      go_upto_region 12 with (first
        | (refine wpList_load_want (o := ⟨some 60, _, _, _, _, _⟩) rfl _ _ rfl g rfl _ (r'.cells v2') _ G5.out Try.underlying32 rfl Try.sizeRb ?_)
        | (refine wpList_store_is (o := ⟨none, _, _, _, _, _⟩) rfl 32 _ _ rfl r9 (r'.cells v2') rfl rfl 32 (r.cells v2) I5.out Try.sizeRb rfl HV.out ?_; intro w6 hi6 ho6; have I6 := Lib.hid hi6; have O56 := Lib.hid ho6; clear hi6 ho6))
      have S6 := Lib.hid (S5.out.far I5.out (by decide) (by decide) (by decide) (by decide) (by decide) O56.out)
      have O6 := Lib.hid (O5.out.trans O56.out (fun i hi (e : i = r9) => by have := HR9.out; omega))
      clear S5 I5 O5 O56 G5 HV
      have hL60 := HLB.out
      go_wp2
      constructor
      · repeat apply Exists.intro
        refine ⟨?_, rfl⟩
        exact ⟨k + 1, _, _, _, _, _, _, by omega, by go_num, S6.out, I6.out, O6.out⟩
      · simp [intOf]
        omega
    · obtain rfl : k = L := by omega
      go_wp2_with fail
      refine (rworks_is _).mono ?_
      rintro e w5 ⟨rfl, ho5⟩
      have O5 := Lib.hid (O.out.trans ho5 (fun _ _ e => e))
      clear ho5
      go_wp2
      go_ret
      exact ⟨rfl, O5.out⟩
set_option maxRecDepth 100000 in
set_option maxHeartbeats 8000000 in
theorem rplays_walk (z : Int) (hold : Nat) (lv : Value) (l : List Ac) (us3 : List V3) (w : World) (h : RdAs w lv l us3) (hfit : ∀ a ∈ l, a.Fit) (hll : l.length ≤ 9223372036854775807) (hh : hold < 18446744073709551616) :
    Calls Try.prog 3 #[.int .i64 z, .int .u64 (hold : Int), lv] w (SaysO (.bool true) w) := by
  by_cases hf : fewA l 60 = true
  · by_cases hz : 1 ≤ z ∧ z ≤ 256
    · exact plays_loop z hold lv l us3 w h hfit hll hf z.toNat (by omega) (by omega) (by omega) hh
    · have hz : z < 1 ∨ 256 < z := by omega
      obtain ⟨A3, c3, rfl, hc3⟩ := h.sl
      have HF := Lib.hid (rfew_is _ l us3 60 w h (by decide) hll)
      rw [hf] at HF
      have HN := Lib.hid (fun w1 => new_no z hold w1 hz)
      have HRN := Lib.hid (fun w1 => rnewR_no z hold w1 hz)
      obtain ⟨L, hL⟩ : ∃ L, l.length = L := ⟨_, rfl⟩
      rw [hL] at hc3 HF hll ⊢
      clear h hfit hf hL hz
      go_enter Try.func3, Try.ntmps3
      go_wp2_with fail
      refine HF.out.mono ?_
      rintro e w1 ⟨rfl, ho1⟩
      have O1 := Lib.hid ho1
      clear ho1 HF
      go_wp2_with fail
      refine (HN.out w1).mono ?_
      rintro e w2 ⟨rfl, ho2⟩
      have O2 := Lib.hid (O1.out.trans ho2 (fun _ _ e => e))
      clear ho2 HN
      go_wp2_with fail
      refine (HRN.out w2).mono ?_
      rintro e w3 ⟨rfl, ho3⟩
      have O3 := Lib.hid (O2.out.trans ho3 (fun _ _ e => e))
      clear ho3 HRN
      have HZ := Lib.hid (show Is (w3.alloc (.cells zeroRb 32)) w3.heap.size 32 zeroRb from Is.made w3 _ _)
      have HV := Lib.hid (show zeroRb.all (·.oneCell') = true from by simp [zeroRb, Value.oneCell'])
      go_upto_region 8 with (refine wpList_store_is (o := ⟨none, _, _, _, _, _⟩) rfl 32 _ _ rfl w3.heap.size zeroRb rfl rfl 32 zeroRb HZ.out Try.sizeRb rfl HV.out ?_; intro w4 hi4 ho4; have O34 := Lib.hid (((Only.refl _ w3).alloc _).trans ho4 (fun i hi e => by omega) : Only (fun _ => False) w3 w4); clear hi4 ho4)
      have O4 := Lib.hid (O3.out.trans O34.out (fun _ _ e => e))
      clear HZ HV O34 O3 O2 O1
      go_loopw [11] (fun s11 wr => s11 = .int .i64 0 ∧ Only (fun _ => False) w wr) (fun s11 _ => 0)
      case atStart => exact ⟨rfl, O4.out⟩
      case round =>
        obtain ⟨rfl, hO⟩ := hrel
        have O := Lib.hid hO
        clear hO O4
        by_cases hL0 : (0 : Int) < (L : Int)
        · go_wp2_with fail
          refine (rworks_is _).mono ?_
          rintro e w5 ⟨rfl, ho5⟩
          have O5 := Lib.hid (O.out.trans ho5 (fun _ _ e => e))
          clear ho5
          go_wp2
          go_ret
          exact ⟨rfl, O5.out⟩
        · go_wp2_with fail
          refine (rworks_is _).mono ?_
          rintro e w5 ⟨rfl, ho5⟩
          have O5 := Lib.hid (O.out.trans ho5 (fun _ _ e => e))
          clear ho5
          go_wp2
          go_ret
          exact ⟨rfl, O5.out⟩
  · have hf : fewA l 60 = false := by simpa using hf
    obtain ⟨A3, c3, rfl, hc3⟩ := h.sl
    have HF := Lib.hid (rfew_is _ l us3 60 w h (by decide) hll)
    rw [hf] at HF
    clear h hfit hf hll
    go_enter Try.func3, Try.ntmps3
    go_wp2_with fail
    refine HF.out.mono ?_
    rintro e w1 ⟨rfl, ho1⟩
    have O1 := Lib.hid ho1
    clear ho1 HF
    go_wp2_with fail
    refine (rworks_is _).mono ?_
    rintro e w5 ⟨rfl, ho5⟩
    have O5 := Lib.hid (O1.out.trans ho5 (fun _ _ e => e))
    clear ho5
    go_wp2
    go_ret
    exact ⟨rfl, O5.out⟩
theorem rplays_args {W : World} {z : Int} {hold : Nat} {lv : Value} {l : List Ac} {us : List V3} (hh : hold < 18446744073709551616) (hr : RdAs W lv l us) (hf : ∀ a ∈ l, a.Fit) (hl : l.length ≤ 9223372036854775807) : Calls Try.prog 3 #[.int .i64 z, .int .u64 (hold : Int), lv] W fun e w' => e = .returned (.bool true) ∧ Below W.heap.size W w' := by
  refine (rplays_walk z hold lv l us W hr hf hl hh).mono ?_
  rintro e w' ⟨rfl, ho⟩
  exact ⟨rfl, Only.below ho (fun i hi => hi.elim) (Nat.le_refl _)⟩
end Go.Proofs.Ytdcclighccejhaa
