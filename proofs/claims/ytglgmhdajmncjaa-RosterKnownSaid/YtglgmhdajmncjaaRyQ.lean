/- roster: the law's is. Conditions: as each says. -/
import Derived.Test.YtglgmhdajmncjaaRyP
import Derived.Test.YtglgmhdajmncjaaRyO
set_option linter.unusedVariables false
set_option linter.unusedSimpArgs false
namespace Go.Proofs.Ytglgmhdajmncjaa
open Go Go.RowKit

theorem inRows_get {l : List Int} {i : Nat} {x : Int} (h : l[i]? = some x) : (inRows l)[i]? = some [.int .i64 x] := by simp [inRows, h]
theorem inRows_set (l : List Int) (i : Nat) (x : Int) : (inRows l).set i [.int .i64 x] = inRows (l.set i x) := by simp [inRows, List.map_set]
set_option maxRecDepth 100000 in
set_option maxHeartbeats 16000000 in
theorem mis_is (B b mb B2 : Nat) (r : Ro) (vl v : Value) (id : Int) (s : Nat) (w : World) (h : Ror w B b mb r vl) (hf : r.Fit) (hv : OwnS w B2 65 4 v (mbRows r.l)) (hs : s < 4294967296) :
    Calls Try.prog 26 #[ptr b, rrV (r.most : Int) v, .int .i64 id, .int .u32 (s : Int)] w (SaysR (.bool true) w) := by
  have hl1000 : r.l.length ≤ 1000 := by have := hf.few; have := hf.most; omega
  obtain ⟨most, hmost⟩ : ∃ most : Int, (r.most : Int) = most := ⟨_, rfl⟩
  rw [hmost]
  have HF := Lib.hid hf
  have HR := Lib.hid h
  have HV := Lib.hid hv
  obtain ⟨A, c, rfl, hc⟩ := hv.slice
  rw [mbRows_length] at HV hc ⊢
  obtain ⟨N, hN⟩ : ∃ N, r.l.length = N := ⟨_, rfl⟩
  have HN := Lib.hid hN
  rw [hN] at hc HV ⊢
  have hNN : N ≤ 1000 := by rw [← hN]; exact hl1000
  have HLL := Lib.hid hl1000
  obtain ⟨g1, hg1⟩ := getV_form (getM r.l id)
  have HG1 := Lib.hid (fun (wx : World) (h : Ror wx B b mb r vl) => hg1 ▸ get_is B b mb id r vl wx h hl1000)
  have HG2 := Lib.hid (fun (wx : World) (h : OwnS wx B2 65 4 (.slice A N c) (mbRows r.l)) => hg1 ▸ rget_is B2 most id r.l (.slice A N c) wx h hl1000)
  obtain ⟨g2, o2, hg2⟩ := srcV_form (ownM r.l s) s
  have HS1 := Lib.hid (fun (wx : World) (h : Ror wx B b mb r vl) => hg2 ▸ source_is B b mb s r vl wx h hf hs)
  have HS2 := Lib.hid (fun (wx : World) (h : OwnS wx B2 65 4 (.slice A N c) (mbRows r.l)) => hg2 ▸ rsource_is B2 most s r.l (.slice A N c) wx h hl1000)
  have HIds := Lib.hid (fun (wx : World) (h : Ror wx B b mb r vl) => ids_is B b mb r vl wx h hl1000)
  have HAll := Lib.hid (fun (wx : World) (h : Ror wx B b mb r vl) => all_is B b mb r vl wx h hl1000)
  generalize (getM r.l id).isSome = s1 at *
  generalize (ownM r.l s).isSome = s2 at *
  clear hg1 hg2 hmost h hv hf hN hl1000 hs
  go_enter Try.func26, Try.ntmps26
  go_upto_region 1 with (fail)
  have ha := (Only.refl (fun _ => False) w).alloc (.cells #[.int .i64 most, .slice A N c] 54)
  have I0 := Lib.hid (Is.made w 54 #[.int .i64 most, .slice A N c])
  have HO := Lib.hid ha
  generalize w.alloc (.cells #[.int .i64 most, .slice A N c] 54) = w0 at *
  obtain ⟨xb, hxb⟩ : ∃ xb, w.heap.size = xb := ⟨_, rfl⟩
  rw [hxb] at I0 ⊢
  clear ha hxb
  go_wp2_with fail
  refine (HG1.out w0 (HR.out.pure HO.out)).mono ?_
  rintro e w1 ⟨rfl, ho⟩
  replace HO := Lib.hid (HO.out.trans ho (fun _ _ e => e))
  replace I0 := Lib.hid (I0.out.only ho (by simp))
  clear ho
  go_upto_region 2 with (fail)
  have ha := (Only.refl (fun _ => False) w1).alloc (.cells #[.int .i64 g1.id, .int .u32 (g1.co : Int), .int .u32 (g1.ca : Int), .bool g1.mo] 58)
  have I9 := Lib.hid (show Is _ w1.heap.size 58 (mbA g1) from Is.made w1 58 #[.int .i64 g1.id, .int .u32 (g1.co : Int), .int .u32 (g1.ca : Int), .bool g1.mo])
  replace HO := Lib.hid (HO.out.trans ha (fun _ _ e => e))
  replace I0 := Lib.hid (I0.out.only ha (by simp))
  generalize w1.alloc (.cells #[.int .i64 g1.id, .int .u32 (g1.co : Int), .int .u32 (g1.ca : Int), .bool g1.mo] 58) = w2 at *
  generalize w1.heap.size = m9 at *
  clear ha
  go_wp2_with (refine wpList_load_row (o := ⟨some 29, _, _, _, _, _⟩) rfl _ _ rfl xb rfl _ _ _ _ I0.out Try.underlying54 rfl Try.sizeRo ?_)
  refine (HG2.out w2 (HV.out.only HO.out (by simp))).mono ?_
  rintro e w3 ⟨rfl, ho⟩
  replace HO := Lib.hid (HO.out.trans ho (fun _ _ e => e))
  replace I0 := Lib.hid (I0.out.only ho (by simp))
  replace I9 := Lib.hid (I9.out.only ho (by simp))
  clear ho
  go_upto_region 3 with (fail)
  have ha := (Only.refl (fun _ => False) w3).alloc (.cells #[.int .i64 g1.id, .int .u32 (g1.co : Int), .int .u32 (g1.ca : Int), .bool g1.mo] 65)
  have I11 := Lib.hid (show Is _ w3.heap.size 65 (mbA g1) from Is.made w3 65 #[.int .i64 g1.id, .int .u32 (g1.co : Int), .int .u32 (g1.ca : Int), .bool g1.mo])
  replace HO := Lib.hid (HO.out.trans ha (fun _ _ e => e))
  replace I0 := Lib.hid (I0.out.only ha (by simp))
  replace I9 := Lib.hid (I9.out.only ha (by simp))
  generalize w3.alloc (.cells #[.int .i64 g1.id, .int .u32 (g1.co : Int), .int .u32 (g1.ca : Int), .bool g1.mo] 65) = w4 at *
  generalize w3.heap.size = m11 at *
  clear ha
  go_wp2_with fail
  refine (HS1.out w4 (HR.out.pure HO.out)).mono ?_
  rintro e w5 ⟨rfl, ho⟩
  replace HO := Lib.hid (HO.out.trans ho (fun _ _ e => e))
  replace I0 := Lib.hid (I0.out.only ho (by simp))
  replace I9 := Lib.hid (I9.out.only ho (by simp))
  replace I11 := Lib.hid (I11.out.only ho (by simp))
  clear ho
  go_upto_region 4 with (fail)
  have ha := (Only.refl (fun _ => False) w5).alloc (.cells #[.int .i64 g2.id, .int .u32 (g2.co : Int), .int .u32 (g2.ca : Int), .bool g2.mo] 58)
  have I13 := Lib.hid (show Is _ w5.heap.size 58 (mbA g2) from Is.made w5 58 #[.int .i64 g2.id, .int .u32 (g2.co : Int), .int .u32 (g2.ca : Int), .bool g2.mo])
  replace HO := Lib.hid (HO.out.trans ha (fun _ _ e => e))
  replace I0 := Lib.hid (I0.out.only ha (by simp))
  replace I9 := Lib.hid (I9.out.only ha (by simp))
  replace I11 := Lib.hid (I11.out.only ha (by simp))
  generalize w5.alloc (.cells #[.int .i64 g2.id, .int .u32 (g2.co : Int), .int .u32 (g2.ca : Int), .bool g2.mo] 58) = w6 at *
  generalize w5.heap.size = m13 at *
  clear ha
  go_wp2_with (refine wpList_load_row (o := ⟨some 42, _, _, _, _, _⟩) rfl _ _ rfl xb rfl _ _ _ _ I0.out Try.underlying54 rfl Try.sizeRo ?_)
  refine (HS2.out w6 (HV.out.only HO.out (by simp))).mono ?_
  rintro e w7 ⟨rfl, ho⟩
  replace HO := Lib.hid (HO.out.trans ho (fun _ _ e => e))
  replace I0 := Lib.hid (I0.out.only ho (by simp))
  replace I9 := Lib.hid (I9.out.only ho (by simp))
  replace I11 := Lib.hid (I11.out.only ho (by simp))
  replace I13 := Lib.hid (I13.out.only ho (by simp))
  clear ho
  go_upto_region 5 with (fail)
  have ha := (Only.refl (fun _ => False) w7).alloc (.cells #[.int .i64 g2.id, .int .u32 (g2.co : Int), .int .u32 (g2.ca : Int), .bool g2.mo] 65)
  have I16 := Lib.hid (show Is _ w7.heap.size 65 (mbA g2) from Is.made w7 65 #[.int .i64 g2.id, .int .u32 (g2.co : Int), .int .u32 (g2.ca : Int), .bool g2.mo])
  replace HO := Lib.hid (HO.out.trans ha (fun _ _ e => e))
  replace I0 := Lib.hid (I0.out.only ha (by simp))
  replace I9 := Lib.hid (I9.out.only ha (by simp))
  replace I11 := Lib.hid (I11.out.only ha (by simp))
  replace I13 := Lib.hid (I13.out.only ha (by simp))
  generalize w7.alloc (.cells #[.int .i64 g2.id, .int .u32 (g2.co : Int), .int .u32 (g2.ca : Int), .bool g2.mo] 65) = w8 at *
  generalize w7.heap.size = m16 at *
  clear ha
  have HZ := Lib.hid (show m16 < w8.heap.size from I16.out.lt)
  go_wp2_with fail
  refine (HIds.out w8 (HR.out.pure HO.out)).mono ?_
  rintro e w9 ⟨vi, rfl, hi, ho⟩
  have HI := Lib.hid hi
  have HO8 := Lib.hid HO.out
  have HO9 := Lib.hid ho
  replace HO := Lib.hid (HO.out.trans ho (fun _ _ e => e))
  clear ho hi
  obtain ⟨Ai, ci, rfl, -⟩ := HI.out.slice
  have hli : (inRows (r.l.map (·.id))).length = N := by rw [inRows_length, List.length_map, HN.out]
  rw [hli] at HI ⊢
  go_wp2_with fail
  refine (HAll.out w9 (HR.out.pure HO.out)).mono ?_
  rintro e wA ⟨vm, rfl, hm, ho⟩
  have HM := Lib.hid hm
  replace HI := Lib.hid (HI.out.only ho (by simp))
  have HO10 := Lib.hid (HO9.out.trans ho (fun _ _ e => e))
  replace HO := Lib.hid (HO.out.trans ho (fun _ _ e => e))
  have HO9s := Lib.hid HO9.out.size
  clear ho hm hli
  obtain ⟨Am, cm, rfl, -⟩ := HM.out.slice
  rw [mbRows_length, HN.out] at HM ⊢
  go_upto_region 6 with (fail)
  refine ris6 most A Ai Am N c ci cm g1 g2 s1 o2 s2 B b mb r vl xb m9 m11 m13 m16 wA HN.out _ _ _ _ _ _ _ _ _ _ _ _ _ _ _ _ _ _ _ _ _ _ _ _ _ _ _ _ _ _ _ _ _ _ _ _ _ _ _ _ _ _ _ _ _ _ _ _ _ _ _ _ _ _ _ _ _ _ _ _ _ _ _ _ _ _ _ _ _ _ _ _ _ _ _ _ _ _ _ _ _ _ _ _ _ _ _ _ _ _ _ _ _ _ _ _ _ _ _ _ _ _ _ _ _ _ _ _ _ _ _ _ _ _ _ _ _ _ _ _ _ _ _ _ _ wA ⟨HR.out.pure HO.out, I0.out.only HO10.out (by simp), I9.out.only HO10.out (by simp), I11.out.only HO10.out (by simp), I13.out.only HO10.out (by simp), I16.out.only HO10.out (by simp), Only.refl _ _⟩ ?_
  rintro y52 y53 y54 y55 y56 y57 y58 y59 y60 y61 y62 y63 y64 y65 y66 y67 y68 y69 y70 y71 y72 y73 y74 y75 y76 y77 y78 y79 y80 y81 y82 y83 y84 y85 y86 y87 y88 y89 y90 y91 y92 y93 y94 y95 y96 y97 y98 y99 wB hB
  have HOB := Lib.hid (HO.out.trans (show Only (fun _ => False) wA wB from hB.only) (fun _ _ e => e))
  have I0B := Lib.hid hB.io
  have HIB := Lib.hid (HI.out.only hB.only (by simp))
  have HMB := Lib.hid (HM.out.only hB.only (by simp))
  have HVB := Lib.hid (HV.out.only HOB.out (by simp))
  have HMsz := Lib.hid (show m16 < w9.heap.size by have := HZ.out; have := HO9s.out; omega)
  have HI0l := Lib.hid I0.out.lt
  have hvi : ∀ j, Value.ownBlock (.slice Ai N ci) = some j → Value.ownBlock (.slice Am N cm) ≠ some j := owned_apart HIB.out.1 HMB.out.1 (by decide)
  have hvn : ∀ j, Value.ownBlock (.slice A N c) = some j → ¬ (Value.ownBlock (.slice Ai N ci) = some j ∨ Value.ownBlock (.slice Am N cm) = some j) := fun j hj e => by
    have h1 := (HV.out.lt j hj).2
    have h2 := HO8.out.size
    rcases e with e | e
    · have := (HIB.out.lt j e).1; omega
    · exact owned_apart HVB.out.1 HMB.out.1 (by decide) j hj e
  have hxn : ¬ (Value.ownBlock (.slice Ai N ci) = some xb ∨ Value.ownBlock (.slice Am N cm) = some xb) := fun e => by
    rcases e with e | e
    · exact owned_off HIB.out.1 I0B.out (by decide) e
    · exact owned_off HMB.out.1 I0B.out (by decide) e
  have HVI := Lib.hid hvi
  have HVN := Lib.hid hvn
  have HXN := Lib.hid hxn
  have HS0 := Lib.hid (show ∃ (li : List Int) (lm : List Mb), li.length = N ∧ lm.length = N ∧ (∀ i, 0 ≤ i → li[i]? = (r.l.map (·.id))[i]?) ∧ (∀ i, 0 ≤ i → lm[i]? = r.l[i]?) ∧ OwnS wB w8.heap.size 3 1 (.slice Ai N ci) (inRows li) ∧ OwnS wB w9.heap.size 58 4 (.slice Am N cm) (mbRows lm) from
    ⟨_, _, by rw [List.length_map, HN.out], HN.out, fun _ _ => rfl, fun _ _ => rfl, HIB.out, HMB.out⟩)
  clear hvi hvn hxn hB HG1 HG2 HS1 HS2 HIds HAll I0 I9 I11 I13 I16
  go_wp2
  go_loopw [21] (fun s21 wr => ∃ k : Nat, k ≤ N ∧ s21 = .int .i64 (k : Int) ∧ Hid (Only (fun j => Value.ownBlock (.slice Ai N ci) = some j ∨ Value.ownBlock (.slice Am N cm) = some j) wB wr) ∧ Hid (∃ (li : List Int) (lm : List Mb), li.length = N ∧ lm.length = N ∧ (∀ i, k ≤ i → li[i]? = (r.l.map (·.id))[i]?) ∧ (∀ i, k ≤ i → lm[i]? = r.l[i]?) ∧ OwnS wr w8.heap.size 3 1 (.slice Ai N ci) (inRows li) ∧ OwnS wr w9.heap.size 58 4 (.slice Am N cm) (mbRows lm))) (fun s21 _ => N - (intOf s21).toNat)
  case atStart => exact ⟨0, by omega, rfl, Lib.hid (Only.refl _ _), HS0⟩
  case round =>
    obtain ⟨k, hk, rfl, hOr, hSr⟩ := hrel
    by_cases hkl : k < N
    · obtain ⟨li, lm, hl1, hl2, h3, h4, h5, h6⟩ := hSr.out
      have hkI : (k : Int) < (N : Int) := by omega
      have hkx : k < r.l.length := by rw [HN.out]; exact hkl
      have hx : r.l[k]? = some r.l[k] := List.getElem?_eq_getElem hkx
      have hrx := HVB.out.only hOr.out HVN.out
      have hI0 := I0B.out.only hOr.out HXN.out
      obtain ⟨gi, ci', e1, -⟩ := h5.place (by rw [inRows_length]; omega)
      obtain ⟨hA1, -, -⟩ := Value.slice.inj e1
      obtain ⟨gm, cm', e2, -⟩ := h6.place (by rw [mbRows_length]; omega)
      obtain ⟨hA2, -, -⟩ := Value.slice.inj e2
      obtain ⟨gx, cx', e3, -⟩ := hrx.place (by rw [mbRows_length]; omega)
      obtain ⟨hA3, -, -⟩ := Value.slice.inj e3
      subst hA1 hA2 hA3
      clear e1 e2 e3
      have hxi : li[k]? = some r.l[k].id := by rw [h3 k (Nat.le_refl _), List.getElem?_map, hx]; rfl
      have hxm : lm[k]? = some r.l[k] := by rw [h4 k (Nat.le_refl _), hx]
      have q1 := range_cell (j := 0) (h5.range (g := gi) rfl (inRows_get hxi)) rfl
      rw [Nat.mul_one, Nat.add_zero] at q1
      have q2 := h6.range (g := gm) rfl (mbRows_get hxm)
      have q3 := hrx.range (g := gx) rfl (mbRows_get hx)
      have hG := Lib.hid (show Fj most N c r.l[k] gi gm gx k xb wr wr from ⟨hI0, q1, q2, q3, (h5.lt gi rfl).2, (h6.lt gm rfl).2, (hrx.lt gx rfl).2, Only.refl _ _⟩)
      have H5 := Lib.hid h5
      have H6 := Lib.hid h6
      have HL := Lib.hid (And.intro hl1 hl2)
      have HL3 := Lib.hid (show ∀ i, k + 1 ≤ i → (li.set k 77)[i]? = (r.l.map (·.id))[i]? from fun i hi => by rw [List.getElem?_set_ne (by omega), h3 i (by omega)])
      have HL4 := Lib.hid (show ∀ i, k + 1 ≤ i → (lm.set k mb0)[i]? = r.l[i]? from fun i hi => by rw [List.getElem?_set_ne (by omega), h4 i (by omega)])
      have hgig : gi ≠ gm := fun e => HVI.out gi rfl (by rw [e]; rfl)
      generalize r.l[k] = x at *
      clear h3 h4 h5 h6 hl1 hl2 hx hkx hrx hI0 hxi hxm q1 q2 q3 hSr
      go_upto_region 11 with (fail)
      refine ris11 most N c ci cm x gi gm gx k xb wr hkI _ _ _ _ _ _ _ _ _ _ _ _ _ _ _ _ _ _ _ _ _ _ _ _ _ _ _ _ _ _ _ _ _ _ _ _ _ _ _ _ _ _ _ _ _ _ _ _ _ _ _ _ _ _ _ _ _ _ _ _ _ _ _ _ _ _ _ _ _ _ _ _ _ _ _ _ _ _ _ _ _ _ _ _ _ _ _ _ _ _ _ _ _ _ _ _ _ _ _ _ _ _ _ _ _ _ _ _ _ _ _ _ _ _ _ _ _ _ _ _ _ _ _ _ _ _ _ _ _ _ _ _ _ _ _ wr hG.out ?_
      rintro y107 y108 y109 y110 y111 y112 y113 y114 y115 y116 y117 y118 y119 y120 y121 y122 y123 y124 y125 y126 y127 y128 y129 wC hC
      have HC := Lib.hid hC.only
      clear hC hG
      have H5C := Lib.hid (H5.out.only HC.out (by simp))
      have H6C := Lib.hid (H6.out.only HC.out (by simp))
      have hgi : gi < wC.heap.size := (H5C.out.lt gi rfl).2
      obtain ⟨curI, hII, hIsz, hIl, -, -⟩ := own_is H5C.out
      have c1 : (wC.cell? ⟨gi, k, none⟩).isSome = true := by
        rw [hII.cell, Array.getElem?_eq_getElem (by have := HL.out.1; rw [inRows_length] at hIl; omega)]; rfl
      have f1 := hII.free k
      obtain ⟨u, hu⟩ := Option.isSome_iff_exists.1 c1
      have hw := H5C.out.write (g := gi) (i := k) (cs := [.int .i64 77]) rfl (by rw [inRows_length, HL.out.1]; exact hkl) rfl
      rw [inRows_set, Nat.mul_one] at hw
      have hset : wC.setCells gi k [.int .i64 77] = wC.setCell ⟨gi, k, none⟩ (.int .i64 77) := rfl
      rw [hset] at hw
      have HW1 := Lib.hid hw.1
      have HW2 := Lib.hid hw.2
      clear hw hset hII hIsz hIl c1
      go_upto_region 14 with (fail)
      have H6D := Lib.hid (H6C.out.only HW2.out (fun j hj e => hgig (by rw [← e]; exact (Option.some.inj hj).symm)))
      generalize wC.setCell ⟨gi, k, none⟩ (.int .i64 77) = wD at *
      have hth := Lib.hid (H6D.out.there (g := gm) (i := k) rfl (by rw [mbRows_length, HL.out.2]; exact hkl))
      have hw := H6D.out.write (g := gm) (i := k) (cs := mbCells mb0) rfl (by rw [mbRows_length, HL.out.2]; exact hkl) rfl
      rw [mbRows_set] at hw
      have HX1 := Lib.hid hw.1
      have HX2 := Lib.hid hw.2
      clear hw hu f1
      go_wp2_with (refine wpList_store_midw rfl 58 _ _ rfl gm (k * 4) zeroMb rfl rfl hth.out Try.sizeMb (by simp [Value.oneCell', zeroMb]) ?_; intro wE hwE; replace hwE := Lib.hid hwE)
      have hE : wE = wD.setCells gm (k * 4) (mbCells mb0) := hwE.out
      have K1 : Only (fun j => j = gi ∨ j = gm) wC wE := by
        rw [hE]
        exact (HW2.out.mono (fun _ _ e => .inl e)).trans HX2.out (fun _ _ e => .inr e)
      have K5 := Lib.hid (show OwnS wE w8.heap.size 3 1 (.slice (some ⟨gi, 0, none⟩) N ci) (inRows (li.set k 77)) from by
        rw [hE]
        exact HW1.out.only HX2.out (fun j hj e => hgig (by rw [← e]; exact Option.some.inj hj)))
      have K6 := Lib.hid (show OwnS wE w9.heap.size 58 4 (.slice (some ⟨gm, 0, none⟩) N cm) (mbRows (lm.set k mb0)) from by rw [hE]; exact HX1.out)
      have KO := Lib.hid ((hOr.out.trans HC.out (fun _ _ e => e.elim)).trans K1 (fun j _ e => by
        rcases e with e | e
        · exact .inl (by rw [e]; rfl)
        · exact .inr (by rw [e]; rfl)))
      exact ⟨⟨k + 1, by omega, by go_num, KO, Lib.hid ⟨_, _, by rw [List.length_set]; exact HL.out.1, by rw [List.length_set]; exact HL.out.2, HL3.out, HL4.out, K5.out, K6.out⟩⟩, by simp [intOf]; omega⟩
    · obtain rfl : k = N := by omega
      go_wp2
      go_ret
      refine ⟨rfl, HOB.out.trans hOr.out (fun i hi e => ?_)⟩
      have h2 := HO8.out.size
      have h3 := HO9s.out
      rcases e with e | e
      · have := (HIB.out.lt i e).1; omega
      · have := (HMB.out.lt i e).1; omega
end Go.Proofs.Ytglgmhdajmncjaa
