/- ext.Parse: its walk. Conditions: as each says. -/
import Derived.Test.YtcgfmjdlningpaaExDb
import Derived.WalkMore
set_option linter.unusedVariables false
namespace Go.Proofs.Ytcgfmjdlningpaa
open Go.RowKit

set_option maxRecDepth 100000 in
set_option maxHeartbeats 1000000 in
theorem expar_none (p : Nat) (v : Value) (w : World) (hv : ∃ A n c, v = .slice A n c) (hp : p < 65536) (hf : formB p = 0) :
    Calls Try.prog 25 #[.int .u16 p, v] w fun e w' => e = .returned (.tuple #[.slice none 0 0, .int .i64 30]) ∧ Only (fun _ => False) w w' := by
  obtain ⟨A, n, c, rfl⟩ := hv
  have HN := Lib.hid (fun w => formOf_none p w hp hf)
  have VF := Lib.hid zeroF_one
  clear hf
  go_enter Try.func25, Try.ntmps25
  go_wp2
  go_step3
  go_wp2_with (first | (go_at_call 61; refine (HN.out _).mono ?_; rintro e w1 ⟨rfl, ho1⟩; have O1 := Lib.hid ho1; clear ho1) | (refine wpList_store_is rfl 104 _ _ rfl w1.heap.size zeroF rfl rfl 104 zeroF (Is.made _ _ zeroF) Try.sizeForm rfl VF.out ?_; intro w2 hi2 ho2))
  try rw [Exit.noGoto_ret]
  go_ret2
  exact ⟨rfl, only_more O1.out (only_made ho2)⟩
set_option maxRecDepth 100000 in
set_option maxHeartbeats 1000000 in
theorem expar_odd (p : Nat) (v : Value) (bs : List Nat) (w : World) (hs : Src w v bs) (hp : p < 65536) (hf : formB p ≠ 0) (hl : bs.length ≤ 1000000) (h4 : bs.length % 4 ≠ 0) :
    Calls Try.prog 25 #[.int .u16 p, v] w fun e w' => e = .returned (.tuple #[.slice none 0 0, .int .i64 3]) ∧ Only (fun _ => False) w w' := by
  obtain ⟨A, c, rfl⟩ := hs.slice
  have HN := Lib.hid (fun w => formOf_some p w hp hf)
  generalize (formB p == 1) = one at *
  have VF := Lib.hid (formC_one one)
  have e4 : ((bs.length : Int) % 4 != 0) = true := by simp; omega
  clear hf h4 hs
  generalize bs.length = L at *
  go_enter Try.func25, Try.ntmps25
  go_wp2
  go_step3
  go_wp2_with (first | (go_at_call 61; refine (HN.out _).mono ?_; rintro e w1 ⟨rfl, ho1⟩; have O1 := Lib.hid ho1; clear ho1) | (refine wpList_store_is rfl 104 _ _ rfl w1.heap.size (formC one) rfl rfl 104 zeroF (Is.made _ _ zeroF) Try.sizeForm rfl VF.out ?_; intro w2 hi2 ho2))
  try rw [Exit.noGoto_ret]
  go_ret2
  exact ⟨rfl, only_more O1.out (only_made ho2)⟩
/-- Amid Parse. -/
structure Exs (one : Bool) (bs : List Nat) (w : World) (fb rb : Nat) (rv s8 : Value) (i : Nat) (done : List El) (vs : List Value) (B : Nat) (wr : World) : Prop where
  le : i ≤ bs.length
  rdr : Rdr wr rb bs (8 * i) 0 rv
  els : Els wr B 50 s8 vs done
  form : Is wr fb 104 (formC one)
  pure : Only (fun _ => False) w wr
  eq : exP one bs = ((exP one (bs.drop i)).1, done ++ (exP one (bs.drop i)).2)
  len : done.length ≤ i

set_option maxRecDepth 100000 in
set_option maxHeartbeats 8000000 in
theorem expar_good (one : Bool) (p : Nat) (v : Value) (bs : List Nat) (w : World) (hs : Src w v bs) (hb : ∀ x ∈ bs, x < 256) (hp : p < 65536) (hf : formB p ≠ 0) (hone : (formB p == 1) = one) (hl : bs.length ≤ 100000) (h4 : bs.length % 4 = 0) :
    Calls Try.prog 25 #[.int .u16 p, v] w (ExParEnd 50 (exP one bs) w) := by
  obtain ⟨A, c, rfl⟩ := hs.slice
  have HN := Lib.hid (fun w => formOf_some p w hp hf)
  rw [hone] at HN
  have VF := Lib.hid (formC_one one)
  have HB := Lib.hid hb
  have e4 : ((bs.length : Int) % 4 != 0) = false := by simp; omega
  obtain ⟨B, hB⟩ : ∃ n, w.heap.size = n := ⟨_, rfl⟩
  have HBW := Lib.hid hB.symm
  obtain ⟨L, hL⟩ : ∃ L, bs.length = L := ⟨_, rfl⟩
  have HL := Lib.hid hL
  rw [hL] at hl e4 hs ⊢
  have HS := Lib.hid hs
  clear hf h4 hs hb hL hB hone
  go_enter Try.func25, Try.ntmps25
  go_wp2
  go_step3
  go_wp2_with (first
    | (go_at_call 61; refine (HN.out _).mono ?_; rintro e w1 ⟨rfl, ho1⟩; have O1 := Lib.hid ho1; clear ho1)
    | (refine wpList_store_is rfl 104 _ _ rfl w1.heap.size (formC one) rfl rfl 104 zeroF (Is.made _ _ zeroF) Try.sizeForm rfl VF.out ?_; intro w2 hi2 ho2; have O2 := Lib.hid (only_more O1.out (only_made ho2)); have I2 := Lib.hid hi2; clear hi2 ho2)
    | (go_at_call 62; refine (of_src _ bs _ 0 (Nat.zero_le _) (HS.out.of_only O2.out) (by rw [HL.out]; omega)).mono ?_; rintro e w3 ⟨rb, rv, rfl, hrb, hir, hor, hlr, hor3⟩; have O3 := Lib.hid (only_more O2.out hor3); have I3 := Lib.hid (I2.out.only hor3 (by simp)); have HR3 := Lib.hid (show Rdr w3 rb bs 0 0 rv from ⟨hir, hor, HB.out, by rw [HL.out]; omega, by omega⟩); have RBB := Lib.hid (show w.heap.size ≤ rb from Nat.le_trans O2.out.size hrb); clear hrb hir hor hlr hor3))
  go_step3
  go_wp2_with fail
  generalize w1.heap.size = fb at *
  clear e4 I2 O1 O2 VF HN
  go_loopw [8] (fun s8 wr => ∃ (i : Nat) (done : List El) (vs : List Value), Exs one bs w fb rb rv s8 i done vs B wr) (fun _ wr => rdAt L rb wr)
  case atStart =>
    exact ⟨0, [], [], Nat.zero_le _, HR3.out, Els.nil _ _ _, I3.out, O3.out, by simp, Nat.le_refl _⟩
  case round =>
    obtain ⟨i, done, vs, hX⟩ := hrel
    obtain ⟨Al, cl, rfl, -⟩ := hX.els.slice
    have HR0 := Lib.hid hX.rdr
    have HX := Lib.hid hX
    have hiL := hX.le
    rw [HL.out] at hiL
    clear hX
    have HLF := Lib.hid (fun w' (ho : Only (fun _ => False) wr w') => left_pure rb (8 * i) bs 0 rv w' (HR0.out.pure ho))
    rw [HL.out] at HLF
    by_cases hlt : i < L
    · have zl : decide ((0 : Int) < ((8 * L - 8 * i : Nat) : Int)) = true := decide_eq_true (by omega)
      have zl' : decide (0 < 8 * L - 8 * i) = true := decide_eq_true (by omega)
      obtain ⟨b, hb0⟩ : ∃ b, bs[i]? = some b := ⟨_, List.getElem?_eq_getElem (by rw [HL.out]; exact hlt)⟩
      have HRS := Lib.hid (show bs.drop i = b :: bs.drop (i + 1) from by
        obtain ⟨hk', rfl⟩ := List.getElem?_eq_some_iff.1 hb0
        exact List.drop_eq_getElem_cons hk')
      have hb256 : b < 256 := HB.out b (List.mem_of_getElem? hb0)
      have HTK := Lib.hid (fun w' (ho : Only (fun _ => False) wr w') => take_ok rb (8 * i) 8 bs rv w' (HR0.out.pure ho) (by omega) (by rw [HL.out]; omega))
      have hnum : num bs (8 * i) 8 = b := by
        rw [digs_val_byte bs i (by rw [HL.out]; exact hlt) HB.out]
        exact (List.getElem?_eq_some_iff.1 hb0).2
      rw [hnum] at HTK
      have e8 : IntKind.u8.wrap (b : Int) = (b : Int) := by rw [IntKind.wrap_u8]; omega
      clear hnum hb0
      generalize 8 * L - 8 * i = lf at *
      go_upto_region 10 with (first
        | (go_at_call 63; refine (HLF.out _ (Only.refl _ _)).mono ?_; rintro e wl ⟨rfl, hol⟩; have OL := Lib.hid hol; clear hol)
        | (go_at_call 64; refine (HTK.out _ OL.out).mono ?_; rintro e w2 ⟨rfl, hr2, ho2⟩; have HR2 := Lib.hid hr2; have O12 := Lib.hid (show Only (fun k => k = rb) wr w2 from (OL.out.mono (fun _ _ h => h.elim)).trans ho2 (fun _ _ e => e)); clear hr2 ho2))
      have IF2 := Lib.hid (rd_far HX.out.form HR0.out (by decide) O12.out)
      have HE2 := Lib.hid (els_far HX.out.els HR0.out.is (by decide) (by decide) O12.out)
      have O2 := Lib.hid (rd_new HX.out.pure RBB.out O12.out)
      have EQ := Lib.hid HX.out.eq
      have HDN2 := Lib.hid HX.out.len
      have HDN := Lib.hid (show done.length ≤ 100000 from by have := HX.out.len; omega)
      obtain ⟨bd, hbd⟩ : ∃ n, w2.heap.size = n := ⟨_, rfl⟩
      have BBD := Lib.hid (show B ≤ bd from by rw [← hbd, HBW.out]; exact O2.out.size)
      have HLOW := Lib.hid (show ∀ a ∈ vs, ∀ k, a.ownBlock = some k → k < bd from by rw [← hbd]; exact HE2.out.bods.low)
      have HBDD := Lib.hid hbd
      clear HLF HTK OL zl zl' hbd HX
      have hR2 := HR2.out
      clear hR2
      have HI1 := Lib.hid (show i + 1 ≤ bs.length from by rw [HL.out]; omega)
      have HRN := Lib.hid (show Rdr w2 rb bs (8 * (i + 1)) 0 rv from HR2.out)
      cases one
      · have f3 := IF2.out.cell 3
        have f0 := IF2.out.cell 0
        simp [formC, fLast, fLeast, fMost, fDig, fFn] at f3 f0
        by_cases hb0 : b = 0
        · have ez : ((b : Int) == 0) = true := by simp [hb0]
          have HPD := Lib.hid (exs_pad HRS.out hb0 EQ.out)
          clear hb0
          go_wp2_with fail
          refine ⟨⟨i + 1, done, vs, HI1.out, HRN.out, HE2.out, IF2.out, O2.out, HPD.out, by have := HDN2.out; omega⟩, ?_⟩
          rw [rdAt_is HRN.out, rdAt_is HR0.out]
          omega
        · have ez : ((b : Int) == 0) = false := by simp; omega
          have ez2 : decide ((255 : Int) < (b : Int)) = false := decide_eq_false (by omega)
          obtain ⟨num, p5, f5, dat, p9, f9, hn3, h5, h9, hnx⟩ := ex_two rb rv (by have := HI1.out; omega) HRS.out HB.out hb0 EQ.out
          have H5 := Lib.hid h5
          have H9 := Lib.hid h9
          have HNX := Lib.hid hnx
          have en1 : IntKind.i64.wrap (num : Int) = (num : Int) := IntWalk.i64_in _ (by omega)
          clear h5 h9 hnx hb0
          go_upto_region 15 with (fail)
          clear f3 f0
          refine wp_region_posts [[], [], [1], [], [], [2, 3, 4, 1], [], [6], [5, 7, 2, 3, 4, 1, 6], [0, 8, 5, 7, 2, 3, 4, 1, 6], [9, 0, 1, 2, 3, 4, 5, 6, 7, 8]] [5, 9] [5, 9, 10, 11] [[], [], [], [], [], [11], [], [], [], [5, 11], []] [[], [], [], [], [], [11], [], [], [], [5], [9]] [10] [] [] [11]
              [some ?vf0, some ?vf1, some ?vf2, some ?vf3, some ?vf4, some (.int .i64 (num : Nat)), some ?vf6, some ?vf7, some ?vf8, none, none]
              ?Tf (fun wx => Is wx fb 104 (formC false) ∧ Els wx B 50 (.slice Al done.length cl) vs done ∧ Only (fun _ => False) w wx ∧ bd ≤ wx.heap.size) ?Wf ?Ef (by kernel_rfl) (by kernel_rfl) (by kernel_rfl) (fun x => ?hTf) ?hFf ?hinif (Reg.all_ops ?runsf) ?presf ?finf
          case Wf => exact fun j x w' => match j with | 11 => Rdr w' rb bs (8 * i + 8) 0 rv | 5 => Rdr w' rb bs p5 f5 rv | 9 => (∃ A c, x 9 = .slice A dat.length c) ∧ Rdr w' rb bs p9 f9 rv ∧ w'.ownsRow bd 5 1 (x 9) dat.length (cellsOf dat) | 10 => x 10 = x 9 ∧ (∃ A c, x 9 = .slice A dat.length c) ∧ Rdr w' rb bs p9 f9 rv ∧ w'.ownsRow bd 5 1 (x 9) dat.length (cellsOf dat) | _ => True
          case Ef => exact fun i w' w'' => True
          case hTf =>
            simp only [Reg.fillV, Act.put, List.setIfInBounds_toArray, List.set_cons_zero, List.set_cons_succ]
            rfl
          case runsf =>
            refine And.intro ?_ ?_
            · refine Reg.ob_pure (fun _ => rfl) rfl rfl rfl rfl (fun x w1 hF => ?_)
              obtain ⟨hFF, hE, hO, hz⟩ := hF
              have f4 := hFF.cell 4
              have f1 := hFF.cell 1
              simp [formC, fLast, fLeast, fMost, fDig, fFn] at f4 f1
              go_simp
              with_reducible rfl
            refine And.intro ?_ ?_
            · refine Reg.ob_pure (fun _ => rfl) rfl rfl rfl rfl (fun x w1 hF => ?_)
              obtain ⟨hFF, hE, hO, hz⟩ := hF
              have f4 := hFF.cell 4
              have f1 := hFF.cell 1
              simp [formC, fLast, fLeast, fMost, fDig, fFn] at f4 f1
              go_simp
              with_reducible rfl
            refine And.intro ?_ ?_
            · refine Reg.ob_pure (fun _ => rfl) rfl rfl rfl rfl (fun x w1 hF => ?_)
              obtain ⟨hFF, hE, hO, hz⟩ := hF
              have f4 := hFF.cell 4
              have f1 := hFF.cell 1
              simp [formC, fLast, fLeast, fMost, fDig, fFn] at f4 f1
              go_simp
              with_reducible rfl
            refine And.intro ?_ ?_
            · refine Reg.ob_pure (fun _ => rfl) rfl rfl rfl rfl (fun x w1 hF => ?_)
              obtain ⟨hFF, hE, hO, hz⟩ := hF
              have f4 := hFF.cell 4
              have f1 := hFF.cell 1
              simp [formC, fLast, fLeast, fMost, fDig, fFn] at f4 f1
              go_simp
              with_reducible rfl
            refine And.intro ?_ ?_
            · refine Reg.ob_pure (fun _ => rfl) rfl rfl rfl rfl (fun x w1 hF => ?_)
              obtain ⟨hFF, hE, hO, hz⟩ := hF
              have f4 := hFF.cell 4
              have f1 := hFF.cell 1
              simp [formC, fLast, fLeast, fMost, fDig, fFn] at f4 f1
              go_simp
              with_reducible rfl
            refine And.intro ?_ ?_
            · refine Reg.ob_told (fun _ => rfl) rfl (fun x w1 hF hU K hK => ?_)
              obtain ⟨hFF, hE, hO, hz⟩ := hF rfl
              obtain ⟨hR, -⟩ := hU
              have hR : Rdr w1 rb bs (8 * i + 8) 0 rv := hR
              go_simp
              refine (H5.out w1 hR).mono ?_
              rintro e w3 ⟨rfl, hR3, ho⟩
              exact hK w3 (fun _ _ _ => ⟨rd_far hFF hR (by decide) ho, els_far hE hR.is (by decide) (by decide) ho, rd_new hO RBB.out ho, Nat.le_trans hz ho.size⟩) trivial hR3
            refine And.intro ?_ ?_
            · refine Reg.ob_pure (fun _ => rfl) rfl rfl rfl rfl (fun x w1 hF => ?_)
              obtain ⟨hFF, hE, hO, hz⟩ := hF
              have f4 := hFF.cell 4
              have f1 := hFF.cell 1
              simp [formC, fLast, fLeast, fMost, fDig, fFn] at f4 f1
              go_simp
              with_reducible rfl
            refine And.intro ?_ ?_
            · refine Reg.ob_pure (fun _ => rfl) rfl rfl rfl rfl (fun x w1 hF => ?_)
              obtain ⟨hFF, hE, hO, hz⟩ := hF
              have f4 := hFF.cell 4
              have f1 := hFF.cell 1
              simp [formC, fLast, fLeast, fMost, fDig, fFn] at f4 f1
              go_simp
              with_reducible rfl
            refine And.intro ?_ ?_
            · refine Reg.ob_pure (fun _ => rfl) rfl rfl rfl rfl (fun x w1 hF => ?_)
              obtain ⟨hFF, hE, hO, hz⟩ := hF
              have f4 := hFF.cell 4
              have f1 := hFF.cell 1
              simp [formC, fLast, fLeast, fMost, fDig, fFn] at f4 f1
              go_simp
              with_reducible rfl
            refine And.intro ?_ ?_
            · refine Reg.ob_some (fun _ => rfl) rfl (fun x w1 hF hU K hK => ?_)
              obtain ⟨hFF, hE, hO, hz⟩ := hF rfl
              obtain ⟨hR, -⟩ := hU
              have hR : Rdr w1 rb bs p5 f5 rv := hR
              go_simp
              refine (H9.out w1 hR).mono ?_
              rintro e w3 ⟨u, rfl, hu, hR3, ho⟩
              obtain ⟨Au, cu, rfl, -⟩ := own_slice hu
              exact hK _ w3 (fun _ _ _ => ⟨rd_far hFF hR (by decide) ho, els_far hE hR.is (by decide) (by decide) ho, rd_new hO RBB.out ho, Nat.le_trans hz ho.size⟩) trivial ⟨⟨Au, cu, rfl⟩, hR3, owned_low hu hz⟩
            refine And.intro ?_ ?_
            · refine Reg.ob_some (fun _ => rfl) rfl (fun x w1 hF hU K hK => ?_)
              obtain ⟨hW9, -⟩ := hU
              revert hK
              simp only [Nat.reduceAdd]
              intro hK
              go_simp
              exact hK _ _ (fun h => by cases h) rfl ⟨rfl, hW9⟩
            exact trivial
          case hFf =>
            exact ⟨IF2.out.only ((Only.refl (fun _ => False) _).drewN 1) (by simp), HE2.out.pure ((Only.refl _ _).drewN 1), O2.out.drewN 1, by rw [← HBDD.out]; exact Nat.le_refl _⟩
          case hinif =>
            exact ⟨fun x => HR2.out.pure ((Only.refl _ _).drewN 1), trivial⟩
          case presf =>
            intro i hi j hj hc x w1 w2 hF hE hW
            simp only [List.mem_cons, List.mem_nil_iff, or_false] at hi hj
            rcases hi with rfl | rfl <;> rcases hj with rfl | rfl | rfl | rfl
            all_goals (exfalso; revert hc; decide)
          case finf =>
            rintro x w5 hF ⟨⟨h10, ⟨Ad, cd, h9⟩, hR5, hD⟩, -⟩
            obtain ⟨hFF, hE, hO, hz⟩ := hF rfl
            have h10 : x 10 = x 9 := h10
            have h9 : x 9 = .slice Ad dat.length cd := h9
            have hD : w5.ownsRow bd 5 1 (x 9) dat.length (cellsOf dat) := hD
            simp only [Nat.reduceAdd, h10, h9] at hD ⊢
            have HR5 := Lib.hid hR5
            have HF5 := Lib.hid hFF
            have HE5 := Lib.hid hE
            have O5 := Lib.hid hO
            have HD5 := Lib.hid hD
            have SZ5 := Lib.hid hz
            have HER := Lib.hid (fun w' (ho : Only (fun _ => False) w5 w') => err_rdr rb p9 bs f9 rv w' (hR5.pure ho))
            clear hR5 hFF hE hO hD h10 h9 hz
            rcases HNX.out with ⟨rfl, hbad⟩ | ⟨rfl, j, hj1, hj2, rfl, heq⟩
            · have HBAD := Lib.hid hbad
              clear hbad
              go_wp2_with (go_at_call 66; refine (HER.out _ (Only.refl _ _)).mono ?_; rintro e w6 ⟨rfl, rfl⟩)
              go_ret2
              exact ⟨O5.out, .inl ⟨by rw [HBAD.out]; decide, by rw [HBAD.out]; rfl⟩⟩
            · have HEQ := Lib.hid heq
              have HJ1 := Lib.hid hj1
              have HJ2 := Lib.hid hj2
              have ROW := Lib.hid HE5.out.row
              have SZW := Lib.hid (show B ≤ w5.heap.size from by rw [HBW.out]; exact O5.out.size)
              have LX := Lib.hid (show (List.zipWith El.lst done vs).length ≤ 100000 from by rw [HE5.out.zip]; exact HDN.out)
              clear heq hj1 hj2
              go_wp2_with (first
                | (go_at_call 66; refine (HER.out _ (Only.refl _ _)).mono ?_; rintro e w6 ⟨rfl, rfl⟩)
                | (at_builtin; refine wpList_append_el sty_el _ rfl _ _ rfl B (.slice Al done.length cl) (List.zipWith El.lst done vs) ⟨b, dat⟩ (.slice Ad dat.length cd) ⟨_, _, _, rfl⟩ rfl ROW.out rfl LX.out (by decide) SZW.out ?_; intro v7 w7 hr7 hp7))
              have E7 := Lib.hid (els_next (T := 50) (by decide) (x := ⟨b, dat⟩) HE5.out HLOW.out BBD.out HD5.out hr7 hp7)
              have hR7 := rdr_row HR5.out HE5.out.row.1 (by decide) (by decide) hp7
              refine ⟨⟨j, done ++ [⟨b, dat⟩], vs ++ [.slice Ad dat.length cd], HJ2.out, hR7, E7.out, HF5.out.only hp7 (owned_off HE5.out.row.1 HF5.out (by decide)), O5.out.trans hp7 (fun i hi e => by have := (HE5.out.row.1.lt i e).1; have := HBW.out; omega), HEQ.out, by rw [List.length_append]; have := HDN2.out; have := HJ1.out; simp; omega⟩, ?_⟩
              rw [rdAt_is hR7, rdAt_is HR0.out]
              have := HJ1.out
              have := HJ2.out
              omega

      · have f3 := IF2.out.cell 3
        have f0 := IF2.out.cell 0
        simp [formC, fLast, fLeast, fMost, fDig, fFn] at f3 f0
        by_cases hb0 : b = 0
        · have ez : ((b : Int) == 0) = true := by simp [hb0]
          have HPD := Lib.hid (exs_pad HRS.out hb0 EQ.out)
          clear hb0
          go_wp2_with fail
          refine ⟨⟨i + 1, done, vs, HI1.out, HRN.out, HE2.out, IF2.out, O2.out, HPD.out, by have := HDN2.out; omega⟩, ?_⟩
          rw [rdAt_is HRN.out, rdAt_is HR0.out]
          omega
        · have ez : ((b : Int) == 0) = false := by simp; omega
          obtain ⟨idv, hidv⟩ : ∃ m, b / 16 = m := ⟨_, rfl⟩
          have e16 : (b : Int) / 16 = (idv : Int) := by omega
          by_cases h1 : idv = 0
          · have HBAD := Lib.hid (exs_bad HRS.out hb0 (by omega) EQ.out)
            have ey : ((idv : Int) == 0) = true := by simp [h1]
            clear hb0 h1 hidv
            go_wp2_with fail
            try rw [Exit.noGoto_ret]
            go_ret2
            exact ⟨O2.out, .inl ⟨by rw [HBAD.out]; decide, by rw [HBAD.out]; rfl⟩⟩
          · have ey : ((idv : Int) == 0) = false := by simp; omega
            by_cases h15 : idv = 15
            · have HEND := Lib.hid (exs_end HRS.out hb0 (by omega) EQ.out)
              have ex : decide ((14 : Int) < (idv : Int)) = true := decide_eq_true (by omega)
              clear hb0 h1 h15 hidv
              go_wp2_with fail
              try rw [Exit.noGoto_ret]
              go_ret2
              rw [HEND.out]
              exact ⟨O2.out, .inr ⟨rfl, _, vs, rfl, by rw [← HBW.out]; exact HE2.out⟩⟩
            · have ex : decide ((14 : Int) < (idv : Int)) = false := decide_eq_false (by omega)
              obtain ⟨num, p5, f5, n, dat, p9, f9, hn3, hn1, h5, h9, hnx⟩ := ex_one rb rv (by have := HI1.out; omega) HRS.out HB.out hb256 hb0 (by omega) (by omega) EQ.out
              have H5 := Lib.hid h5
              have H9 := Lib.hid h9
              have en1 : IntKind.i64.wrap ((num : Int) + 1) = (n : Int) := by rw [IntWalk.i64_in _ (by omega)]; omega
              rw [hidv] at hnx
              have HNX := Lib.hid hnx
              clear h5 h9 hnx hb0 h1 h15 hidv hn1
              go_upto_region 15 with (fail)
              clear f3 f0
              refine wp_region_posts [[], [], [1], [], [], [2, 3, 4, 1], [], [6], [5, 7, 2, 3, 4, 1, 6], [0, 8, 5, 7, 2, 3, 4, 1, 6], [9, 0, 1, 2, 3, 4, 5, 6, 7, 8]] [5, 9] [5, 9, 10, 11] [[], [], [], [], [], [11], [], [], [], [5, 11], []] [[], [], [], [], [], [11], [], [], [], [5], [9]] [10] [] [] [11]
                  [some ?vt0, some ?vt1, some ?vt2, some ?vt3, some ?vt4, some (.int .i64 (num : Nat)), some ?vt6, some ?vt7, some ?vt8, none, none]
                  ?Tt (fun wx => Is wx fb 104 (formC true) ∧ Els wx B 50 (.slice Al done.length cl) vs done ∧ Only (fun _ => False) w wx ∧ bd ≤ wx.heap.size) ?Wt ?Et (by kernel_rfl) (by kernel_rfl) (by kernel_rfl) (fun x => ?hTt) ?hFt ?hinit (Reg.all_ops ?runst) ?prest ?fint
              case Wt => exact fun j x w' => match j with | 11 => Rdr w' rb bs (8 * i + 8) 0 rv | 5 => Rdr w' rb bs p5 f5 rv | 9 => (∃ A c, x 9 = .slice A dat.length c) ∧ Rdr w' rb bs p9 f9 rv ∧ w'.ownsRow bd 5 1 (x 9) dat.length (cellsOf dat) | 10 => x 10 = x 9 ∧ (∃ A c, x 9 = .slice A dat.length c) ∧ Rdr w' rb bs p9 f9 rv ∧ w'.ownsRow bd 5 1 (x 9) dat.length (cellsOf dat) | _ => True
              case Et => exact fun i w' w'' => True
              case hTt =>
                simp only [Reg.fillV, Act.put, List.setIfInBounds_toArray, List.set_cons_zero, List.set_cons_succ]
                rfl
              case runst =>
                refine And.intro ?_ ?_
                · refine Reg.ob_pure (fun _ => rfl) rfl rfl rfl rfl (fun x w1 hF => ?_)
                  obtain ⟨hFF, hE, hO, hz⟩ := hF
                  have f4 := hFF.cell 4
                  have f1 := hFF.cell 1
                  simp [formC, fLast, fLeast, fMost, fDig, fFn] at f4 f1
                  go_simp
                  with_reducible rfl
                refine And.intro ?_ ?_
                · refine Reg.ob_pure (fun _ => rfl) rfl rfl rfl rfl (fun x w1 hF => ?_)
                  obtain ⟨hFF, hE, hO, hz⟩ := hF
                  have f4 := hFF.cell 4
                  have f1 := hFF.cell 1
                  simp [formC, fLast, fLeast, fMost, fDig, fFn] at f4 f1
                  go_simp
                  with_reducible rfl
                refine And.intro ?_ ?_
                · refine Reg.ob_pure (fun _ => rfl) rfl rfl rfl rfl (fun x w1 hF => ?_)
                  obtain ⟨hFF, hE, hO, hz⟩ := hF
                  have f4 := hFF.cell 4
                  have f1 := hFF.cell 1
                  simp [formC, fLast, fLeast, fMost, fDig, fFn] at f4 f1
                  go_simp
                  with_reducible rfl
                refine And.intro ?_ ?_
                · refine Reg.ob_pure (fun _ => rfl) rfl rfl rfl rfl (fun x w1 hF => ?_)
                  obtain ⟨hFF, hE, hO, hz⟩ := hF
                  have f4 := hFF.cell 4
                  have f1 := hFF.cell 1
                  simp [formC, fLast, fLeast, fMost, fDig, fFn] at f4 f1
                  go_simp
                  with_reducible rfl
                refine And.intro ?_ ?_
                · refine Reg.ob_pure (fun _ => rfl) rfl rfl rfl rfl (fun x w1 hF => ?_)
                  obtain ⟨hFF, hE, hO, hz⟩ := hF
                  have f4 := hFF.cell 4
                  have f1 := hFF.cell 1
                  simp [formC, fLast, fLeast, fMost, fDig, fFn] at f4 f1
                  go_simp
                  with_reducible rfl
                refine And.intro ?_ ?_
                · refine Reg.ob_told (fun _ => rfl) rfl (fun x w1 hF hU K hK => ?_)
                  obtain ⟨hFF, hE, hO, hz⟩ := hF rfl
                  obtain ⟨hR, -⟩ := hU
                  have hR : Rdr w1 rb bs (8 * i + 8) 0 rv := hR
                  go_simp
                  refine (H5.out w1 hR).mono ?_
                  rintro e w3 ⟨rfl, hR3, ho⟩
                  exact hK w3 (fun _ _ _ => ⟨rd_far hFF hR (by decide) ho, els_far hE hR.is (by decide) (by decide) ho, rd_new hO RBB.out ho, Nat.le_trans hz ho.size⟩) trivial hR3
                refine And.intro ?_ ?_
                · refine Reg.ob_pure (fun _ => rfl) rfl rfl rfl rfl (fun x w1 hF => ?_)
                  obtain ⟨hFF, hE, hO, hz⟩ := hF
                  have f4 := hFF.cell 4
                  have f1 := hFF.cell 1
                  simp [formC, fLast, fLeast, fMost, fDig, fFn] at f4 f1
                  go_simp
                  with_reducible rfl
                refine And.intro ?_ ?_
                · refine Reg.ob_pure (fun _ => rfl) rfl rfl rfl rfl (fun x w1 hF => ?_)
                  obtain ⟨hFF, hE, hO, hz⟩ := hF
                  have f4 := hFF.cell 4
                  have f1 := hFF.cell 1
                  simp [formC, fLast, fLeast, fMost, fDig, fFn] at f4 f1
                  go_simp
                  with_reducible rfl
                refine And.intro ?_ ?_
                · refine Reg.ob_pure (fun _ => rfl) rfl rfl rfl rfl (fun x w1 hF => ?_)
                  obtain ⟨hFF, hE, hO, hz⟩ := hF
                  have f4 := hFF.cell 4
                  have f1 := hFF.cell 1
                  simp [formC, fLast, fLeast, fMost, fDig, fFn] at f4 f1
                  go_simp
                  with_reducible rfl
                refine And.intro ?_ ?_
                · refine Reg.ob_some (fun _ => rfl) rfl (fun x w1 hF hU K hK => ?_)
                  obtain ⟨hFF, hE, hO, hz⟩ := hF rfl
                  obtain ⟨hR, -⟩ := hU
                  have hR : Rdr w1 rb bs p5 f5 rv := hR
                  go_simp
                  refine (H9.out w1 hR).mono ?_
                  rintro e w3 ⟨u, rfl, hu, hR3, ho⟩
                  obtain ⟨Au, cu, rfl, -⟩ := own_slice hu
                  exact hK _ w3 (fun _ _ _ => ⟨rd_far hFF hR (by decide) ho, els_far hE hR.is (by decide) (by decide) ho, rd_new hO RBB.out ho, Nat.le_trans hz ho.size⟩) trivial ⟨⟨Au, cu, rfl⟩, hR3, owned_low hu hz⟩
                refine And.intro ?_ ?_
                · refine Reg.ob_some (fun _ => rfl) rfl (fun x w1 hF hU K hK => ?_)
                  obtain ⟨hW9, -⟩ := hU
                  revert hK
                  simp only [Nat.reduceAdd]
                  intro hK
                  go_simp
                  exact hK _ _ (fun h => by cases h) rfl ⟨rfl, hW9⟩
                exact trivial
              case hFt =>
                exact ⟨IF2.out.only ((Only.refl (fun _ => False) _).drewN 1) (by simp), HE2.out.pure ((Only.refl _ _).drewN 1), O2.out.drewN 1, by rw [← HBDD.out]; exact Nat.le_refl _⟩
              case hinit =>
                exact ⟨fun x => HR2.out.pure ((Only.refl _ _).drewN 1), trivial⟩
              case prest =>
                intro i hi j hj hc x w1 w2 hF hE hW
                simp only [List.mem_cons, List.mem_nil_iff, or_false] at hi hj
                rcases hi with rfl | rfl <;> rcases hj with rfl | rfl | rfl | rfl
                all_goals (exfalso; revert hc; decide)
              case fint =>
                rintro x w5 hF ⟨⟨h10, ⟨Ad, cd, h9⟩, hR5, hD⟩, -⟩
                obtain ⟨hFF, hE, hO, hz⟩ := hF rfl
                have h10 : x 10 = x 9 := h10
                have h9 : x 9 = .slice Ad dat.length cd := h9
                have hD : w5.ownsRow bd 5 1 (x 9) dat.length (cellsOf dat) := hD
                simp only [Nat.reduceAdd, h10, h9] at hD ⊢
                have HR5 := Lib.hid hR5
                have HF5 := Lib.hid hFF
                have HE5 := Lib.hid hE
                have O5 := Lib.hid hO
                have HD5 := Lib.hid hD
                have SZ5 := Lib.hid hz
                have HER := Lib.hid (fun w' (ho : Only (fun _ => False) w5 w') => err_rdr rb p9 bs f9 rv w' (hR5.pure ho))
                clear hR5 hFF hE hO hD h10 h9 hz
                rcases HNX.out with ⟨rfl, hbad⟩ | ⟨rfl, j, hj1, hj2, rfl, heq⟩
                · have HBAD := Lib.hid hbad
                  clear hbad
                  go_wp2_with (go_at_call 66; refine (HER.out _ (Only.refl _ _)).mono ?_; rintro e w6 ⟨rfl, rfl⟩)
                  go_ret2
                  exact ⟨O5.out, .inl ⟨by rw [HBAD.out]; decide, by rw [HBAD.out]; rfl⟩⟩
                · have HEQ := Lib.hid heq
                  have HJ1 := Lib.hid hj1
                  have HJ2 := Lib.hid hj2
                  have ROW := Lib.hid HE5.out.row
                  have SZW := Lib.hid (show B ≤ w5.heap.size from by rw [HBW.out]; exact O5.out.size)
                  have LX := Lib.hid (show (List.zipWith El.lst done vs).length ≤ 100000 from by rw [HE5.out.zip]; exact HDN.out)
                  clear heq hj1 hj2
                  go_wp2_with (first
                    | (go_at_call 66; refine (HER.out _ (Only.refl _ _)).mono ?_; rintro e w6 ⟨rfl, rfl⟩)
                    | (at_builtin; refine wpList_append_el sty_el _ rfl _ _ rfl B (.slice Al done.length cl) (List.zipWith El.lst done vs) ⟨idv, dat⟩ (.slice Ad dat.length cd) ⟨_, _, _, rfl⟩ rfl ROW.out rfl LX.out (by decide) SZW.out ?_; intro v7 w7 hr7 hp7))
                  have E7 := Lib.hid (els_next (T := 50) (by decide) (x := ⟨idv, dat⟩) HE5.out HLOW.out BBD.out HD5.out hr7 hp7)
                  have hR7 := rdr_row HR5.out HE5.out.row.1 (by decide) (by decide) hp7
                  refine ⟨⟨j, done ++ [⟨idv, dat⟩], vs ++ [.slice Ad dat.length cd], HJ2.out, hR7, E7.out, HF5.out.only hp7 (owned_off HE5.out.row.1 HF5.out (by decide)), O5.out.trans hp7 (fun i hi e => by have := (HE5.out.row.1.lt i e).1; have := HBW.out; omega), HEQ.out, by rw [List.length_append]; have := HDN2.out; have := HJ1.out; simp; omega⟩, ?_⟩
                  rw [rdAt_is hR7, rdAt_is HR0.out]
                  have := HJ1.out
                  have := HJ2.out
                  omega

    · obtain rfl : i = L := by omega
      have zl : decide ((0 : Int) < ((8 * i - 8 * i : Nat) : Int)) = false := decide_eq_false (by omega)
      have hfull : bs.drop i = [] := List.drop_eq_nil_of_le (by rw [HL.out]; exact Nat.le_refl _)
      have HEND := Lib.hid (show exP one bs = (0, done) from by
        have := HX.out.eq
        rw [hfull, exP_nil] at this
        rw [this]
        simp)
      have zl' : decide (0 < 8 * i - 8 * i) = false := decide_eq_false (by omega)
      generalize 8 * i - 8 * i = lf at *
      go_wp2_with (go_at_call 63; refine (HLF.out _ (Only.refl _ _)).mono ?_; rintro e wl ⟨rfl, hol⟩; have OL := Lib.hid hol; clear hol)
      try rw [Exit.noGoto_ret]
      go_ret2
      rw [HEND.out]
      exact ⟨only_more HX.out.pure OL.out, .inr ⟨rfl, _, vs, rfl, by rw [← HBW.out]; exact HX.out.els.pure OL.out⟩⟩
end Go.Proofs.Ytcgfmjdlningpaa
