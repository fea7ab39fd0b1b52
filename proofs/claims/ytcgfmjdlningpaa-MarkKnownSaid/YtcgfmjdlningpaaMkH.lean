/- The walks of MarkPuts and MarkReads. Conditions: as each says. -/
import Derived.Test.YtcgfmjdlningpaaMkG
import Derived.Test.YtcgfmjdlningpaaMkD
import Derived.Test.YtcgfmjdlningpaaBase
set_option linter.unusedVariables false
namespace Go.Proofs.Ytcgfmjdlningpaa
open Go.RowKit

theorem msame_yes (va vb : Value) (xs : List Nat) (w : World) (ha : Src w va xs) (hb : Src w vb xs) (hl : xs.length ≤ 140737488355328) :
    Calls Try.prog 22 #[va, vb] w fun e w' => e = .returned (.bool true) ∧ Only (fun _ => False) w w' := by
  refine (same_is va vb xs xs w ha hb hl).mono ?_
  rintro e w' ⟨rfl, n, rfl⟩
  exact ⟨by simp, (Only.refl _ w).drewN n⟩
theorem mk_out_len (m : Mk) : m.out.length ≤ 3 := by
  unfold Mk.out
  split
  · rcases enc_len m with h | h <;> omega
  · simp
set_option maxRecDepth 100000 in
set_option maxHeartbeats 1000000 in
theorem eq_rmk (d e : Mk) (w : World) : (binOp .eql 71 (.agg d.cells) (.agg e.cells)).run Try.prog w = .ok (.bool (d.same e)) w := by
  rw [run_eql_struct, run_equalIn_agg w 9999 _ _ _ (by kernel_rfl) (by kernel_rfl)]
  simp only [Program.fieldsOf, Try.underlying71]
  simp [Op.eqFields, Mk.cells, go_sem]
  simp only [Int.natCast_inj, mk_chain, Bool.and_true]
  have e : d.same e = (decide (d.st = e.st) && (decide (d.en = e.en) && (decide (d.ind = e.ind) && (decide (d.dr = e.dr) && (decide (d.lg = e.lg) && (decide (d.ba = e.ba) && (decide (d.tid = e.tid) && (decide (d.lid = e.lid) && decide (d.tl = e.tl))))))))) := by
    rw [Bool.eq_iff_iff]
    simp [Mk.same, and_assoc]
  rw [e]
theorem run_eql_rmk {o : Oper} {ρ : Operand → Value} (w : World) (x y : Operand) (d e : Mk) (b : Bool) (hb : d.same e = b) (ho : o.op = .binOp .eql 71 x y 71) (hx : ρ x = .agg d.cells) (hy : ρ y = .agg e.cells) :
    (execOp ρ o).run Try.prog w = .ok (.value (.bool b)) w := by
  rw [← hb]
  unfold execOp
  simp only [ho, hx, hy, Sem.run_bind, Sem.run_pure, Result.andThen_ok, run_eqGuard_agg (P := Try.prog) w .eql 71 x y d.cells e.cells (by kernel_rfl), eq_rmk d e w]

set_option maxRecDepth 100000 in
set_option maxHeartbeats 4000000 in
theorem mputs_any (m : Mk) (w : World) : Calls Try.prog 8 #[.agg m.cells] w fun e w' => e = .returned (.bool true) ∧ Only (fun _ => False) w w' := by
  have HRF := Lib.hid (fun w => mk_ref m w)
  have HPR := Lib.hid (fun w => rmk_put m w)
  have HPP := Lib.hid (fun w => mk_put m w)
  have HR1 := Lib.hid (fun w => mk_right m w)
  have HR2 := Lib.hid (fun w => rmk_right m w)
  have HWK := Lib.hid (fun w => mworks_any w)
  have HOL := Lib.hid (mk_out_len m)
  generalize m.out = out at *
  generalize m.bad = bad at *
  generalize m.right = rt at *
  have e1 : ((bad : Int) != (bad : Int)) = false := by simp
  go_enter Try.func8, Try.ntmps8
  go_upto_region 1 with (fail)
  have I0 := Lib.hid (Is.made w 69 m.cells)
  have P0 := Lib.hid (show Only (fun _ => False) w (w.alloc (.cells m.cells 69)) from (Only.refl _ w).alloc _)
  generalize (w.alloc (.cells m.cells 69)) = w0 at *
  generalize w.heap.size = mb at *
  go_upto_region 2 with (first
    | (refine wpList_load_want (o := ⟨some 9, _, _, _, _, _⟩) rfl _ _ rfl mb rfl _ _ _ I0.out Try.underlying69 rfl Try.sizeMk ?_)
    | (go_at_call 39; refine (HRF.out _).mono ?_; rintro e w1 ⟨rfl, ho1⟩; have O1 := Lib.hid ho1; clear ho1)
    | (go_at_call 38; refine (HPR.out _).mono ?_; rintro e w2 ⟨v2, rfl, hv2, ho2⟩; have S2 := Lib.hid (Src.of_own hv2); obtain ⟨A2, c2, h2, -⟩ := own_slice hv2; subst h2; have O2 := Lib.hid ho2; clear hv2 ho2))
  have I2 := Lib.hid (I0.out.only (only_more O1.out O2.out) (by simp))
  have T2 := Lib.hid (only_more P0.out (only_more O1.out O2.out))
  go_wp2
  go_loopw [5] (fun i wr => ∃ k : Nat, k ≤ 2 ∧ i = .int .i64 k ∧ Only (fun _ => False) w2 wr) (fun i _ => 2 - (intOf i).toNat)
  case atStart => exact ⟨0, by omega, rfl, Only.refl _ _⟩
  case round =>
    obtain ⟨k, hk, rfl, hpw⟩ := hrel
    have HPW := Lib.hid hpw
    clear hpw
    have I3 := Lib.hid (I2.out.only HPW.out (by simp))
    by_cases hlt : k < 2
    · have zk : (k : Int) < 2 := by omega
      go_upto_region 6 with (first
        | (refine wpList_load_want (o := ⟨some 19, _, _, _, _, _⟩) rfl _ _ rfl mb rfl _ _ _ I3.out Try.underlying69 rfl Try.sizeMk ?_)
        | (go_at_call 40; refine (HPP.out _).mono ?_; rintro e w5 ⟨v5, rfl, hv5, ho5⟩; obtain ⟨A5, c5, h5, -⟩ := own_slice hv5; subst h5; have V5 := Lib.hid hv5; have O5 := Lib.hid ho5; clear hv5 ho5))
      have HS := Lib.hid (msame_yes (.slice A5 out.length c5) (.slice A2 out.length c2) out w5 (Src.of_own V5.out) (S2.out.of_only (only_more HPW.out O5.out)) (by have := HOL.out; omega))
      go_upto_region 8 with (go_at_call 22; refine HS.out.mono ?_; rintro e w6 ⟨rfl, ho6⟩; have O6 := Lib.hid ho6; clear ho6)
      have V6 := Lib.hid (own_only V5.out O6.out (by simp))
      have HSP := Lib.hid (spoil_own _ _ _ _ _ V6.out (by have := HOL.out; omega))
      go_wp2_with (go_at_call 27; refine HSP.out.mono ?_; rintro e w7 ⟨rfl, ho7, -⟩; have O7 := Lib.hid ho7; clear ho7)
      have W7 := Lib.hid ((only_more HPW.out (only_more O5.out O6.out)).trans O7.out (fun i hi e => by have := (V6.out.lt i e).1; have := HPW.out.size; omega))
      refine ⟨⟨k + 1, by omega, by go_num, W7.out⟩, by simp [intOf]; omega⟩
    · obtain rfl : k = 2 := by omega
      go_upto_region 9 with (fail)
      refine wp_region_posts [[], [0], [], [2, 1, 0], [3, 2, 1, 0], [1, 4, 0, 3, 2], [5, 4, 1, 0, 3, 2], [6, 5, 4, 1, 0, 3, 2], [6, 7, 5, 4, 1, 0, 3, 2], [8, 7, 0, 1, 2, 3, 4, 5, 6]] [1, 3, 4, 7] [] [[], [], [], [], [], [], [], [], [], []] [[], [], [], [], [], [], [], [], [], []] [] [] [] []
          [some (.agg m.cells), some (.bool rt), some (.agg m.cells), some (.agg m.cells), some (.bool rt), some (.bool true), some ?v6, some (.bool true), some ?v8, some ?v9]
          ?T (fun wx => Is wx mb 69 m.cells ∧ Only (fun _ => False) wr wx) ?W ?E (by kernel_rfl) (by kernel_rfl) (by kernel_rfl) (fun x => ?hT) ?hF ?hini (Reg.all_ops ?runs) ?pres ?fin
      case W => exact fun j x w' => True
      case E => exact fun _ w' w'' => True
      case hT =>
        simp only [Reg.fillV, Act.put, List.setIfInBounds_toArray, List.set_cons_zero, List.set_cons_succ]
        rfl
      case runs =>
        refine And.intro ?_ ?_
        · refine Reg.ob_pure (fun _ => rfl) rfl rfl rfl rfl (fun x w1 hF => ?_)
          exact run_load_at 69 _ (by rfl) mb (by rfl) 69 _ _ hF.1 Try.underlying69 rfl Try.sizeMk
        refine And.intro ?_ ?_
        · refine Reg.ob_known (fun _ => rfl) rfl rfl (fun x w1 hF hU K hK => ?_)
          replace hF := hF rfl
          go_simp
          refine (HR1.out _).mono ?_
          rintro e w3 ⟨rfl, ho⟩
          exact hK w3 (fun _ _ _ => ⟨hF.1.only ho (by simp), only_more hF.2 ho⟩) trivial
        refine And.intro ?_ ?_
        · refine Reg.ob_pure (fun _ => rfl) rfl rfl rfl rfl (fun x w1 hF => ?_)
          exact run_load_at 69 _ (by rfl) mb (by rfl) 69 _ _ hF.1 Try.underlying69 rfl Try.sizeMk
        refine And.intro ?_ ?_
        · refine Reg.ob_known (fun _ => rfl) rfl rfl (fun x w1 hF hU K hK => ?_)
          replace hF := hF rfl
          go_simp
          refine (HRF.out _).mono ?_
          rintro e w3 ⟨rfl, ho⟩
          exact hK w3 (fun _ _ _ => ⟨hF.1.only ho (by simp), only_more hF.2 ho⟩) trivial
        refine And.intro ?_ ?_
        · refine Reg.ob_known (fun _ => rfl) rfl rfl (fun x w1 hF hU K hK => ?_)
          replace hF := hF rfl
          go_simp
          refine (HR2.out _).mono ?_
          rintro e w3 ⟨rfl, ho⟩
          exact hK w3 (fun _ _ _ => ⟨hF.1.only ho (by simp), only_more hF.2 ho⟩) trivial
        refine And.intro ?_ ?_
        · refine Reg.ob_pure (fun _ => rfl) rfl rfl rfl rfl (fun x w1 hF => ?_)
          go_simp
        refine And.intro ?_ ?_
        · refine Reg.ob_pure (fun _ => rfl) rfl rfl rfl rfl (fun x w1 hF => ?_)
          go_simp
          with_reducible rfl
        refine And.intro ?_ ?_
        · refine Reg.ob_known (fun _ => rfl) rfl rfl (fun x w1 hF hU K hK => ?_)
          replace hF := hF rfl
          go_simp
          refine (HWK.out _).mono ?_
          rintro e w3 ⟨rfl, ho⟩
          exact hK w3 (fun _ _ _ => ⟨hF.1.only ho (by simp), only_more hF.2 ho⟩) trivial
        refine And.intro ?_ ?_
        · refine Reg.ob_pure (fun _ => rfl) rfl rfl rfl rfl (fun x w1 hF => ?_)
          go_simp
          with_reducible rfl
        refine And.intro ?_ ?_
        · refine Reg.ob_pure (fun _ => rfl) rfl rfl rfl rfl (fun x w1 hF => ?_)
          go_simp
          with_reducible rfl
        exact trivial
      case hF =>
        exact ⟨I3.out.only (only_drewN _ 1) (by simp), only_drewN _ 1⟩
      case hini =>
        exact trivial
      case pres =>
        intro i hi j hj hc x w1 w2 hF hE hW
        trivial
      case fin =>
        rintro x w9 hF -
        have PU := Lib.hid (hF rfl).2
        clear hF
        go_wp2
        go_ret
        exact ⟨rfl, only_more T2.out (only_more HPW.out PU.out)⟩

theorem mputs_args {W : World} {m : Mk} : Calls Try.prog 8 #[.agg m.cells] W fun e w' => e = .returned (.bool true) ∧ Below W.heap.size W w' := by
  refine (mputs_any m W).mono ?_
  rintro e w' ⟨rfl, ho⟩
  exact ⟨rfl, Only.below ho (fun i hi => hi.elim) (Nat.le_refl _)⟩

/-- Amid the last region of MarkReads. -/
structure Mrd (m : Mk) (mb rb : Nat) (v1 v2 : Value) (bs : List Nat) (w wx : World) : Prop where
  i1 : Is wx mb 69 m.cells
  i2 : Is wx rb 71 m.cells
  s1 : Src wx v1 bs
  s2 : Src wx v2 bs
  pure : Only (fun _ => False) w wx
theorem Mrd.go {m : Mk} {mb rb : Nat} {v1 v2 : Value} {bs : List Nat} {w wx wy : World} (h : Mrd m mb rb v1 v2 bs w wx) (ho : Only (fun _ => False) wx wy) : Mrd m mb rb v1 v2 bs w wy :=
  ⟨h.i1.only ho (by simp), h.i2.only ho (by simp), h.s1.of_only ho, h.s2.of_only ho, only_more h.pure ho⟩
set_option maxRecDepth 100000 in
set_option maxHeartbeats 4000000 in
theorem mreads_any (v : Value) (bs : List Nat) (w : World) (hs : Src w v bs) (hb : ∀ x ∈ bs, x < 256) : Calls Try.prog 9 #[v] w fun e w' => e = .returned (.bool true) ∧ Only (fun _ => False) w w' := by
  obtain ⟨Ab, cb, rfl⟩ := hs.slice
  have HS := Lib.hid hs
  have HWK := Lib.hid (fun w => mworks_any w)
  by_cases hl : 20 < bs.length
  · have zl : decide ((20 : Int) < (bs.length : Int)) = true := decide_eq_true (by omega)
    clear hl hb hs
    go_enter Try.func9, Try.ntmps9
    go_wp2_with fail
    refine (HWK.out _).mono ?_
    rintro e w1 ⟨rfl, ho1⟩
    have O1 := Lib.hid ho1
    clear ho1
    go_wp2
    go_ret
    exact ⟨rfl, O1.out⟩
  · have zl : decide ((20 : Int) < (bs.length : Int)) = false := decide_eq_false (by omega)
    have HBL := Lib.hid (show bs.length ≤ 20 from by omega)
    have HP := Lib.hid (fun v w (h : Src w v bs) => mk_parse v bs w h hb)
    have HQ := Lib.hid (fun v w (h : Src w v bs) => rmk_parse v bs w h hb)
    unfold MkParA at HP HQ
    have HV := Lib.hid (Mk.one (mkOf bs))
    clear hl hb hs
    generalize mkOf bs = m at *
    generalize mkErr bs = me at *
    have HRF := Lib.hid (fun w => mk_ref m w)
    go_enter Try.func9, Try.ntmps9
    go_upto_region 4 with (go_at_call 14; refine (kitown_is _ bs w w.heap.size (Nat.le_refl _) HS.out (by have := HBL.out; omega)).mono ?_; rintro e w1 ⟨v1, rfl, hv1, ho1, -⟩; rw [length_cellsOf] at hv1; obtain ⟨A1, k1, rfl, -⟩ := own_slice hv1; have S1 := Lib.hid (Src.of_own hv1); have O1 := Lib.hid ho1; clear hv1 ho1)
    go_upto_region 5 with (first
      | (go_at_call 44; refine (HP.out _ _ (HS.out.of_only O1.out)).mono ?_; rintro e w2 ⟨rfl, ho2⟩; have O2 := Lib.hid ho2; clear ho2)
      | (refine wpList_store_is rfl 69 _ _ rfl w2.heap.size m.cells rfl rfl 69 Mk.zero.cells (Is.made w2 _ Mk.zero.cells) Try.sizeMk rfl HV.out ?_; intro w3 hi3 ho3; have O3 := Lib.hid (only_made ho3); have I3 := Lib.hid hi3; clear hi3 ho3))
    generalize w2.heap.size = mb at *
    go_upto_region 6 with (first
      | (go_at_call 45; refine (HQ.out _ _ (S1.out.of_only (only_more O2.out O3.out))).mono ?_; rintro e w4 ⟨rfl, ho4⟩; have O4 := Lib.hid ho4; clear ho4)
      | (refine wpList_store_is rfl 71 _ _ rfl w4.heap.size m.cells rfl rfl 71 Mk.zero.cells (Is.made w4 _ Mk.zero.cells) Try.sizeRm rfl HV.out ?_; intro w5 hi5 ho5; have O5 := Lib.hid (only_made ho5); have I5 := Lib.hid hi5; clear hi5 ho5))
    generalize w4.heap.size = rb at *
    have T5 := Lib.hid (only_more O1.out (only_more O2.out (only_more O3.out (only_more O4.out O5.out))))
    have S5 := Lib.hid (show Mrd m mb rb (.slice Ab bs.length cb) (.slice A1 bs.length k1) bs w5 w5 from ⟨I3.out.only (only_more O4.out O5.out) (by simp), I5.out, HS.out.of_only T5.out, S1.out.of_only (only_more O2.out (only_more O3.out (only_more O4.out O5.out))), Only.refl _ _⟩)
    have HSS := Lib.hid (Mk.same_self m)
    have e1 : ((me : Int) == (me : Int)) = true := by simp
    have HSM := Lib.hid (fun wx (h : Mrd m mb rb (.slice Ab bs.length cb) (.slice A1 bs.length k1) bs w5 wx) => msame_yes _ _ bs wx h.s1 h.s2 (by have := HBL.out; omega))
    refine wp_region_posts [[], [0], [], [1, 2, 0], [3, 1, 2, 0], [4, 3, 1, 2, 0], [4, 3, 1, 2, 0], [5, 6, 4, 3, 1, 2, 0], [4, 7, 3, 1, 2, 0, 5, 6], [8, 4, 7, 3, 1, 2, 0, 5, 6], [9, 8, 4, 7, 3, 1, 2, 0, 5, 6], [9, 8, 4, 7, 3, 1, 2, 0, 5, 6], [10, 11, 9, 8, 4, 7, 3, 1, 2, 0, 5, 6], [9, 12, 8, 4, 7, 3, 1, 2, 0, 5, 6, 10, 11], [13, 12, 9, 8, 4, 7, 3, 1, 2, 0, 5, 6, 10, 11], [14, 13, 12, 9, 8, 4, 7, 3, 1, 2, 0, 5, 6, 10, 11], [14, 15, 13, 12, 9, 8, 4, 7, 3, 1, 2, 0, 5, 6, 10, 11], [16, 15, 0, 1, 2, 3, 4, 5, 6, 7, 8, 9, 10, 11, 12, 13, 14]] [1, 12, 15] [] [[], [], [], [], [], [], [], [], [], [], [], [], [], [], [], [], [], []] [[], [], [], [], [], [], [], [], [], [], [], [], [], [], [], [], [], []] [] [] [] []
        [some (.agg m.cells), some (.agg m.cells), some (.agg m.cells), some (.bool true), some ?vr4, some ?vr5, some ?vr6, some (.bool true), some ?vr8, some ?vr9, some ?vr10, some ?vr11, some (.bool true), some ?vr13, some ?vr14, some (.bool true), some ?vr16, some ?vr17]
        ?Tr (fun wx => Mrd m mb rb (.slice Ab bs.length cb) (.slice A1 bs.length k1) bs w5 wx) ?Wr ?Er (by kernel_rfl) (by kernel_rfl) (by kernel_rfl) (fun x => ?hTr) ?hFr ?hinir (Reg.all_ops ?runsr) ?presr ?finr
    case Wr => exact fun j x w' => True
    case Er => exact fun _ w' w'' => True
    case hTr =>
      simp only [Reg.fillV, Act.put, List.setIfInBounds_toArray, List.set_cons_zero, List.set_cons_succ]
      rfl
    case runsr =>
      refine And.intro ?_ ?_
      · refine Reg.ob_pure (fun _ => rfl) rfl rfl rfl rfl (fun x w1 hF => ?_)
        exact run_load_at 69 _ (by rfl) mb (by rfl) 69 _ _ hF.i1 Try.underlying69 rfl Try.sizeMk
      refine And.intro ?_ ?_
      · refine Reg.ob_known (fun _ => rfl) rfl rfl (fun x w1 hF hU K hK => ?_)
        replace hF := hF rfl
        go_simp
        refine (HRF.out _).mono ?_
        rintro e w3 ⟨rfl, ho⟩
        exact hK w3 (fun _ _ _ => hF.go ho) trivial
      refine And.intro ?_ ?_
      · refine Reg.ob_pure (fun _ => rfl) rfl rfl rfl rfl (fun x w1 hF => ?_)
        exact run_load_at 71 _ (by rfl) rb (by rfl) 71 _ _ hF.i2 Try.underlying71 rfl Try.sizeRm
      refine And.intro ?_ ?_
      · refine Reg.ob_pure (fun _ => rfl) rfl rfl rfl rfl (fun x w1 hF => ?_)
        exact run_eql_rmk _ _ _ m m true HSS.out rfl rfl rfl
      refine And.intro ?_ ?_
      · refine Reg.ob_pure (fun _ => rfl) rfl rfl rfl rfl (fun x w1 hF => ?_)
        go_simp
        with_reducible rfl
      refine And.intro ?_ ?_
      · refine Reg.ob_pure (fun _ => rfl) rfl rfl rfl rfl (fun x w1 hF => ?_)
        go_simp
        with_reducible rfl
      refine And.intro ?_ ?_
      · refine Reg.ob_pure (fun _ => rfl) rfl rfl rfl rfl (fun x w1 hF => ?_)
        go_simp
        with_reducible rfl
      refine And.intro ?_ ?_
      · refine Reg.ob_pure (fun _ => rfl) rfl rfl rfl rfl (fun x w1 hF => ?_)
        go_simp
      refine And.intro ?_ ?_
      · refine Reg.ob_pure (fun _ => rfl) rfl rfl rfl rfl (fun x w1 hF => ?_)
        go_simp
        with_reducible rfl
      refine And.intro ?_ ?_
      · refine Reg.ob_pure (fun _ => rfl) rfl rfl rfl rfl (fun x w1 hF => ?_)
        go_simp
        with_reducible rfl
      refine And.intro ?_ ?_
      · refine Reg.ob_pure (fun _ => rfl) rfl rfl rfl rfl (fun x w1 hF => ?_)
        go_simp
        with_reducible rfl
      refine And.intro ?_ ?_
      · refine Reg.ob_pure (fun _ => rfl) rfl rfl rfl rfl (fun x w1 hF => ?_)
        go_simp
        with_reducible rfl
      refine And.intro ?_ ?_
      · refine Reg.ob_known (fun _ => rfl) rfl rfl (fun x w1 hF hU K hK => ?_)
        replace hF := hF rfl
        go_simp
        refine (HSM.out _ hF).mono ?_
        rintro e w3 ⟨rfl, ho⟩
        exact hK w3 (fun _ _ _ => hF.go ho) trivial
      refine And.intro ?_ ?_
      · refine Reg.ob_pure (fun _ => rfl) rfl rfl rfl rfl (fun x w1 hF => ?_)
        go_simp
        with_reducible rfl
      refine And.intro ?_ ?_
      · refine Reg.ob_pure (fun _ => rfl) rfl rfl rfl rfl (fun x w1 hF => ?_)
        go_simp
        with_reducible rfl
      refine And.intro ?_ ?_
      · refine Reg.ob_known (fun _ => rfl) rfl rfl (fun x w1 hF hU K hK => ?_)
        replace hF := hF rfl
        go_simp
        refine (HWK.out _).mono ?_
        rintro e w3 ⟨rfl, ho⟩
        exact hK w3 (fun _ _ _ => hF.go ho) trivial
      refine And.intro ?_ ?_
      · refine Reg.ob_pure (fun _ => rfl) rfl rfl rfl rfl (fun x w1 hF => ?_)
        go_simp
        with_reducible rfl
      refine And.intro ?_ ?_
      · refine Reg.ob_pure (fun _ => rfl) rfl rfl rfl rfl (fun x w1 hF => ?_)
        go_simp
        with_reducible rfl
      exact trivial
    case hFr =>
      exact S5.out.go (only_drewN _ 1)
    case hinir =>
      exact trivial
    case presr =>
      intro i hi j hj hc x w1 w2 hF hE hW
      trivial
    case finr =>
      rintro x w9 hF -
      have PU := Lib.hid (hF rfl).pure
      clear hF
      go_wp2
      go_ret
      exact ⟨rfl, only_more T5.out PU.out⟩

theorem mreads_args {W : World} {v : Value} {bs : List Nat} (h : Src W v bs) (k : ∀ x ∈ bs, x < 256) : Calls Try.prog 9 #[v] W fun e w' => e = .returned (.bool true) ∧ Below W.heap.size W w' := by
  refine (mreads_any v bs W h k).mono ?_
  rintro e w' ⟨rfl, ho⟩
  exact ⟨rfl, Only.below ho (fun i hi => hi.elim) (Nat.le_refl _)⟩
end Go.Proofs.Ytcgfmjdlningpaa
