/- FeedbackPuts' drawn region. Conditions: as each says. -/
import Derived.Test.YtefcimkopgcagaaFmGr
import Derived.Test.YtefcimkopgcagaaFbO
import Derived.Test.YtefcimkopgcagaaFbGr
import Derived.Test.YtefcimkopgcagaaFbY
import Derived.Test.YtefcimkopgcagaaFbR
import Derived.Test.YtefcimkopgcagaaFbT
set_option linter.unusedVariables false
set_option linter.unusedSimpArgs false
namespace Go.Proofs.Ytefcimkopgcagaa
open Go.RowKit

theorem sameMs_self (m : Ms) : sameMs m m = true := by simp [sameMs]
def fputs12_A : List (List Nat) := ([] :: [0] :: [] :: [2, 1, 0] :: [1, 3, 0, 2] :: [4, 3, 1, 0, 2] :: [5, 4, 3, 1, 0, 2] :: [5, 4, 3, 1, 0, 2] :: (6 :: 7 :: 5 :: 4 :: 3 :: 1 :: 0 :: 2 :: []) :: [5, 4, 3, 1, 0, 2] :: [5, 4, 3, 1, 0, 2] :: (10 :: 8 :: 5 :: 4 :: 3 :: 1 :: 0 :: 2 :: 6 :: 7 :: []) :: (9 :: 11 :: 5 :: 4 :: 3 :: 1 :: 0 :: 2 :: 10 :: 8 :: 6 :: 7 :: []) :: (8 :: 12 :: 5 :: 6 :: 7 :: 4 :: 3 :: 1 :: 0 :: 2 :: 9 :: 11 :: 10 :: []) :: (5 :: 13 :: 4 :: 3 :: 1 :: 0 :: 2 :: 8 :: 12 :: 6 :: 7 :: 9 :: 11 :: 10 :: []) :: (14 :: 12 :: 5 :: 13 :: 4 :: 3 :: 1 :: 0 :: 2 :: 8 :: 6 :: 7 :: 9 :: 11 :: 10 :: []) :: (15 :: 14 :: 12 :: 5 :: 13 :: 4 :: 3 :: 1 :: 0 :: 2 :: 8 :: 6 :: 7 :: 9 :: 11 :: 10 :: []) :: (15 :: 14 :: 12 :: 5 :: 13 :: 4 :: 3 :: 1 :: 0 :: 2 :: 8 :: 6 :: 7 :: 9 :: 11 :: 10 :: []) :: (16 :: 17 :: 15 :: 14 :: 12 :: 5 :: 13 :: 4 :: 3 :: 1 :: 0 :: 2 :: 8 :: 6 :: 7 :: 9 :: 11 :: 10 :: []) :: (15 :: 18 :: 14 :: 12 :: 5 :: 13 :: 4 :: 3 :: 1 :: 0 :: 2 :: 8 :: 6 :: 7 :: 9 :: 11 :: 10 :: 16 :: 17 :: []) :: (19 :: 18 :: 15 :: 14 :: 12 :: 5 :: 13 :: 4 :: 3 :: 1 :: 0 :: 2 :: 8 :: 6 :: 7 :: 9 :: 11 :: 10 :: 16 :: 17 :: []) :: (20 :: 19 :: 18 :: 15 :: 14 :: 12 :: 5 :: 13 :: 4 :: 3 :: 1 :: 0 :: 2 :: 8 :: 6 :: 7 :: 9 :: 11 :: 10 :: 16 :: 17 :: []) :: (21 :: 20 :: 19 :: 18 :: 15 :: 14 :: 12 :: 5 :: 13 :: 4 :: 3 :: 1 :: 0 :: 2 :: 8 :: 6 :: 7 :: 9 :: 11 :: 10 :: 16 :: 17 :: []) :: (20 :: 19 :: 18 :: 15 :: 14 :: 12 :: 5 :: 13 :: 4 :: 3 :: 1 :: 0 :: 2 :: 8 :: 6 :: 7 :: 9 :: 11 :: 10 :: 16 :: 17 :: []) :: (23 :: 22 :: 20 :: 19 :: 18 :: 15 :: 14 :: 12 :: 5 :: 13 :: 4 :: 3 :: 1 :: 0 :: 2 :: 8 :: 6 :: 7 :: 9 :: 11 :: 10 :: 16 :: 17 :: 21 :: []) :: (22 :: 24 :: 20 :: 21 :: 19 :: 18 :: 15 :: 14 :: 12 :: 5 :: 13 :: 4 :: 3 :: 1 :: 0 :: 2 :: 8 :: 6 :: 7 :: 9 :: 11 :: 10 :: 16 :: 17 :: 23 :: []) :: (20 :: 25 :: 19 :: 18 :: 15 :: 14 :: 12 :: 5 :: 13 :: 4 :: 3 :: 1 :: 0 :: 2 :: 8 :: 6 :: 7 :: 9 :: 11 :: 10 :: 16 :: 17 :: 22 :: 24 :: 21 :: 23 :: []) :: (26 :: 24 :: 20 :: 25 :: 19 :: 18 :: 15 :: 14 :: 12 :: 5 :: 13 :: 4 :: 3 :: 1 :: 0 :: 2 :: 8 :: 6 :: 7 :: 9 :: 11 :: 10 :: 16 :: 17 :: 22 :: 21 :: 23 :: []) :: (27 :: 26 :: 24 :: 20 :: 25 :: 19 :: 18 :: 15 :: 14 :: 12 :: 5 :: 13 :: 4 :: 3 :: 1 :: 0 :: 2 :: 8 :: 6 :: 7 :: 9 :: 11 :: 10 :: 16 :: 17 :: 22 :: 21 :: 23 :: []) :: (28 :: 27 :: 26 :: 24 :: 20 :: 25 :: 19 :: 18 :: 15 :: 14 :: 12 :: 5 :: 13 :: 4 :: 3 :: 1 :: 0 :: 2 :: 8 :: 6 :: 7 :: 9 :: 11 :: 10 :: 16 :: 17 :: 22 :: 21 :: 23 :: []) :: (27 :: 26 :: 24 :: 20 :: 25 :: 19 :: 18 :: 15 :: 14 :: 12 :: 5 :: 13 :: 4 :: 3 :: 1 :: 0 :: 2 :: 8 :: 6 :: 7 :: 9 :: 11 :: 10 :: 16 :: 17 :: 22 :: 21 :: 23 :: []) :: (29 :: 30 :: 27 :: 28 :: 26 :: 24 :: 20 :: 25 :: 19 :: 18 :: 15 :: 14 :: 12 :: 5 :: 13 :: 4 :: 3 :: 1 :: 0 :: 2 :: 8 :: 6 :: 7 :: 9 :: 11 :: 10 :: 16 :: 17 :: 22 :: 21 :: 23 :: []) :: (27 :: 31 :: 26 :: 24 :: 20 :: 25 :: 19 :: 18 :: 15 :: 14 :: 12 :: 5 :: 13 :: 4 :: 3 :: 1 :: 0 :: 2 :: 8 :: 6 :: 7 :: 9 :: 11 :: 10 :: 16 :: 17 :: 22 :: 21 :: 23 :: 29 :: 30 :: 28 :: []) :: (32 :: 31 :: 27 :: 26 :: 24 :: 20 :: 25 :: 19 :: 18 :: 15 :: 14 :: 12 :: 5 :: 13 :: 4 :: 3 :: 1 :: 0 :: 2 :: 8 :: 6 :: 7 :: 9 :: 11 :: 10 :: 16 :: 17 :: 22 :: 21 :: 23 :: 29 :: 30 :: 28 :: []) :: (33 :: 32 :: 31 :: 27 :: 26 :: 24 :: 20 :: 25 :: 19 :: 18 :: 15 :: 14 :: 12 :: 5 :: 13 :: 4 :: 3 :: 1 :: 0 :: 2 :: 8 :: 6 :: 7 :: 9 :: 11 :: 10 :: 16 :: 17 :: 22 :: 21 :: 23 :: 29 :: 30 :: 28 :: []) :: (33 :: 34 :: 32 :: 31 :: 27 :: 26 :: 24 :: 20 :: 25 :: 19 :: 18 :: 15 :: 14 :: 12 :: 5 :: 13 :: 4 :: 3 :: 1 :: 0 :: 2 :: 8 :: 6 :: 7 :: 9 :: 11 :: 10 :: 16 :: 17 :: 22 :: 21 :: 23 :: 29 :: 30 :: 28 :: []) :: (35 :: 34 :: 0 :: 1 :: 2 :: 3 :: 4 :: 5 :: 6 :: 7 :: 8 :: 9 :: 10 :: 11 :: 12 :: 13 :: 14 :: 15 :: 16 :: 17 :: 18 :: 19 :: 20 :: 21 :: 22 :: 23 :: 24 :: 25 :: 26 :: 27 :: 28 :: 29 :: 30 :: 31 :: 32 :: 33 :: []) :: [])
def fputs12_kill : List (List Nat) := ([] :: [] :: [] :: [] :: [] :: [] :: [] :: [] :: [] :: [] :: [] :: [] :: [] :: [] :: [] :: [] :: [] :: [] :: [] :: [] :: [] :: [] :: [] :: [] :: [] :: [] :: [] :: [] :: [] :: [] :: [] :: [] :: [] :: [] :: [] :: [] :: [] :: [])
def fputs12_uses : List (List Nat) := ([] :: [] :: [] :: [] :: [] :: [] :: [] :: [] :: [] :: [] :: [] :: [] :: [11] :: [] :: [] :: [] :: [] :: [] :: [] :: [] :: [] :: [] :: [] :: [] :: [] :: [] :: [] :: [] :: [] :: [] :: [] :: [29] :: [] :: [] :: [] :: [] :: [] :: [])
noncomputable def fputs12_code : Code := ((Try.f3.body.bind (codeRegion 12)).getD .skip)
set_option maxRecDepth 100000 in
set_option maxHeartbeats 4000000 in
theorem fputs12_in (m k : Ms) (p1 o1 s1 p2 o2 s2 p3 o3 s3 : Value) (ga gb gr : Nat) (hlm : m.pairs.length ≤ 300 ∧ m.orders.length ≤ 300 ∧ m.srcs.length ≤ 300) (hlk : k.pairs.length ≤ 300 ∧ k.orders.length ≤ 300 ∧ k.srcs.length ≤ 300) (hfm : MFit m) (hfk : MFit k) (hn1 : s1 = .slice none 0 0 ∨ ∃ ad n c, s1 = .slice (some ad) n c) (hn2 : s2 = .slice none 0 0 ∨ ∃ ad n c, s2 = .slice (some ad) n c) (u0 u1 u4 u6 u7 u8 u9 u10 u11 u12 u13 u14 u15 u16 u17 u18 u19 u20 u21 u22 u23 u24 u25 u26 u27 u28 u29 u30 u31 u32 u33 u34 u35 u36 u37 u38 u39 u40 u41 u42 u43 u44 u45 u46 u47 u48 u49 u50 u51 u52 u53 u54 u55 u56 u57 u58 u59 u60 u61 u62 u63 u64 u65 u66 u67 u68 u69 u70 u71 u72 u73 u74 u75 u76 u77 u78 u79 u80 u81 u82 u83 u84 u85 : Value) (w0 : World) (hA : Is w0 ga 27 (m.cls p1 o1 s1)) (hB : Is w0 gb 27 (k.cls p2 o2 s2)) (hR : Is w0 gr 33 (m.cls p3 o3 s3)) (hDm : RdM m p1 o1 s1 w0) (hDk : RdM k p2 o2 s2 w0) (hDr : RdM m p3 o3 s3 w0) :
    Code.wp Try.prog fputs12_code (fun e a w' => ∃ y50 y51 y52 y53 y54 y55 y56 y57 y58 y59 y60 y61 y62 y63 y64 y65 y66 y67 y68 y69 y70 y71 y72 y73 y74 y75 y76 y77 y78 y79 y80 y81 y82 y83 y84 y85 : Value, a = ⟨(List.toArray (u0 :: u1 :: .pointer (some ⟨ga, 0, none⟩) :: .pointer (some ⟨gb, 0, none⟩) :: .bool true :: .pointer (some ⟨gr, 0, none⟩) :: u6 :: u7 :: u8 :: u9 :: u10 :: u11 :: u12 :: u13 :: u14 :: u15 :: u16 :: u17 :: u18 :: u19 :: u20 :: u21 :: u22 :: u23 :: u24 :: u25 :: u26 :: u27 :: u28 :: u29 :: u30 :: u31 :: u32 :: u33 :: u34 :: u35 :: u36 :: u37 :: u38 :: u39 :: u40 :: u41 :: u42 :: u43 :: u44 :: u45 :: u46 :: u47 :: u48 :: u49 :: y50 :: y51 :: y52 :: y53 :: y54 :: y55 :: y56 :: y57 :: y58 :: y59 :: y60 :: y61 :: y62 :: y63 :: y64 :: y65 :: y66 :: y67 :: y68 :: y69 :: y70 :: y71 :: y72 :: y73 :: y74 :: y75 :: y76 :: y77 :: y78 :: y79 :: y80 :: y81 :: y82 :: y83 :: y84 :: y85 :: [])), []⟩ ∧ e = .normal ∧ Only (fun _ => False) w0 w') ⟨(List.toArray (u0 :: u1 :: .pointer (some ⟨ga, 0, none⟩) :: .pointer (some ⟨gb, 0, none⟩) :: u4 :: .pointer (some ⟨gr, 0, none⟩) :: u6 :: u7 :: u8 :: u9 :: u10 :: u11 :: u12 :: u13 :: u14 :: u15 :: u16 :: u17 :: u18 :: u19 :: u20 :: u21 :: u22 :: u23 :: u24 :: u25 :: u26 :: u27 :: u28 :: u29 :: u30 :: u31 :: u32 :: u33 :: u34 :: u35 :: u36 :: u37 :: u38 :: u39 :: u40 :: u41 :: u42 :: u43 :: u44 :: u45 :: u46 :: u47 :: u48 :: u49 :: u50 :: u51 :: u52 :: u53 :: u54 :: u55 :: u56 :: u57 :: u58 :: u59 :: u60 :: u61 :: u62 :: u63 :: u64 :: u65 :: u66 :: u67 :: u68 :: u69 :: u70 :: u71 :: u72 :: u73 :: u74 :: u75 :: u76 :: u77 :: u78 :: u79 :: u80 :: u81 :: u82 :: u83 :: u84 :: u85 :: [])), []⟩ w0 := by
  conv => arg 2; whnf
  have HRI := Lib.hid (fun (wx : World) (h : Only (fun _ => False) w0 wx) => fright_is m p1 o1 s1 wx (hDm.only h) (by omega) hfm.mant hfm.exp)
  have HRR := Lib.hid (fun (wx : World) (h : Only (fun _ => False) w0 wx) => rright_is m p3 o3 s3 wx (hDr.only h) (by omega))
  have HSM := Lib.hid (fun (wx : World) (h : Only (fun _ => False) w0 wx) => fsame_is m k p1 o1 s1 p2 o2 s2 wx (hDm.only h) (hDk.only h) (by omega) (by omega))
  have HRF := Lib.hid (fun (wx : World) (h : Only (fun _ => False) w0 wx) => fref_is k p2 o2 s2 wx (hDk.only h) hn2 (by omega) hfk.orders)
  have HRS := Lib.hid (fun (wx : World) (h : Only (fun _ => False) w0 wx) (vp vo vs : Value) (hd : RdM k vp vo vs wx) => rmsame_is m k p3 o3 s3 vp vo vs wx (hDr.only h) hd (by omega) (by omega))
  have HSS := Lib.hid (fun (wx : World) (h : Only (fun _ => False) w0 wx) => by
    have := fsame_is m m p1 o1 s1 p1 o1 s1 wx (hDm.only h) (hDm.only h) (by omega) (by omega)
    rwa [sameMs_self] at this)
  have HRT := Lib.hid (fun (wx : World) (h : Only (fun _ => False) w0 wx) => rate_is m p1 o1 s1 wx hfm.mant hfm.exp)
  have HRT2 := Lib.hid (fun (wx : World) (h : Only (fun _ => False) w0 wx) => rrate_is m p3 o3 s3 wx hfm.mant hfm.exp)
  have HRF2 := Lib.hid (fun (wx : World) (h : Only (fun _ => False) w0 wx) => fref_is m p1 o1 s1 wx (hDm.only h) hn1 (by omega) hfm.orders)
  have HRS2 := Lib.hid (fun (wx : World) (h : Only (fun _ => False) w0 wx) (vp vo vs : Value) (hd : RdM m vp vo vs wx) => rmsame_yes m vp vo vs p3 o3 s3 wx hd (hDr.only h) (by omega))
  have HWK := Lib.hid (fun (wx : World) (h : Only (fun _ => False) w0 wx) => fworks_any wx)
  generalize rightMs m = rr at *
  generalize sameMs m k = sm at *
  generalize rateOf m.mant m.exp = rt at *
  clear hlm hlk hfm hfk hn1 hn2 hDm hDk hDr
  refine wp_region_posts fputs12_A [1, 3, 8, 11, 12, 18, 22, 24, 29, 31, 34] [11, 29] fputs12_kill fputs12_uses [] [] [] []
      (some ?v0 :: some (.bool rr) :: some ?v2 :: some (.bool rr) :: some ?v4 :: some ?v5 :: some ?v6 :: some ?v7 :: some (.bool sm) :: some ?v9 :: some ?v10 :: none :: some (.bool sm) :: some ?v13 :: some ?v14 :: some ?v15 :: some ?v16 :: some ?v17 :: some (.bool true) :: some ?v19 :: some ?v20 :: some ?v21 :: some (.int .u64 (rt : Nat)) :: some ?v23 :: some (.int .u64 (rt : Nat)) :: some ?v25 :: some ?v26 :: some ?v27 :: some ?v28 :: none :: some ?v30 :: some (.bool true) :: some ?v32 :: some ?v33 :: some (.bool true) :: some ?v35 :: some ?v36 :: [])
      ?T (fun wx => Only (fun _ => False) w0 wx) ?W ?E (by kernel_rfl) (by kernel_rfl) (by kernel_rfl) (fun x => ?hT) ?hF ?hini (Reg.all_ops ?runs) ?pres ?fin
  case W => exact fun j x wz => match j with | 11 => ∃ vp vo vs, x 11 = .agg (k.cls vp vo vs) ∧ RdM k vp vo vs wz | 29 => ∃ vp vo vs, x 29 = .agg (m.cls vp vo vs) ∧ RdM m vp vo vs wz | _ => True
  case E => exact fun _ wx wy => Only (fun _ => False) wx wy
  case hT =>
    simp only [Reg.fillV, Act.put, List.setIfInBounds_toArray, List.set_cons_zero, List.set_cons_succ]
    rfl
  case runs =>
    refine And.intro ?_ ?_
    · refine Reg.ob_pure (fun _ => rfl) rfl rfl rfl rfl (fun x w1 hF => ?_)
      obtain ⟨m0, m1, m2, m3, m4, m5, m6, m7⟩ := cls_cells (hA.only hF (by simp))
      go_simp
      with_reducible rfl
    refine And.intro ?_ ?_
    · refine Reg.ob_known (fun _ => rfl) rfl rfl (fun x w1 hF hU K hK => ?_)
      have hF := hF rfl
      go_simp
      refine (HRI.out w1 hF).mono ?_
      rintro e w5 ⟨rfl, ho⟩
      exact hK _ (fun _ _ _ => hF.trans ho (fun _ _ e => e)) ho
    refine And.intro ?_ ?_
    · refine Reg.ob_pure (fun _ => rfl) rfl rfl rfl rfl (fun x w1 hF => ?_)
      obtain ⟨m0, m1, m2, m3, m4, m5, m6, m7⟩ := cls_cells (hR.only hF (by simp))
      go_simp
      with_reducible rfl
    refine And.intro ?_ ?_
    · refine Reg.ob_known (fun _ => rfl) rfl rfl (fun x w1 hF hU K hK => ?_)
      have hF := hF rfl
      go_simp
      refine (HRR.out w1 hF).mono ?_
      rintro e w5 ⟨rfl, ho⟩
      exact hK _ (fun _ _ _ => hF.trans ho (fun _ _ e => e)) ho
    refine And.intro ?_ ?_
    · refine Reg.ob_pure (fun _ => rfl) rfl rfl rfl rfl (fun x w1 hF => ?_)
      go_simp
      with_reducible rfl
    refine And.intro ?_ ?_
    · refine Reg.ob_pure (fun _ => rfl) rfl rfl rfl rfl (fun x w1 hF => ?_)
      go_simp
      with_reducible rfl
    refine And.intro ?_ ?_
    · refine Reg.ob_pure (fun _ => rfl) rfl rfl rfl rfl (fun x w1 hF => ?_)
      obtain ⟨m0, m1, m2, m3, m4, m5, m6, m7⟩ := cls_cells (hA.only hF (by simp))
      go_simp
      with_reducible rfl
    refine And.intro ?_ ?_
    · refine Reg.ob_pure (fun _ => rfl) rfl rfl rfl rfl (fun x w1 hF => ?_)
      obtain ⟨m0, m1, m2, m3, m4, m5, m6, m7⟩ := cls_cells (hB.only hF (by simp))
      go_simp
      with_reducible rfl
    refine And.intro ?_ ?_
    · refine Reg.ob_known (fun _ => rfl) rfl rfl (fun x w1 hF hU K hK => ?_)
      have hF := hF rfl
      go_simp
      refine (HSM.out w1 hF).mono ?_
      rintro e w5 ⟨rfl, ho⟩
      exact hK _ (fun _ _ _ => hF.trans ho (fun _ _ e => e)) ho
    refine And.intro ?_ ?_
    · refine Reg.ob_pure (fun _ => rfl) rfl rfl rfl rfl (fun x w1 hF => ?_)
      obtain ⟨m0, m1, m2, m3, m4, m5, m6, m7⟩ := cls_cells (hR.only hF (by simp))
      go_simp
      with_reducible rfl
    refine And.intro ?_ ?_
    · refine Reg.ob_pure (fun _ => rfl) rfl rfl rfl rfl (fun x w1 hF => ?_)
      obtain ⟨m0, m1, m2, m3, m4, m5, m6, m7⟩ := cls_cells (hB.only hF (by simp))
      go_simp
      with_reducible rfl
    refine And.intro ?_ ?_
    · refine Reg.ob_some (fun _ => rfl) rfl (fun x w1 hF hU K hK => ?_)
      have hF := hF rfl
      go_simp
      refine (HRF.out w1 hF).mono ?_
      rintro e w5 ⟨vp, vo, vs, rfl, hd, ho⟩
      exact hK _ w5 (fun _ _ _ => hF.trans ho (fun _ _ e => e)) ho ⟨vp, vo, vs, rfl, hd⟩
    refine And.intro ?_ ?_
    · refine Reg.ob_known (fun _ => rfl) rfl rfl (fun x w1 hF hU K hK => ?_)
      have hF := hF rfl
      obtain ⟨⟨vp, vo, vs, hx, hd⟩, -⟩ := hU
      have hx : x 11 = .agg (k.cls vp vo vs) := hx
      revert hK
      simp only [Nat.reduceAdd, hx]
      intro hK
      go_simp
      refine (HRS.out w1 hF vp vo vs hd).mono ?_
      rintro e w5 ⟨rfl, ho⟩
      exact hK _ (fun _ _ _ => hF.trans ho (fun _ _ e => e)) ho
    refine And.intro ?_ ?_
    · refine Reg.ob_pure (fun _ => rfl) rfl rfl rfl rfl (fun x w1 hF => ?_)
      go_simp
      with_reducible rfl
    refine And.intro ?_ ?_
    · refine Reg.ob_pure (fun _ => rfl) rfl rfl rfl rfl (fun x w1 hF => ?_)
      go_simp
      with_reducible rfl
    refine And.intro ?_ ?_
    · refine Reg.ob_pure (fun _ => rfl) rfl rfl rfl rfl (fun x w1 hF => ?_)
      go_simp
      with_reducible rfl
    refine And.intro ?_ ?_
    · refine Reg.ob_pure (fun _ => rfl) rfl rfl rfl rfl (fun x w1 hF => ?_)
      obtain ⟨m0, m1, m2, m3, m4, m5, m6, m7⟩ := cls_cells (hA.only hF (by simp))
      go_simp
      with_reducible rfl
    refine And.intro ?_ ?_
    · refine Reg.ob_pure (fun _ => rfl) rfl rfl rfl rfl (fun x w1 hF => ?_)
      obtain ⟨m0, m1, m2, m3, m4, m5, m6, m7⟩ := cls_cells (hA.only hF (by simp))
      go_simp
      with_reducible rfl
    refine And.intro ?_ ?_
    · refine Reg.ob_known (fun _ => rfl) rfl rfl (fun x w1 hF hU K hK => ?_)
      have hF := hF rfl
      go_simp
      refine (HSS.out w1 hF).mono ?_
      rintro e w5 ⟨rfl, ho⟩
      exact hK _ (fun _ _ _ => hF.trans ho (fun _ _ e => e)) ho
    refine And.intro ?_ ?_
    · refine Reg.ob_pure (fun _ => rfl) rfl rfl rfl rfl (fun x w1 hF => ?_)
      go_simp
      with_reducible rfl
    refine And.intro ?_ ?_
    · refine Reg.ob_pure (fun _ => rfl) rfl rfl rfl rfl (fun x w1 hF => ?_)
      go_simp
      with_reducible rfl
    refine And.intro ?_ ?_
    · refine Reg.ob_pure (fun _ => rfl) rfl rfl rfl rfl (fun x w1 hF => ?_)
      obtain ⟨m0, m1, m2, m3, m4, m5, m6, m7⟩ := cls_cells (hA.only hF (by simp))
      go_simp
      with_reducible rfl
    refine And.intro ?_ ?_
    · refine Reg.ob_known (fun _ => rfl) rfl rfl (fun x w1 hF hU K hK => ?_)
      have hF := hF rfl
      go_simp
      refine (HRT.out w1 hF).mono ?_
      rintro e w5 ⟨rfl, ho⟩
      exact hK _ (fun _ _ _ => hF.trans ho (fun _ _ e => e)) ho
    refine And.intro ?_ ?_
    · refine Reg.ob_pure (fun _ => rfl) rfl rfl rfl rfl (fun x w1 hF => ?_)
      obtain ⟨m0, m1, m2, m3, m4, m5, m6, m7⟩ := cls_cells (hR.only hF (by simp))
      go_simp
      with_reducible rfl
    refine And.intro ?_ ?_
    · refine Reg.ob_known (fun _ => rfl) rfl rfl (fun x w1 hF hU K hK => ?_)
      have hF := hF rfl
      go_simp
      refine (HRT2.out w1 hF).mono ?_
      rintro e w5 ⟨rfl, ho⟩
      exact hK _ (fun _ _ _ => hF.trans ho (fun _ _ e => e)) ho
    refine And.intro ?_ ?_
    · refine Reg.ob_pure (fun _ => rfl) rfl rfl rfl rfl (fun x w1 hF => ?_)
      go_simp
      with_reducible rfl
    refine And.intro ?_ ?_
    · refine Reg.ob_pure (fun _ => rfl) rfl rfl rfl rfl (fun x w1 hF => ?_)
      go_simp
      with_reducible rfl
    refine And.intro ?_ ?_
    · refine Reg.ob_pure (fun _ => rfl) rfl rfl rfl rfl (fun x w1 hF => ?_)
      go_simp
      with_reducible rfl
    refine And.intro ?_ ?_
    · refine Reg.ob_pure (fun _ => rfl) rfl rfl rfl rfl (fun x w1 hF => ?_)
      obtain ⟨m0, m1, m2, m3, m4, m5, m6, m7⟩ := cls_cells (hA.only hF (by simp))
      go_simp
      with_reducible rfl
    refine And.intro ?_ ?_
    · refine Reg.ob_some (fun _ => rfl) rfl (fun x w1 hF hU K hK => ?_)
      have hF := hF rfl
      go_simp
      refine (HRF2.out w1 hF).mono ?_
      rintro e w5 ⟨vp, vo, vs, rfl, hd, ho⟩
      exact hK _ w5 (fun _ _ _ => hF.trans ho (fun _ _ e => e)) ho ⟨vp, vo, vs, rfl, hd⟩
    refine And.intro ?_ ?_
    · refine Reg.ob_pure (fun _ => rfl) rfl rfl rfl rfl (fun x w1 hF => ?_)
      obtain ⟨m0, m1, m2, m3, m4, m5, m6, m7⟩ := cls_cells (hR.only hF (by simp))
      go_simp
      with_reducible rfl
    refine And.intro ?_ ?_
    · refine Reg.ob_known (fun _ => rfl) rfl rfl (fun x w1 hF hU K hK => ?_)
      have hF := hF rfl
      obtain ⟨⟨vp, vo, vs, hx, hd⟩, -⟩ := hU
      have hx : x 29 = .agg (m.cls vp vo vs) := hx
      revert hK
      simp only [Nat.reduceAdd, hx]
      intro hK
      go_simp
      refine (HRS2.out w1 hF vp vo vs hd).mono ?_
      rintro e w5 ⟨rfl, ho⟩
      exact hK _ (fun _ _ _ => hF.trans ho (fun _ _ e => e)) ho
    refine And.intro ?_ ?_
    · refine Reg.ob_pure (fun _ => rfl) rfl rfl rfl rfl (fun x w1 hF => ?_)
      go_simp
      with_reducible rfl
    refine And.intro ?_ ?_
    · refine Reg.ob_pure (fun _ => rfl) rfl rfl rfl rfl (fun x w1 hF => ?_)
      go_simp
      with_reducible rfl
    refine And.intro ?_ ?_
    · refine Reg.ob_known (fun _ => rfl) rfl rfl (fun x w1 hF hU K hK => ?_)
      have hF := hF rfl
      go_simp
      refine (HWK.out w1 hF).mono ?_
      rintro e w5 ⟨rfl, ho⟩
      exact hK _ (fun _ _ _ => hF.trans ho (fun _ _ e => e)) ho
    refine And.intro ?_ ?_
    · refine Reg.ob_pure (fun _ => rfl) rfl rfl rfl rfl (fun x w1 hF => ?_)
      go_simp
      with_reducible rfl
    refine And.intro ?_ ?_
    · refine Reg.ob_pure (fun _ => rfl) rfl rfl rfl rfl (fun x w1 hF => ?_)
      go_simp
      with_reducible rfl
    exact trivial
  case hF =>
    exact (Only.refl _ w0).drewN 1
  case hini =>
    exact trivial
  case pres =>
    intro i hi j hj hc x wx wy hF hE hW
    simp only [List.mem_cons, List.mem_nil_iff, or_false] at hj
    rcases hj with rfl | rfl
    · obtain ⟨vp, vo, vs, h1, h2⟩ := hW
      exact ⟨vp, vo, vs, h1, RdM.only h2 hE⟩
    · obtain ⟨vp, vo, vs, h1, h2⟩ := hW
      exact ⟨vp, vo, vs, h1, RdM.only h2 hE⟩
  case fin =>
    rintro x w9 hF hU
    repeat apply Exists.intro
    exact ⟨rfl, rfl, hF rfl⟩

set_option maxRecDepth 100000 in
set_option maxHeartbeats 4000000 in
theorem fputs12 (m k : Ms) (p1 o1 s1 p2 o2 s2 p3 o3 s3 : Value) (ga gb gr : Nat) (hlm : m.pairs.length ≤ 300 ∧ m.orders.length ≤ 300 ∧ m.srcs.length ≤ 300) (hlk : k.pairs.length ≤ 300 ∧ k.orders.length ≤ 300 ∧ k.srcs.length ≤ 300) (hfm : MFit m) (hfk : MFit k) (hn1 : s1 = .slice none 0 0 ∨ ∃ ad n c, s1 = .slice (some ad) n c) (hn2 : s2 = .slice none 0 0 ∨ ∃ ad n c, s2 = .slice (some ad) n c) (u0 u1 u4 u6 u7 u8 u9 u10 u11 u12 u13 u14 u15 u16 u17 u18 u19 u20 u21 u22 u23 u24 u25 u26 u27 u28 u29 u30 u31 u32 u33 u34 u35 u36 u37 u38 u39 u40 u41 u42 u43 u44 u45 u46 u47 u48 u49 u50 u51 u52 u53 u54 u55 u56 u57 u58 u59 u60 u61 u62 u63 u64 u65 u66 u67 u68 u69 u70 u71 u72 u73 u74 u75 u76 u77 u78 u79 u80 u81 u82 u83 u84 u85 : Value) (Q : Exit → Act → World → Prop) (w0 : World) (hA : Is w0 ga 27 (m.cls p1 o1 s1)) (hB : Is w0 gb 27 (k.cls p2 o2 s2)) (hR : Is w0 gr 33 (m.cls p3 o3 s3)) (hDm : RdM m p1 o1 s1 w0) (hDk : RdM k p2 o2 s2 w0) (hDr : RdM m p3 o3 s3 w0)
    (hend : ∀ (y50 y51 y52 y53 y54 y55 y56 y57 y58 y59 y60 y61 y62 y63 y64 y65 y66 y67 y68 y69 y70 y71 y72 y73 y74 y75 y76 y77 y78 y79 y80 y81 y82 y83 y84 y85 : Value) (w' : World), Only (fun _ => False) w0 w' → Q .normal ⟨(List.toArray (u0 :: u1 :: .pointer (some ⟨ga, 0, none⟩) :: .pointer (some ⟨gb, 0, none⟩) :: .bool true :: .pointer (some ⟨gr, 0, none⟩) :: u6 :: u7 :: u8 :: u9 :: u10 :: u11 :: u12 :: u13 :: u14 :: u15 :: u16 :: u17 :: u18 :: u19 :: u20 :: u21 :: u22 :: u23 :: u24 :: u25 :: u26 :: u27 :: u28 :: u29 :: u30 :: u31 :: u32 :: u33 :: u34 :: u35 :: u36 :: u37 :: u38 :: u39 :: u40 :: u41 :: u42 :: u43 :: u44 :: u45 :: u46 :: u47 :: u48 :: u49 :: y50 :: y51 :: y52 :: y53 :: y54 :: y55 :: y56 :: y57 :: y58 :: y59 :: y60 :: y61 :: y62 :: y63 :: y64 :: y65 :: y66 :: y67 :: y68 :: y69 :: y70 :: y71 :: y72 :: y73 :: y74 :: y75 :: y76 :: y77 :: y78 :: y79 :: y80 :: y81 :: y82 :: y83 :: y84 :: y85 :: [])), []⟩ w') :
    Code.wp Try.prog fputs12_code Q ⟨(List.toArray (u0 :: u1 :: .pointer (some ⟨ga, 0, none⟩) :: .pointer (some ⟨gb, 0, none⟩) :: u4 :: .pointer (some ⟨gr, 0, none⟩) :: u6 :: u7 :: u8 :: u9 :: u10 :: u11 :: u12 :: u13 :: u14 :: u15 :: u16 :: u17 :: u18 :: u19 :: u20 :: u21 :: u22 :: u23 :: u24 :: u25 :: u26 :: u27 :: u28 :: u29 :: u30 :: u31 :: u32 :: u33 :: u34 :: u35 :: u36 :: u37 :: u38 :: u39 :: u40 :: u41 :: u42 :: u43 :: u44 :: u45 :: u46 :: u47 :: u48 :: u49 :: u50 :: u51 :: u52 :: u53 :: u54 :: u55 :: u56 :: u57 :: u58 :: u59 :: u60 :: u61 :: u62 :: u63 :: u64 :: u65 :: u66 :: u67 :: u68 :: u69 :: u70 :: u71 :: u72 :: u73 :: u74 :: u75 :: u76 :: u77 :: u78 :: u79 :: u80 :: u81 :: u82 :: u83 :: u84 :: u85 :: [])), []⟩ w0 := by
  refine wp_mono (fputs12_in m k p1 o1 s1 p2 o2 s2 p3 o3 s3 ga gb gr hlm hlk hfm hfk hn1 hn2 _ _ _ _ _ _ _ _ _ _ _ _ _ _ _ _ _ _ _ _ _ _ _ _ _ _ _ _ _ _ _ _ _ _ _ _ _ _ _ _ _ _ _ _ _ _ _ _ _ _ _ _ _ _ _ _ _ _ _ _ _ _ _ _ _ _ _ _ _ _ _ _ _ _ _ _ _ _ _ _ _ _ _ w0 hA hB hR hDm hDk hDr) ?_
  rintro e a w' h
  obtain ⟨y50, h⟩ := h
  obtain ⟨y51, h⟩ := h
  obtain ⟨y52, h⟩ := h
  obtain ⟨y53, h⟩ := h
  obtain ⟨y54, h⟩ := h
  obtain ⟨y55, h⟩ := h
  obtain ⟨y56, h⟩ := h
  obtain ⟨y57, h⟩ := h
  obtain ⟨y58, h⟩ := h
  obtain ⟨y59, h⟩ := h
  obtain ⟨y60, h⟩ := h
  obtain ⟨y61, h⟩ := h
  obtain ⟨y62, h⟩ := h
  obtain ⟨y63, h⟩ := h
  obtain ⟨y64, h⟩ := h
  obtain ⟨y65, h⟩ := h
  obtain ⟨y66, h⟩ := h
  obtain ⟨y67, h⟩ := h
  obtain ⟨y68, h⟩ := h
  obtain ⟨y69, h⟩ := h
  obtain ⟨y70, h⟩ := h
  obtain ⟨y71, h⟩ := h
  obtain ⟨y72, h⟩ := h
  obtain ⟨y73, h⟩ := h
  obtain ⟨y74, h⟩ := h
  obtain ⟨y75, h⟩ := h
  obtain ⟨y76, h⟩ := h
  obtain ⟨y77, h⟩ := h
  obtain ⟨y78, h⟩ := h
  obtain ⟨y79, h⟩ := h
  obtain ⟨y80, h⟩ := h
  obtain ⟨y81, h⟩ := h
  obtain ⟨y82, h⟩ := h
  obtain ⟨y83, h⟩ := h
  obtain ⟨y84, h⟩ := h
  obtain ⟨y85, h⟩ := h
  obtain ⟨h, rfl, hq⟩ := h
  subst h
  exact hend y50 y51 y52 y53 y54 y55 y56 y57 y58 y59 y60 y61 y62 y63 y64 y65 y66 y67 y68 y69 y70 y71 y72 y73 y74 y75 y76 y77 y78 y79 y80 y81 y82 y83 y84 y85 w' hq
end Go.Proofs.Ytefcimkopgcagaa
