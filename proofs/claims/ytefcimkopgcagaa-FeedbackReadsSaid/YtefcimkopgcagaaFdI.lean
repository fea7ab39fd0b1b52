/- FeedbackReads' drawn regions. Conditions: as each says. -/
import Derived.Test.YtefcimkopgcagaaFdH
import Derived.Test.YtefcimkopgcagaaFdIa
import Derived.Test.YtefcimkopgcagaaFcD
import Derived.Test.YtefcimkopgcagaaFbO
set_option linter.unusedVariables false
set_option linter.unusedSimpArgs false
namespace Go.Proofs.Ytefcimkopgcagaa
open Go.RowKit

def fr9_A : List (List Nat) := ([] :: [] :: [0, 1] :: [2, 0, 1] :: [3, 2, 0, 1] :: [4, 3, 2, 0, 1] :: [3, 2, 0, 1] :: [5, 6, 3, 4, 2, 0, 1] :: (7 :: 3 :: 5 :: 6 :: 4 :: 2 :: 0 :: 1 :: []) :: (3 :: 8 :: 2 :: 0 :: 1 :: 7 :: 5 :: 6 :: 4 :: []) :: [])
def fr9_kill : List (List Nat) := ([] :: [] :: [] :: [] :: [] :: [] :: [] :: [] :: [] :: [] :: [])
def fr9_uses : List (List Nat) := ([] :: [] :: [] :: [] :: [] :: [] :: [] :: [5] :: [] :: [] :: [])
noncomputable def fr9_code : Code := ((Try.f4.body.bind (codeRegion 9)).getD .skip)
set_option maxRecDepth 100000 in
set_option maxHeartbeats 4000000 in
theorem fr9_in (m : Ms) (p1 o1 s1 p2 o2 s2 : Value) (er : Int) (mb wb : Nat) (hlm : m.pairs.length ≤ 1000 ∧ m.orders.length ≤ 1000 ∧ m.srcs.length ≤ 1000) (hfo : ∀ p ∈ m.orders, p.Fit) (hn1 : s1 = .slice none 0 0 ∨ ∃ ad n c, s1 = .slice (some ad) n c) (u0 u1 u2 u3 u6 u9 u10 u11 u12 u13 u14 u15 u16 u17 u18 u19 u20 u21 u22 u23 u24 u25 u26 u27 u28 u29 u30 u31 u32 u33 u34 u35 u36 u37 u38 u39 u40 u41 u42 u43 u44 u45 u46 u47 u48 u49 u50 u51 u52 u53 u54 u55 u56 u57 : Value) (w0 : World) (hM : Is w0 mb 27 (m.cls p1 o1 s1)) (hW : Is w0 wb 33 (m.cls p2 o2 s2)) (hDm : RdM m p1 o1 s1 w0) (hDw : RdM m p2 o2 s2 w0) :
    Code.wp Try.prog fr9_code (fun e a w' => ∃ y30 y31 y32 y33 y34 y35 y36 y37 y38 : Value, a = ⟨(List.toArray (u0 :: u1 :: u2 :: u3 :: .pointer (some ⟨wb, 0, none⟩) :: .int .i64 er :: u6 :: .pointer (some ⟨mb, 0, none⟩) :: .int .i64 er :: u9 :: u10 :: u11 :: u12 :: u13 :: u14 :: u15 :: u16 :: u17 :: u18 :: u19 :: u20 :: u21 :: u22 :: u23 :: u24 :: u25 :: u26 :: u27 :: u28 :: u29 :: y30 :: y31 :: y32 :: y33 :: y34 :: y35 :: y36 :: y37 :: y38 :: .bool false :: u40 :: u41 :: u42 :: u43 :: u44 :: u45 :: u46 :: u47 :: u48 :: u49 :: u50 :: u51 :: u52 :: u53 :: u54 :: u55 :: u56 :: u57 :: [])), []⟩ ∧ e = .normal ∧ Only (fun _ => False) w0 w') ⟨(List.toArray (u0 :: u1 :: u2 :: u3 :: .pointer (some ⟨wb, 0, none⟩) :: .int .i64 er :: u6 :: .pointer (some ⟨mb, 0, none⟩) :: .int .i64 er :: u9 :: u10 :: u11 :: u12 :: u13 :: u14 :: u15 :: u16 :: u17 :: u18 :: u19 :: u20 :: u21 :: u22 :: u23 :: u24 :: u25 :: u26 :: u27 :: u28 :: u29 :: u30 :: u31 :: u32 :: u33 :: u34 :: u35 :: u36 :: u37 :: u38 :: u39 :: u40 :: u41 :: u42 :: u43 :: u44 :: u45 :: u46 :: u47 :: u48 :: u49 :: u50 :: u51 :: u52 :: u53 :: u54 :: u55 :: u56 :: u57 :: [])), []⟩ w0 := by
  conv => arg 2; whnf
  have HRF := Lib.hid (fun (wx : World) (h : Only (fun _ => False) w0 wx) => fref_is m p1 o1 s1 wx (hDm.only h) hn1 hlm hfo)
  have HRS := Lib.hid (fun (wx : World) (h : Only (fun _ => False) w0 wx) (vp vo vs : Value) (hd : RdM m vp vo vs wx) => rmsame_yes m vp vo vs p2 o2 s2 wx hd (hDw.only h) (by omega))
  clear hlm hfo hn1 hDm hDw
  refine wp_region_posts fr9_A [5, 7] [5] fr9_kill fr9_uses [] [] [] []
      (some ?v0 :: some ?v1 :: some (.bool false) :: some ?v3 :: some ?v4 :: none :: some ?v6 :: some (.bool true) :: some ?v8 :: some ?v9 :: [])
      ?T (fun wx => Only (fun _ => False) w0 wx) ?W ?E (by kernel_rfl) (by kernel_rfl) (by kernel_rfl) (fun x => ?hT) ?hF ?hini (Reg.all_ops ?runs) ?pres ?fin
  case W => exact fun j x wz => match j with | 5 => ∃ vp vo vs, x 5 = .agg (m.cls vp vo vs) ∧ RdM m vp vo vs wz | _ => True
  case E => exact fun _ wx wy => Only (fun _ => False) wx wy
  case hT =>
    simp only [Reg.fillV, Act.put, List.setIfInBounds_toArray, List.set_cons_zero, List.set_cons_succ]
    rfl
  case runs =>
    refine And.intro ?_ ?_
    · refine Reg.ob_pure (fun _ => rfl) rfl rfl rfl rfl (fun x w1 hF => ?_)
      go_simp
      with_reducible rfl
    refine And.intro ?_ ?_
    · refine Reg.ob_pure (fun _ => rfl) rfl rfl rfl rfl (fun x w1 hF => ?_)
      go_simp
      with_reducible rfl
    refine And.intro ?_ ?_
    · refine Reg.ob_pure (fun _ => rfl) rfl rfl rfl rfl (fun x w1 hF => ?_)
      go_simp
    refine And.intro ?_ ?_
    · refine Reg.ob_pure (fun _ => rfl) rfl rfl rfl rfl (fun x w1 hF => ?_)
      go_simp
      with_reducible rfl
    refine And.intro ?_ ?_
    · refine Reg.ob_pure (fun _ => rfl) rfl rfl rfl rfl (fun x w1 hF => ?_)
      obtain ⟨m0, m1, m2, m3, m4, m5, m6, m7⟩ := cls_cells (hM.only hF (by simp))
      go_simp
      with_reducible rfl
    refine And.intro ?_ ?_
    · refine Reg.ob_some (fun _ => rfl) rfl (fun x w1 hF hU K hK => ?_)
      have hF := hF rfl
      go_simp
      refine (HRF.out w1 hF).mono ?_
      rintro e w5 ⟨vp, vo, vs, rfl, hd, ho⟩
      exact hK _ w5 (fun _ _ _ => hF.trans ho (fun _ _ e => e)) ho ⟨vp, vo, vs, rfl, hd⟩
    refine And.intro ?_ ?_
    · refine Reg.ob_pure (fun _ => rfl) rfl rfl rfl rfl (fun x w1 hF => ?_)
      obtain ⟨m0, m1, m2, m3, m4, m5, m6, m7⟩ := cls_cells (hW.only hF (by simp))
      go_simp
      with_reducible rfl
    refine And.intro ?_ ?_
    · refine Reg.ob_known (fun _ => rfl) rfl rfl (fun x w1 hF hU K hK => ?_)
      have hF := hF rfl
      obtain ⟨⟨vp, vo, vs, hx, hd⟩, -⟩ := hU
      have hx : x 5 = .agg (m.cls vp vo vs) := hx
      revert hK
      simp only [Nat.reduceAdd, hx]
      intro hK
      go_simp
      refine (HRS.out w1 hF vp vo vs hd).mono ?_
      rintro e w5 ⟨rfl, ho⟩
      exact hK _ (fun _ _ _ => hF.trans ho (fun _ _ e => e)) ho
    refine And.intro ?_ ?_
    · refine Reg.ob_pure (fun _ => rfl) rfl rfl rfl rfl (fun x w1 hF => ?_)
      go_simp
      with_reducible rfl
    refine And.intro ?_ ?_
    · refine Reg.ob_pure (fun _ => rfl) rfl rfl rfl rfl (fun x w1 hF => ?_)
      go_simp
      with_reducible rfl
    exact trivial
  case hF =>
    exact (Only.refl _ w0).drewN 1
  case hini =>
    exact trivial
  case pres =>
    intro i hi j hj hc x wx wy hF hE hW
    simp only [List.mem_cons, List.mem_nil_iff, or_false] at hj
    subst hj
    obtain ⟨vp, vo, vs, h1, h2⟩ := hW
    exact ⟨vp, vo, vs, h1, RdM.only h2 hE⟩
  case fin =>
    rintro x w9 hF hU
    repeat apply Exists.intro
    exact ⟨rfl, rfl, hF rfl⟩

set_option maxRecDepth 100000 in
set_option maxHeartbeats 4000000 in
theorem fr9 (m : Ms) (p1 o1 s1 p2 o2 s2 : Value) (er : Int) (mb wb : Nat) (hlm : m.pairs.length ≤ 1000 ∧ m.orders.length ≤ 1000 ∧ m.srcs.length ≤ 1000) (hfo : ∀ p ∈ m.orders, p.Fit) (hn1 : s1 = .slice none 0 0 ∨ ∃ ad n c, s1 = .slice (some ad) n c) (u0 u1 u2 u3 u6 u9 u10 u11 u12 u13 u14 u15 u16 u17 u18 u19 u20 u21 u22 u23 u24 u25 u26 u27 u28 u29 u30 u31 u32 u33 u34 u35 u36 u37 u38 u39 u40 u41 u42 u43 u44 u45 u46 u47 u48 u49 u50 u51 u52 u53 u54 u55 u56 u57 : Value) (Q : Exit → Act → World → Prop) (w0 : World) (hM : Is w0 mb 27 (m.cls p1 o1 s1)) (hW : Is w0 wb 33 (m.cls p2 o2 s2)) (hDm : RdM m p1 o1 s1 w0) (hDw : RdM m p2 o2 s2 w0)
    (hend : ∀ (y30 y31 y32 y33 y34 y35 y36 y37 y38 : Value) (w' : World), Only (fun _ => False) w0 w' → Q .normal ⟨(List.toArray (u0 :: u1 :: u2 :: u3 :: .pointer (some ⟨wb, 0, none⟩) :: .int .i64 er :: u6 :: .pointer (some ⟨mb, 0, none⟩) :: .int .i64 er :: u9 :: u10 :: u11 :: u12 :: u13 :: u14 :: u15 :: u16 :: u17 :: u18 :: u19 :: u20 :: u21 :: u22 :: u23 :: u24 :: u25 :: u26 :: u27 :: u28 :: u29 :: y30 :: y31 :: y32 :: y33 :: y34 :: y35 :: y36 :: y37 :: y38 :: .bool false :: u40 :: u41 :: u42 :: u43 :: u44 :: u45 :: u46 :: u47 :: u48 :: u49 :: u50 :: u51 :: u52 :: u53 :: u54 :: u55 :: u56 :: u57 :: [])), []⟩ w') :
    Code.wp Try.prog fr9_code Q ⟨(List.toArray (u0 :: u1 :: u2 :: u3 :: .pointer (some ⟨wb, 0, none⟩) :: .int .i64 er :: u6 :: .pointer (some ⟨mb, 0, none⟩) :: .int .i64 er :: u9 :: u10 :: u11 :: u12 :: u13 :: u14 :: u15 :: u16 :: u17 :: u18 :: u19 :: u20 :: u21 :: u22 :: u23 :: u24 :: u25 :: u26 :: u27 :: u28 :: u29 :: u30 :: u31 :: u32 :: u33 :: u34 :: u35 :: u36 :: u37 :: u38 :: u39 :: u40 :: u41 :: u42 :: u43 :: u44 :: u45 :: u46 :: u47 :: u48 :: u49 :: u50 :: u51 :: u52 :: u53 :: u54 :: u55 :: u56 :: u57 :: [])), []⟩ w0 := by
  refine wp_mono (fr9_in m p1 o1 s1 p2 o2 s2 er mb wb hlm hfo hn1 _ _ _ _ _ _ _ _ _ _ _ _ _ _ _ _ _ _ _ _ _ _ _ _ _ _ _ _ _ _ _ _ _ _ _ _ _ _ _ _ _ _ _ _ _ _ _ _ _ _ _ _ _ _ w0 hM hW hDm hDw) ?_
  rintro e a w' h
  obtain ⟨y30, h⟩ := h
  obtain ⟨y31, h⟩ := h
  obtain ⟨y32, h⟩ := h
  obtain ⟨y33, h⟩ := h
  obtain ⟨y34, h⟩ := h
  obtain ⟨y35, h⟩ := h
  obtain ⟨y36, h⟩ := h
  obtain ⟨y37, h⟩ := h
  obtain ⟨y38, h⟩ := h
  obtain ⟨h, rfl, hq⟩ := h
  subst h
  exact hend y30 y31 y32 y33 y34 y35 y36 y37 y38 w' hq
def fr12_A : List (List Nat) := ([] :: [0] :: [] :: [2, 1, 0] :: [3, 2, 1, 0] :: [1, 4, 0, 3, 2] :: [5, 3, 1, 4, 0, 2] :: [6, 5, 3, 1, 4, 0, 2] :: (7 :: 6 :: 5 :: 3 :: 1 :: 4 :: 0 :: 2 :: []) :: [6, 5, 3, 1, 4, 0, 2] :: (9 :: 6 :: 5 :: 3 :: 1 :: 4 :: 0 :: 2 :: []) :: (8 :: 10 :: 6 :: 7 :: 5 :: 3 :: 1 :: 4 :: 0 :: 2 :: 9 :: []) :: (6 :: 11 :: 5 :: 3 :: 1 :: 4 :: 0 :: 2 :: 8 :: 10 :: 7 :: 9 :: []) :: (12 :: 11 :: 6 :: 5 :: 3 :: 1 :: 4 :: 0 :: 2 :: 8 :: 10 :: 7 :: 9 :: []) :: (13 :: 12 :: 11 :: 6 :: 5 :: 3 :: 1 :: 4 :: 0 :: 2 :: 8 :: 10 :: 7 :: 9 :: []) :: (13 :: 14 :: 12 :: 11 :: 6 :: 5 :: 3 :: 1 :: 4 :: 0 :: 2 :: 8 :: 10 :: 7 :: 9 :: []) :: (15 :: 14 :: 0 :: 1 :: 2 :: 3 :: 4 :: 5 :: 6 :: 7 :: 8 :: 9 :: 10 :: 11 :: 12 :: 13 :: []) :: [])
def fr12_kill : List (List Nat) := ([] :: [] :: [] :: [] :: [] :: [] :: [] :: [] :: [] :: [] :: [] :: [] :: [] :: [] :: [] :: [] :: [] :: [])
def fr12_uses : List (List Nat) := ([] :: [] :: [] :: [] :: [] :: [] :: [] :: [] :: [] :: [] :: [] :: [8, 10] :: [] :: [] :: [] :: [] :: [] :: [])
noncomputable def fr12_code : Code := ((Try.f4.body.bind (codeRegion 12)).getD .skip)
set_option maxRecDepth 100000 in
set_option maxHeartbeats 4000000 in
theorem fr12_in (kd ct pad : Nat) (v1 v2 : Value) (bs : List Nat) (pb rb : Nat) (hl : bs.length ≤ 1200) (u0 u2 u4 u5 u6 u7 u8 u9 u10 u11 u12 u13 u14 u15 u16 u17 u18 u19 u20 u21 u22 u23 u24 u25 u26 u27 u28 u29 u30 u31 u32 u33 u34 u35 u36 u37 u38 u39 u40 u41 u42 u43 u44 u45 u46 u47 u48 u49 u50 u51 u52 u53 u54 u55 u56 u57 : Value) (w0 : World) (hP : Is w0 pb 41 #[.int .u8 (ct : Nat), .int .u8 (kd : Nat), v1, .int .u8 (pad : Nat)]) (hR : Is w0 rb 37 #[.int .u8 (ct : Nat), .int .u8 (kd : Nat), v2, .int .u8 (pad : Nat)]) (hs1 : Src w0 v1 bs) (hs2 : Src w0 v2 bs) :
    Code.wp Try.prog fr12_code (fun e a w' => ∃ y42 y43 y44 y45 y46 y47 y48 y49 y50 y51 y52 y53 y54 y55 y56 y57 : Value, a = ⟨(List.toArray (u0 :: .pointer (some ⟨pb, 0, none⟩) :: .bool true :: .pointer (some ⟨rb, 0, none⟩) :: u4 :: u5 :: u6 :: u7 :: u8 :: u9 :: u10 :: u11 :: u12 :: u13 :: u14 :: u15 :: u16 :: u17 :: u18 :: u19 :: u20 :: u21 :: u22 :: u23 :: u24 :: u25 :: u26 :: u27 :: u28 :: u29 :: u30 :: u31 :: u32 :: u33 :: u34 :: u35 :: u36 :: u37 :: u38 :: u39 :: u40 :: u41 :: y42 :: y43 :: y44 :: y45 :: y46 :: y47 :: y48 :: y49 :: y50 :: y51 :: y52 :: y53 :: y54 :: y55 :: y56 :: y57 :: [])), []⟩ ∧ e = .normal ∧ Only (fun _ => False) w0 w') ⟨(List.toArray (u0 :: .pointer (some ⟨pb, 0, none⟩) :: u2 :: .pointer (some ⟨rb, 0, none⟩) :: u4 :: u5 :: u6 :: u7 :: u8 :: u9 :: u10 :: u11 :: u12 :: u13 :: u14 :: u15 :: u16 :: u17 :: u18 :: u19 :: u20 :: u21 :: u22 :: u23 :: u24 :: u25 :: u26 :: u27 :: u28 :: u29 :: u30 :: u31 :: u32 :: u33 :: u34 :: u35 :: u36 :: u37 :: u38 :: u39 :: u40 :: u41 :: u42 :: u43 :: u44 :: u45 :: u46 :: u47 :: u48 :: u49 :: u50 :: u51 :: u52 :: u53 :: u54 :: u55 :: u56 :: u57 :: [])), []⟩ w0 := by
  conv => arg 2; whnf
  have HIS := Lib.hid (fun (wx : World) (h : Only (fun _ => False) w0 wx) => fis_is kd ct pad v1 wx)
  have HSO := Lib.hid (fun (wx : World) (h : Only (fun _ => False) w0 wx) => rsort_is kd ct pad v2 wx)
  have HDS := Lib.hid (fun (wx : World) (h : Only (fun _ => False) w0 wx) (g g2 : Nat) (hI : Is wx g 41 #[.int .u8 (ct : Nat), .int .u8 (kd : Nat), v1, .int .u8 (pad : Nat)]) (hJ : Is wx g2 37 #[.int .u8 (ct : Nat), .int .u8 (kd : Nat), v2, .int .u8 (pad : Nat)]) => docs_same _ _ [⟨ct, kd, pad, bs⟩] wx (rdk_1 hI (hs1.of_only h)) (rdk_1 hJ (hs2.of_only h)) (by simp) (fun q hq => (show q = ⟨ct, kd, pad, bs⟩ from (by simpa using hq)) ▸ Nat.le_trans hl (by decide)))
  have HWK := Lib.hid (fun (wx : World) (h : Only (fun _ => False) w0 wx) => fworks_any wx)
  generalize sOf kd ct = s at *
  obtain ⟨bb, hbb⟩ : ∃ bb, decide (0 < s) = bb := ⟨_, rfl⟩
  have hbi : decide ((0 : Int) < (s : Int)) = bb := by rw [← hbb]; simp
  rw [hbb] at HIS
  clear hs1 hs2 hl
  refine wp_region_posts fr12_A [1, 3, 8, 10, 11, 14] [8, 10] fr12_kill fr12_uses [] [] [] []
      (some ?v0 :: some (.bool bb) :: some ?v2 :: some (.int .u8 (s : Nat)) :: some (.bool bb) :: some (.bool true) :: some ?v6 :: some ?v7 :: none :: some ?v9 :: none :: some (.bool true) :: some ?v12 :: some ?v13 :: some (.bool true) :: some ?v15 :: some ?v16 :: [])
      ?T (fun wx => Only (fun _ => False) w0 wx) ?W ?E (by kernel_rfl) (by kernel_rfl) (by kernel_rfl) (fun x => ?hT) ?hF ?hini (Reg.all_ops ?runs) ?pres ?fin
  case W => exact fun j x wz => match j with | 8 => ∃ g, x 8 = .slice (some ⟨g, 0, none⟩) 1 1 ∧ Is wz g 41 #[.int .u8 (ct : Nat), .int .u8 (kd : Nat), v1, .int .u8 (pad : Nat)] | 10 => ∃ g, x 10 = .slice (some ⟨g, 0, none⟩) 1 1 ∧ Is wz g 37 #[.int .u8 (ct : Nat), .int .u8 (kd : Nat), v2, .int .u8 (pad : Nat)] | _ => True
  case E => exact fun _ wx wy => Only (fun _ => False) wx wy
  case hT =>
    simp only [Reg.fillV, Act.put, List.setIfInBounds_toArray, List.set_cons_zero, List.set_cons_succ]
    rfl
  case runs =>
    refine And.intro ?_ ?_
    · refine Reg.ob_pure (fun _ => rfl) rfl rfl rfl rfl (fun x w1 hF => ?_)
      have m0 := (hP.only hF (by simp)).cell 0
      have m1 := (hP.only hF (by simp)).cell 1
      have m2 := (hP.only hF (by simp)).cell 2
      have m3 := (hP.only hF (by simp)).cell 3
      simp at m0 m1 m2 m3
      go_simp
      with_reducible rfl
    refine And.intro ?_ ?_
    · refine Reg.ob_known (fun _ => rfl) rfl rfl (fun x w1 hF hU K hK => ?_)
      have hF := hF rfl
      go_simp
      refine (HIS.out w1 hF).mono ?_
      rintro e w5 ⟨rfl, ho⟩
      exact hK _ (fun _ _ _ => hF.trans ho (fun _ _ e => e)) ho
    refine And.intro ?_ ?_
    · refine Reg.ob_pure (fun _ => rfl) rfl rfl rfl rfl (fun x w1 hF => ?_)
      have m0 := (hR.only hF (by simp)).cell 0
      have m1 := (hR.only hF (by simp)).cell 1
      have m2 := (hR.only hF (by simp)).cell 2
      have m3 := (hR.only hF (by simp)).cell 3
      simp at m0 m1 m2 m3
      go_simp
      with_reducible rfl
    refine And.intro ?_ ?_
    · refine Reg.ob_known (fun _ => rfl) rfl rfl (fun x w1 hF hU K hK => ?_)
      have hF := hF rfl
      go_simp
      refine (HSO.out w1 hF).mono ?_
      rintro e w5 ⟨rfl, ho⟩
      exact hK _ (fun _ _ _ => hF.trans ho (fun _ _ e => e)) ho
    refine And.intro ?_ ?_
    · refine Reg.ob_pure (fun _ => rfl) rfl rfl rfl rfl (fun x w1 hF => ?_)
      go_simp
    refine And.intro ?_ ?_
    · refine Reg.ob_pure (fun _ => rfl) rfl rfl rfl rfl (fun x w1 hF => ?_)
      go_simp
    refine And.intro ?_ ?_
    · refine Reg.ob_pure (fun _ => rfl) rfl rfl rfl rfl (fun x w1 hF => ?_)
      go_simp
      with_reducible rfl
    refine And.intro ?_ ?_
    · refine Reg.ob_pure (fun _ => rfl) rfl rfl rfl rfl (fun x w1 hF => ?_)
      have m0 := (hP.only hF (by simp)).cell 0
      have m1 := (hP.only hF (by simp)).cell 1
      have m2 := (hP.only hF (by simp)).cell 2
      have m3 := (hP.only hF (by simp)).cell 3
      simp at m0 m1 m2 m3
      go_simp
      with_reducible rfl
    refine And.intro ?_ ?_
    · refine Reg.ob_some (fun _ => rfl) rfl (fun x w1 hF hU K hK => ?_)
      have hF := hF rfl
      go_simp
      exact hK _ _ (fun _ _ _ => hF.alloc _) ((Only.refl _ _).alloc _) ⟨_, rfl, Is.made _ _ _⟩
    refine And.intro ?_ ?_
    · refine Reg.ob_pure (fun _ => rfl) rfl rfl rfl rfl (fun x w1 hF => ?_)
      have m0 := (hR.only hF (by simp)).cell 0
      have m1 := (hR.only hF (by simp)).cell 1
      have m2 := (hR.only hF (by simp)).cell 2
      have m3 := (hR.only hF (by simp)).cell 3
      simp at m0 m1 m2 m3
      go_simp
      with_reducible rfl
    refine And.intro ?_ ?_
    · refine Reg.ob_some (fun _ => rfl) rfl (fun x w1 hF hU K hK => ?_)
      have hF := hF rfl
      go_simp
      exact hK _ _ (fun _ _ _ => hF.alloc _) ((Only.refl _ _).alloc _) ⟨_, rfl, Is.made _ _ _⟩
    refine And.intro ?_ ?_
    · refine Reg.ob_known (fun _ => rfl) rfl rfl (fun x w1 hF hU K hK => ?_)
      have hF := hF rfl
      obtain ⟨⟨g, hx, hI⟩, ⟨g2, hy, hJ⟩, -⟩ := hU
      have hx : x 8 = .slice (some ⟨g, 0, none⟩) 1 1 := hx
      have hy : x 10 = .slice (some ⟨g2, 0, none⟩) 1 1 := hy
      revert hK
      simp only [Nat.reduceAdd, hx, hy]
      intro hK
      go_simp
      refine (HDS.out w1 hF g g2 hI hJ).mono ?_
      rintro e w5 ⟨rfl, ho⟩
      exact hK _ (fun _ _ _ => hF.trans ho (fun _ _ e => e)) ho
    refine And.intro ?_ ?_
    · refine Reg.ob_pure (fun _ => rfl) rfl rfl rfl rfl (fun x w1 hF => ?_)
      go_simp
      with_reducible rfl
    refine And.intro ?_ ?_
    · refine Reg.ob_pure (fun _ => rfl) rfl rfl rfl rfl (fun x w1 hF => ?_)
      go_simp
      with_reducible rfl
    refine And.intro ?_ ?_
    · refine Reg.ob_known (fun _ => rfl) rfl rfl (fun x w1 hF hU K hK => ?_)
      have hF := hF rfl
      go_simp
      refine (HWK.out w1 hF).mono ?_
      rintro e w5 ⟨rfl, ho⟩
      exact hK _ (fun _ _ _ => hF.trans ho (fun _ _ e => e)) ho
    refine And.intro ?_ ?_
    · refine Reg.ob_pure (fun _ => rfl) rfl rfl rfl rfl (fun x w1 hF => ?_)
      go_simp
      with_reducible rfl
    refine And.intro ?_ ?_
    · refine Reg.ob_pure (fun _ => rfl) rfl rfl rfl rfl (fun x w1 hF => ?_)
      go_simp
      with_reducible rfl
    exact trivial
  case hF =>
    exact (Only.refl _ w0).drewN 1
  case hini =>
    exact trivial
  case pres =>
    intro i hi j hj hc x wx wy hF hE hW
    simp only [List.mem_cons, List.mem_nil_iff, or_false] at hj
    rcases hj with rfl | rfl
    · obtain ⟨g, h1, h2⟩ := hW
      exact ⟨g, h1, Is.only h2 hE (by simp)⟩
    · obtain ⟨g, h1, h2⟩ := hW
      exact ⟨g, h1, Is.only h2 hE (by simp)⟩
  case fin =>
    rintro x w9 hF hU
    repeat apply Exists.intro
    exact ⟨rfl, rfl, hF rfl⟩

set_option maxRecDepth 100000 in
set_option maxHeartbeats 4000000 in
theorem fr12 (kd ct pad : Nat) (v1 v2 : Value) (bs : List Nat) (pb rb : Nat) (hl : bs.length ≤ 1200) (u0 u2 u4 u5 u6 u7 u8 u9 u10 u11 u12 u13 u14 u15 u16 u17 u18 u19 u20 u21 u22 u23 u24 u25 u26 u27 u28 u29 u30 u31 u32 u33 u34 u35 u36 u37 u38 u39 u40 u41 u42 u43 u44 u45 u46 u47 u48 u49 u50 u51 u52 u53 u54 u55 u56 u57 : Value) (Q : Exit → Act → World → Prop) (w0 : World) (hP : Is w0 pb 41 #[.int .u8 (ct : Nat), .int .u8 (kd : Nat), v1, .int .u8 (pad : Nat)]) (hR : Is w0 rb 37 #[.int .u8 (ct : Nat), .int .u8 (kd : Nat), v2, .int .u8 (pad : Nat)]) (hs1 : Src w0 v1 bs) (hs2 : Src w0 v2 bs)
    (hend : ∀ (y42 y43 y44 y45 y46 y47 y48 y49 y50 y51 y52 y53 y54 y55 y56 y57 : Value) (w' : World), Only (fun _ => False) w0 w' → Q .normal ⟨(List.toArray (u0 :: .pointer (some ⟨pb, 0, none⟩) :: .bool true :: .pointer (some ⟨rb, 0, none⟩) :: u4 :: u5 :: u6 :: u7 :: u8 :: u9 :: u10 :: u11 :: u12 :: u13 :: u14 :: u15 :: u16 :: u17 :: u18 :: u19 :: u20 :: u21 :: u22 :: u23 :: u24 :: u25 :: u26 :: u27 :: u28 :: u29 :: u30 :: u31 :: u32 :: u33 :: u34 :: u35 :: u36 :: u37 :: u38 :: u39 :: u40 :: u41 :: y42 :: y43 :: y44 :: y45 :: y46 :: y47 :: y48 :: y49 :: y50 :: y51 :: y52 :: y53 :: y54 :: y55 :: y56 :: y57 :: [])), []⟩ w') :
    Code.wp Try.prog fr12_code Q ⟨(List.toArray (u0 :: .pointer (some ⟨pb, 0, none⟩) :: u2 :: .pointer (some ⟨rb, 0, none⟩) :: u4 :: u5 :: u6 :: u7 :: u8 :: u9 :: u10 :: u11 :: u12 :: u13 :: u14 :: u15 :: u16 :: u17 :: u18 :: u19 :: u20 :: u21 :: u22 :: u23 :: u24 :: u25 :: u26 :: u27 :: u28 :: u29 :: u30 :: u31 :: u32 :: u33 :: u34 :: u35 :: u36 :: u37 :: u38 :: u39 :: u40 :: u41 :: u42 :: u43 :: u44 :: u45 :: u46 :: u47 :: u48 :: u49 :: u50 :: u51 :: u52 :: u53 :: u54 :: u55 :: u56 :: u57 :: [])), []⟩ w0 := by
  refine wp_mono (fr12_in kd ct pad v1 v2 bs pb rb hl _ _ _ _ _ _ _ _ _ _ _ _ _ _ _ _ _ _ _ _ _ _ _ _ _ _ _ _ _ _ _ _ _ _ _ _ _ _ _ _ _ _ _ _ _ _ _ _ _ _ _ _ _ _ _ _ w0 hP hR hs1 hs2) ?_
  rintro e a w' h
  obtain ⟨y42, h⟩ := h
  obtain ⟨y43, h⟩ := h
  obtain ⟨y44, h⟩ := h
  obtain ⟨y45, h⟩ := h
  obtain ⟨y46, h⟩ := h
  obtain ⟨y47, h⟩ := h
  obtain ⟨y48, h⟩ := h
  obtain ⟨y49, h⟩ := h
  obtain ⟨y50, h⟩ := h
  obtain ⟨y51, h⟩ := h
  obtain ⟨y52, h⟩ := h
  obtain ⟨y53, h⟩ := h
  obtain ⟨y54, h⟩ := h
  obtain ⟨y55, h⟩ := h
  obtain ⟨y56, h⟩ := h
  obtain ⟨y57, h⟩ := h
  obtain ⟨h, rfl, hq⟩ := h
  subst h
  exact hend y42 y43 y44 y45 y46 y47 y48 y49 y50 y51 y52 y53 y54 y55 y56 y57 w' hq
end Go.Proofs.Ytefcimkopgcagaa
