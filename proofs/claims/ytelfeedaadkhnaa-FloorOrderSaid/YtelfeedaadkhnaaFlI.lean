/- floor: the regions of Request, Tick, Holder and Leave that draw their order. Conditions: as each says. -/
import Derived.Test.YtelfeedaadkhnaaFlH
set_option linter.unusedVariables false
set_option linter.unusedSimpArgs false
namespace Go.Proofs.Ytelfeedaadkhnaa
open Go Go.RowKit

/-- A floor lies there; nothing that was there is written. -/
structure Fw (B b mb : Nat) (m : Fl) (vw vg : Value) (w0 wx : World) : Prop where
  fl : Flr wx B b mb m vw vg
  pure : Only (fun _ => False) w0 wx
theorem Fw.go {B b mb : Nat} {m : Fl} {vw vg : Value} {w0 wx wy : World} (h : Fw B b mb m vw vg w0 wx) (ho : Only (fun _ => False) wx wy) : Fw B b mb m vw vg w0 wy := ⟨h.fl.pure ho, h.pure.trans ho (fun _ _ e => e)⟩
theorem Flr.rangeG {w : World} {B b mb : Nat} {m : Fl} {vw vg : Value} (h : Flr w B b mb m vw vg) : w.rangeAt b 3 [.int .u64 (m.no : Int), .int .u32 (m.who : Int), .int .u64 (m.at_ : Int)] := World.rangeAt_of_block h.is 3 3
theorem msilent_is (m : Fl) (now : Nat) (w : World) (h1 : m.heard < 18446744073709551616) (h2 : now < 18446744073709551616) : Calls Try.prog 44 #[hV m.no m.who m.at_ m.heard m.pend, .int .u64 (now : Int), .int .u64 (m.silence : Int)] w (SaysF (.bool (m.silent now)) w) := silent_is m.no m.who m.at_ m.heard now m.silence m.pend w h1 h2
/-- Holder's answer is written. -/
structure Fh (B b mb rb : Nat) (m : Fl) (vw vg : Value) (w0 wx : World) : Prop where
  fw : Fw B b mb m vw vg w0 wx
  rz : Is wx rb 48 zeroGr
theorem Fh.go {B b mb rb : Nat} {m : Fl} {vw vg : Value} {w0 wx wy : World} (h : Fh B b mb rb m vw vg w0 wx) (ho : Only (fun _ => False) wx wy) : Fh B b mb rb m vw vg w0 wy := ⟨h.fw.go ho, h.rz.only ho (by simp)⟩
def frq5t_A : List (List Nat) := ([] :: [0] :: [1, 0] :: [2, 1, 0] :: [] :: [3, 4, 2, 1, 0] :: [5, 3, 4, 2, 1, 0] :: [6, 5, 3, 4, 2, 1, 0] :: (7 :: 6 :: 5 :: 3 :: 4 :: 2 :: 1 :: 0 :: []) :: (8 :: 6 :: 7 :: 5 :: 3 :: 4 :: 2 :: 1 :: 0 :: []) :: (9 :: 6 :: 8 :: 7 :: 5 :: 3 :: 4 :: 2 :: 1 :: 0 :: []) :: [6, 5, 3, 4, 2, 1, 0] :: (11 :: 6 :: 5 :: 3 :: 4 :: 2 :: 1 :: 0 :: []) :: (10 :: 12 :: 6 :: 9 :: 8 :: 7 :: 5 :: 3 :: 4 :: 2 :: 1 :: 0 :: 11 :: []) :: (6 :: 13 :: 5 :: 3 :: 4 :: 2 :: 1 :: 0 :: 10 :: 12 :: 9 :: 8 :: 7 :: 11 :: []) :: (14 :: 13 :: 6 :: 5 :: 3 :: 4 :: 2 :: 1 :: 0 :: 10 :: 12 :: 9 :: 8 :: 7 :: 11 :: []) :: [])
def frq5t_kill : List (List Nat) := ([] :: [] :: [] :: [] :: [] :: [] :: [] :: [] :: [] :: [] :: [] :: [] :: [] :: [] :: [] :: [] :: [])
def frq5t_uses : List (List Nat) := ([] :: [] :: [] :: [] :: [] :: [] :: [] :: [] :: [] :: [] :: [] :: [] :: [] :: [] :: [] :: [] :: [])
noncomputable def frq5t_code : Code := ((Try.f25.body.bind (codeRegion 5)).getD .skip)
set_option maxRecDepth 100000 in
set_option maxHeartbeats 4000000 in
theorem frq5t_in (B b mb n : Nat) (m : Fl) (vw vg : Value) (w0 : World) (hs : ∀ w1, Calls Try.prog 43 #[(hV m.no m.who m.at_ m.heard m.pend), .int .u32 (n : Int)] w1 (SaysF (.bool true) w1))  (u2 u3 u4 u5 u6 u7 u8 u9 u10 u11 u12 u13 u14 u15 u16 u17 u18 u19 u20 u21 u22 u23 u24 u25 u26 u27 u28 u29 u30 u31 u32 u33 u34 u35 u36 u37 u38 u39 u40 u41 u42 u43 u44 u45 u46 u47 u48 u49 u50 u51 u52 u53 u54 u55 u56 u57 u58 u59 u60 u61 u62 u63 : Value) (w : World) (hG : Fw B b mb m vw vg w0 w) :
    Code.wp Try.prog frq5t_code (fun e a w' => ∃ y17 y18 y19 y20 y21 y22 y23 y24 y25 y26 y27 y28 y29 y30 y31 : Value, a = ⟨(List.toArray (.pointer (some ⟨b, 0, none⟩) :: .int .u32 (n : Int) :: u2 :: u3 :: u4 :: u5 :: u6 :: u7 :: u8 :: u9 :: u10 :: u11 :: u12 :: u13 :: u14 :: u15 :: (.bool true) :: y17 :: y18 :: y19 :: y20 :: y21 :: y22 :: y23 :: y24 :: y25 :: y26 :: y27 :: y28 :: y29 :: y30 :: y31 :: u32 :: u33 :: u34 :: u35 :: u36 :: u37 :: u38 :: u39 :: u40 :: u41 :: u42 :: u43 :: u44 :: u45 :: u46 :: u47 :: u48 :: u49 :: u50 :: u51 :: u52 :: u53 :: u54 :: u55 :: u56 :: u57 :: u58 :: u59 :: u60 :: u61 :: u62 :: u63 :: [])), []⟩ ∧ e = .normal ∧ (Fw B b mb m vw vg w0 w')) ⟨(List.toArray (.pointer (some ⟨b, 0, none⟩) :: .int .u32 (n : Int) :: u2 :: u3 :: u4 :: u5 :: u6 :: u7 :: u8 :: u9 :: u10 :: u11 :: u12 :: u13 :: u14 :: u15 :: u16 :: u17 :: u18 :: u19 :: u20 :: u21 :: u22 :: u23 :: u24 :: u25 :: u26 :: u27 :: u28 :: u29 :: u30 :: u31 :: u32 :: u33 :: u34 :: u35 :: u36 :: u37 :: u38 :: u39 :: u40 :: u41 :: u42 :: u43 :: u44 :: u45 :: u46 :: u47 :: u48 :: u49 :: u50 :: u51 :: u52 :: u53 :: u54 :: u55 :: u56 :: u57 :: u58 :: u59 :: u60 :: u61 :: u62 :: u63 :: [])), []⟩ w := by
  conv => arg 2; whnf
  have HS := Lib.hid hs
  clear hs
  refine wp_region_posts frq5t_A [5] [] frq5t_kill frq5t_uses [] [] [] []
      (some ?v0 :: some ?v1 :: some ?v2 :: some ((hV m.no m.who m.at_ m.heard m.pend)) :: some ?v4 :: some ((.bool true)) :: some ?v6 :: some undef :: some undef :: some undef :: some undef :: some undef :: some undef :: some undef :: some ?v14 :: some ?v15 :: [])
      ?T (fun wx => Fw B b mb m vw vg w0 wx) ?W ?E (by kernel_rfl) (by kernel_rfl) (by kernel_rfl) (fun x => ?hT) ?hF ?hini (Reg.all_ops ?runs) ?pres ?fin
  case W => exact fun j x w' => match j with | 12 => ∃ q, x 12 = isF q ∧ Is w' q 30 #[.int .u32 (n : Int)] | _ => True
  case E => exact fun i wx wy => Only (fun _ => False) wx wy
  case hT =>
    simp only [Reg.fillV, Act.put, List.setIfInBounds_toArray, List.set_cons_zero, List.set_cons_succ]
    rfl
  case runs =>
    refine And.intro ?_ ?_
    · refine Reg.ob_pure (fun _ => rfl) rfl rfl rfl rfl (fun x w1 hF => ?_)
      have _h := hF
      go_simp
      with_reducible rfl
    refine And.intro ?_ ?_
    · refine Reg.ob_pure (fun _ => rfl) rfl rfl rfl rfl (fun x w1 hF => ?_)
      have _h := hF
      go_simp
      with_reducible rfl
    refine And.intro ?_ ?_
    · refine Reg.ob_pure (fun _ => rfl) rfl rfl rfl rfl (fun x w1 hF => ?_)
      have _h := hF
      go_simp
      with_reducible rfl
    refine And.intro ?_ ?_
    · refine Reg.ob_known (fun _ => rfl) rfl rfl (fun x w1 hF hU K hK => ?_)
      refine wp_load_mid 64 _ rfl b 3 rfl _ _ (hF rfl).fl.rangeH Try.underlying64 rfl Try.sizeHl ?_
      exact hK w1 (fun h _ _ => absurd h (by decide)) rfl
    refine And.intro ?_ ?_
    · refine Reg.ob_pure (fun _ => rfl) rfl rfl rfl rfl (fun x w1 hF => ?_)
      have _h := hF
      go_simp
      with_reducible rfl
    refine And.intro ?_ ?_
    · refine Reg.ob_known (fun _ => rfl) rfl rfl (fun x w1 hF hU K hK => ?_)
      replace hF := hF rfl
      go_simp
      refine (HS.out w1).mono ?_
      rintro e w5 ⟨rfl, ho⟩
      exact hK w5 (fun _ _ _ => hF.go ho) ho
    refine And.intro ?_ ?_
    · refine Reg.ob_pure (fun _ => rfl) rfl rfl rfl rfl (fun x w1 hF => ?_)
      have _h := hF
      go_simp
      with_reducible rfl
    refine And.intro ?_ ?_
    · exact Reg.ob_skip (fun _ => rfl) rfl rfl rfl
    refine And.intro ?_ ?_
    · exact Reg.ob_skip (fun _ => rfl) rfl rfl rfl
    refine And.intro ?_ ?_
    · exact Reg.ob_skip (fun _ => rfl) rfl rfl rfl
    refine And.intro ?_ ?_
    · exact Reg.ob_skip (fun _ => rfl) rfl rfl rfl
    refine And.intro ?_ ?_
    · exact Reg.ob_skip (fun _ => rfl) rfl rfl rfl
    refine And.intro ?_ ?_
    · exact Reg.ob_skip (fun _ => rfl) rfl rfl rfl
    refine And.intro ?_ ?_
    · exact Reg.ob_skip (fun _ => rfl) rfl rfl rfl
    refine And.intro ?_ ?_
    · refine Reg.ob_pure (fun _ => rfl) rfl rfl rfl rfl (fun x w1 hF => ?_)
      have _h := hF
      go_simp
      with_reducible rfl
    refine And.intro ?_ ?_
    · refine Reg.ob_pure (fun _ => rfl) rfl rfl rfl rfl (fun x w1 hF => ?_)
      have _h := hF
      go_simp
      with_reducible rfl
    exact trivial
  case hF =>
    exact hG.go ((Only.refl _ _).drewN 1)
  case hini =>
    exact trivial
  case pres =>
    intro i hi j hj
    simp at hj
  case fin =>
    rintro x w9 hF hU
    repeat apply Exists.intro
    exact ⟨rfl, rfl, hF rfl⟩

set_option maxRecDepth 100000 in
set_option maxHeartbeats 4000000 in
theorem frq5t (B b mb n : Nat) (m : Fl) (vw vg : Value) (w0 : World) (hs : ∀ w1, Calls Try.prog 43 #[(hV m.no m.who m.at_ m.heard m.pend), .int .u32 (n : Int)] w1 (SaysF (.bool true) w1))  (u2 u3 u4 u5 u6 u7 u8 u9 u10 u11 u12 u13 u14 u15 u16 u17 u18 u19 u20 u21 u22 u23 u24 u25 u26 u27 u28 u29 u30 u31 u32 u33 u34 u35 u36 u37 u38 u39 u40 u41 u42 u43 u44 u45 u46 u47 u48 u49 u50 u51 u52 u53 u54 u55 u56 u57 u58 u59 u60 u61 u62 u63 : Value) (Q : Exit → Act → World → Prop) (w : World) (hG : Fw B b mb m vw vg w0 w)
    (hend : ∀ (y17 y18 y19 y20 y21 y22 y23 y24 y25 y26 y27 y28 y29 y30 y31 : Value) (w' : World), (Fw B b mb m vw vg w0 w') → Q .normal ⟨(List.toArray (.pointer (some ⟨b, 0, none⟩) :: .int .u32 (n : Int) :: u2 :: u3 :: u4 :: u5 :: u6 :: u7 :: u8 :: u9 :: u10 :: u11 :: u12 :: u13 :: u14 :: u15 :: (.bool true) :: y17 :: y18 :: y19 :: y20 :: y21 :: y22 :: y23 :: y24 :: y25 :: y26 :: y27 :: y28 :: y29 :: y30 :: y31 :: u32 :: u33 :: u34 :: u35 :: u36 :: u37 :: u38 :: u39 :: u40 :: u41 :: u42 :: u43 :: u44 :: u45 :: u46 :: u47 :: u48 :: u49 :: u50 :: u51 :: u52 :: u53 :: u54 :: u55 :: u56 :: u57 :: u58 :: u59 :: u60 :: u61 :: u62 :: u63 :: [])), []⟩ w') :
    Code.wp Try.prog frq5t_code Q ⟨(List.toArray (.pointer (some ⟨b, 0, none⟩) :: .int .u32 (n : Int) :: u2 :: u3 :: u4 :: u5 :: u6 :: u7 :: u8 :: u9 :: u10 :: u11 :: u12 :: u13 :: u14 :: u15 :: u16 :: u17 :: u18 :: u19 :: u20 :: u21 :: u22 :: u23 :: u24 :: u25 :: u26 :: u27 :: u28 :: u29 :: u30 :: u31 :: u32 :: u33 :: u34 :: u35 :: u36 :: u37 :: u38 :: u39 :: u40 :: u41 :: u42 :: u43 :: u44 :: u45 :: u46 :: u47 :: u48 :: u49 :: u50 :: u51 :: u52 :: u53 :: u54 :: u55 :: u56 :: u57 :: u58 :: u59 :: u60 :: u61 :: u62 :: u63 :: [])), []⟩ w := by
  refine wp_mono (frq5t_in B b mb n m vw vg w0 hs _ _ _ _ _ _ _ _ _ _ _ _ _ _ _ _ _ _ _ _ _ _ _ _ _ _ _ _ _ _ _ _ _ _ _ _ _ _ _ _ _ _ _ _ _ _ _ _ _ _ _ _ _ _ _ _ _ _ _ _ _ _ w hG) ?_
  rintro e a w' h
  obtain ⟨y17, h⟩ := h
  obtain ⟨y18, h⟩ := h
  obtain ⟨y19, h⟩ := h
  obtain ⟨y20, h⟩ := h
  obtain ⟨y21, h⟩ := h
  obtain ⟨y22, h⟩ := h
  obtain ⟨y23, h⟩ := h
  obtain ⟨y24, h⟩ := h
  obtain ⟨y25, h⟩ := h
  obtain ⟨y26, h⟩ := h
  obtain ⟨y27, h⟩ := h
  obtain ⟨y28, h⟩ := h
  obtain ⟨y29, h⟩ := h
  obtain ⟨y30, h⟩ := h
  obtain ⟨y31, h⟩ := h
  obtain ⟨h, rfl, hq⟩ := h
  subst h
  exact hend y17 y18 y19 y20 y21 y22 y23 y24 y25 y26 y27 y28 y29 y30 y31 w' hq
def frq5f_A : List (List Nat) := ([] :: [0] :: [1, 0] :: [2, 1, 0] :: [] :: [3, 4, 2, 1, 0] :: [5, 3, 4, 2, 1, 0] :: [6, 5, 3, 4, 2, 1, 0] :: (7 :: 6 :: 5 :: 3 :: 4 :: 2 :: 1 :: 0 :: []) :: (8 :: 6 :: 7 :: 5 :: 3 :: 4 :: 2 :: 1 :: 0 :: []) :: (9 :: 6 :: 8 :: 7 :: 5 :: 3 :: 4 :: 2 :: 1 :: 0 :: []) :: [6, 5, 3, 4, 2, 1, 0] :: (11 :: 6 :: 5 :: 3 :: 4 :: 2 :: 1 :: 0 :: []) :: (10 :: 12 :: 6 :: 9 :: 8 :: 7 :: 5 :: 3 :: 4 :: 2 :: 1 :: 0 :: 11 :: []) :: (6 :: 13 :: 5 :: 3 :: 4 :: 2 :: 1 :: 0 :: 10 :: 12 :: 9 :: 8 :: 7 :: 11 :: []) :: (14 :: 13 :: 6 :: 5 :: 3 :: 4 :: 2 :: 1 :: 0 :: 10 :: 12 :: 9 :: 8 :: 7 :: 11 :: []) :: [])
def frq5f_kill : List (List Nat) := ([] :: [] :: [] :: [] :: [] :: [] :: [] :: [] :: [] :: [] :: [] :: [] :: [] :: [] :: [] :: [] :: [])
def frq5f_uses : List (List Nat) := ([] :: [] :: [] :: [] :: [] :: [] :: [] :: [] :: [] :: [] :: [] :: [] :: [] :: [12] :: [] :: [] :: [])
noncomputable def frq5f_code : Code := ((Try.f25.body.bind (codeRegion 5)).getD .skip)
set_option maxRecDepth 100000 in
set_option maxHeartbeats 4000000 in
theorem frq5f_in (B b mb n : Nat) (m : Fl) (vw vg : Value) (w0 : World) (hs : ∀ w1, Calls Try.prog 43 #[(hV m.no m.who m.at_ m.heard m.pend), .int .u32 (n : Int)] w1 (SaysF (.bool false) w1)) (hl : m.wt.length ≤ 1000000)  (u2 u3 u4 u5 u6 u7 u8 u9 u10 u11 u12 u13 u14 u15 u16 u17 u18 u19 u20 u21 u22 u23 u24 u25 u26 u27 u28 u29 u30 u31 u32 u33 u34 u35 u36 u37 u38 u39 u40 u41 u42 u43 u44 u45 u46 u47 u48 u49 u50 u51 u52 u53 u54 u55 u56 u57 u58 u59 u60 u61 u62 u63 : Value) (w : World) (hG : Fw B b mb m vw vg w0 w) :
    Code.wp Try.prog frq5f_code (fun e a w' => ∃ y17 y18 y19 y20 y21 y22 y23 y24 y25 y26 y27 y28 y29 y30 y31 : Value, a = ⟨(List.toArray (.pointer (some ⟨b, 0, none⟩) :: .int .u32 (n : Int) :: u2 :: u3 :: u4 :: u5 :: u6 :: u7 :: u8 :: u9 :: u10 :: u11 :: u12 :: u13 :: u14 :: u15 :: (.bool (m.wt.any fun x => x == n)) :: y17 :: y18 :: y19 :: y20 :: y21 :: y22 :: y23 :: y24 :: y25 :: y26 :: y27 :: y28 :: y29 :: y30 :: y31 :: u32 :: u33 :: u34 :: u35 :: u36 :: u37 :: u38 :: u39 :: u40 :: u41 :: u42 :: u43 :: u44 :: u45 :: u46 :: u47 :: u48 :: u49 :: u50 :: u51 :: u52 :: u53 :: u54 :: u55 :: u56 :: u57 :: u58 :: u59 :: u60 :: u61 :: u62 :: u63 :: [])), []⟩ ∧ e = .normal ∧ (Fw B b mb m vw vg w0 w')) ⟨(List.toArray (.pointer (some ⟨b, 0, none⟩) :: .int .u32 (n : Int) :: u2 :: u3 :: u4 :: u5 :: u6 :: u7 :: u8 :: u9 :: u10 :: u11 :: u12 :: u13 :: u14 :: u15 :: u16 :: u17 :: u18 :: u19 :: u20 :: u21 :: u22 :: u23 :: u24 :: u25 :: u26 :: u27 :: u28 :: u29 :: u30 :: u31 :: u32 :: u33 :: u34 :: u35 :: u36 :: u37 :: u38 :: u39 :: u40 :: u41 :: u42 :: u43 :: u44 :: u45 :: u46 :: u47 :: u48 :: u49 :: u50 :: u51 :: u52 :: u53 :: u54 :: u55 :: u56 :: u57 :: u58 :: u59 :: u60 :: u61 :: u62 :: u63 :: [])), []⟩ w := by
  conv => arg 2; whnf
  have HS := Lib.hid hs
  clear hs
  refine wp_region_posts frq5f_A [5, 12] [12] frq5f_kill frq5f_uses [] [] [] []
      (some ?v0 :: some ?v1 :: some ?v2 :: some ((hV m.no m.who m.at_ m.heard m.pend)) :: some ?v4 :: some ((.bool false)) :: some ?v6 :: some ?v7 :: some ?v8 :: some ?v9 :: some ?v10 :: some ?v11 :: none :: some ((.bool (m.wt.any fun x => x == n))) :: some ?v14 :: some ?v15 :: [])
      ?T (fun wx => Fw B b mb m vw vg w0 wx) ?W ?E (by kernel_rfl) (by kernel_rfl) (by kernel_rfl) (fun x => ?hT) ?hF ?hini (Reg.all_ops ?runs) ?pres ?fin
  case W => exact fun j x w' => match j with | 12 => ∃ q, x 12 = isF q ∧ Is w' q 30 #[.int .u32 (n : Int)] | _ => True
  case E => exact fun i wx wy => Only (fun _ => False) wx wy
  case hT =>
    simp only [Reg.fillV, Act.put, List.setIfInBounds_toArray, List.set_cons_zero, List.set_cons_succ]
    rfl
  case runs =>
    refine And.intro ?_ ?_
    · refine Reg.ob_pure (fun _ => rfl) rfl rfl rfl rfl (fun x w1 hF => ?_)
      have c8 : w1.cell? ⟨b, 8, none⟩ = some vw := hF.fl.cell 8
      go_simp
      with_reducible rfl
    refine And.intro ?_ ?_
    · refine Reg.ob_pure (fun _ => rfl) rfl rfl rfl rfl (fun x w1 hF => ?_)
      have c8 : w1.cell? ⟨b, 8, none⟩ = some vw := hF.fl.cell 8
      go_simp
      with_reducible rfl
    refine And.intro ?_ ?_
    · refine Reg.ob_pure (fun _ => rfl) rfl rfl rfl rfl (fun x w1 hF => ?_)
      have c8 : w1.cell? ⟨b, 8, none⟩ = some vw := hF.fl.cell 8
      go_simp
      with_reducible rfl
    refine And.intro ?_ ?_
    · refine Reg.ob_known (fun _ => rfl) rfl rfl (fun x w1 hF hU K hK => ?_)
      refine wp_load_mid 64 _ rfl b 3 rfl _ _ (hF rfl).fl.rangeH Try.underlying64 rfl Try.sizeHl ?_
      exact hK w1 (fun h _ _ => absurd h (by decide)) rfl
    refine And.intro ?_ ?_
    · refine Reg.ob_pure (fun _ => rfl) rfl rfl rfl rfl (fun x w1 hF => ?_)
      have c8 : w1.cell? ⟨b, 8, none⟩ = some vw := hF.fl.cell 8
      go_simp
      with_reducible rfl
    refine And.intro ?_ ?_
    · refine Reg.ob_known (fun _ => rfl) rfl rfl (fun x w1 hF hU K hK => ?_)
      replace hF := hF rfl
      go_simp
      refine (HS.out w1).mono ?_
      rintro e w5 ⟨rfl, ho⟩
      exact hK w5 (fun _ _ _ => hF.go ho) ho
    refine And.intro ?_ ?_
    · refine Reg.ob_pure (fun _ => rfl) rfl rfl rfl rfl (fun x w1 hF => ?_)
      have c8 : w1.cell? ⟨b, 8, none⟩ = some vw := hF.fl.cell 8
      go_simp
      with_reducible rfl
    refine And.intro ?_ ?_
    · refine Reg.ob_pure (fun _ => rfl) rfl rfl rfl rfl (fun x w1 hF => ?_)
      have c8 : w1.cell? ⟨b, 8, none⟩ = some vw := hF.fl.cell 8
      go_simp
      with_reducible rfl
    refine And.intro ?_ ?_
    · refine Reg.ob_pure (fun _ => rfl) rfl rfl rfl rfl (fun x w1 hF => ?_)
      have c8 : w1.cell? ⟨b, 8, none⟩ = some vw := hF.fl.cell 8
      go_simp
      with_reducible rfl
    refine And.intro ?_ ?_
    · refine Reg.ob_pure (fun _ => rfl) rfl rfl rfl rfl (fun x w1 hF => ?_)
      have c8 : w1.cell? ⟨b, 8, none⟩ = some vw := hF.fl.cell 8
      go_simp
      with_reducible rfl
    refine And.intro ?_ ?_
    · refine Reg.ob_pure (fun _ => rfl) rfl rfl rfl rfl (fun x w1 hF => ?_)
      have c8 : w1.cell? ⟨b, 8, none⟩ = some vw := hF.fl.cell 8
      go_simp
      with_reducible rfl
    refine And.intro ?_ ?_
    · refine Reg.ob_pure (fun _ => rfl) rfl rfl rfl rfl (fun x w1 hF => ?_)
      have c8 : w1.cell? ⟨b, 8, none⟩ = some vw := hF.fl.cell 8
      go_simp
      with_reducible rfl
    refine And.intro ?_ ?_
    · refine Reg.ob_some (fun _ => rfl) rfl (fun x w1 hF hU K hK => ?_)
      replace hF := hF rfl
      go_simp
      refine (fis_is n w1).mono ?_
      rintro e w5 ⟨rfl, rfl⟩
      exact hK _ _ (fun _ _ _ => hF.go ((Only.refl _ _).alloc _)) ((Only.refl _ _).alloc _) ⟨_, rfl, Is.made _ _ _⟩
    refine And.intro ?_ ?_
    · refine Reg.ob_known (fun _ => rfl) rfl rfl (fun x w1 hF hU K hK => ?_)
      replace hF := hF rfl
      obtain ⟨⟨q, hx, hI⟩, -⟩ := hU
      have hx : x 12 = isF q := hx
      revert hK
      simp only [Nat.reduceAdd, hx]
      intro hK
      go_simp
      refine (contains_is n q vw m.wt w1 (own32 hF.fl.wr) hl (hI.cell 0)).mono ?_
      rintro e w5 ⟨rfl, rfl⟩
      exact hK _ (fun _ _ _ => hF) rfl
    refine And.intro ?_ ?_
    · refine Reg.ob_pure (fun _ => rfl) rfl rfl rfl rfl (fun x w1 hF => ?_)
      have c8 : w1.cell? ⟨b, 8, none⟩ = some vw := hF.fl.cell 8
      go_simp
      with_reducible rfl
    refine And.intro ?_ ?_
    · refine Reg.ob_pure (fun _ => rfl) rfl rfl rfl rfl (fun x w1 hF => ?_)
      have c8 : w1.cell? ⟨b, 8, none⟩ = some vw := hF.fl.cell 8
      go_simp
      with_reducible rfl
    exact trivial
  case hF =>
    exact hG.go ((Only.refl _ _).drewN 1)
  case hini =>
    exact trivial
  case pres =>
    intro i hi j hj hc x wx wy hF hE hW
    simp only [List.mem_cons, List.mem_nil_iff, or_false] at hi hj
    rcases hi with rfl | rfl <;> rcases hj with rfl
    all_goals first
      | (exfalso; revert hc; decide)
      | (obtain ⟨q, h1, h3⟩ := hW; exact ⟨q, h1, h3.only hE (by simp)⟩)
  case fin =>
    rintro x w9 hF hU
    repeat apply Exists.intro
    exact ⟨rfl, rfl, hF rfl⟩

set_option maxRecDepth 100000 in
set_option maxHeartbeats 4000000 in
theorem frq5f (B b mb n : Nat) (m : Fl) (vw vg : Value) (w0 : World) (hs : ∀ w1, Calls Try.prog 43 #[(hV m.no m.who m.at_ m.heard m.pend), .int .u32 (n : Int)] w1 (SaysF (.bool false) w1)) (hl : m.wt.length ≤ 1000000)  (u2 u3 u4 u5 u6 u7 u8 u9 u10 u11 u12 u13 u14 u15 u16 u17 u18 u19 u20 u21 u22 u23 u24 u25 u26 u27 u28 u29 u30 u31 u32 u33 u34 u35 u36 u37 u38 u39 u40 u41 u42 u43 u44 u45 u46 u47 u48 u49 u50 u51 u52 u53 u54 u55 u56 u57 u58 u59 u60 u61 u62 u63 : Value) (Q : Exit → Act → World → Prop) (w : World) (hG : Fw B b mb m vw vg w0 w)
    (hend : ∀ (y17 y18 y19 y20 y21 y22 y23 y24 y25 y26 y27 y28 y29 y30 y31 : Value) (w' : World), (Fw B b mb m vw vg w0 w') → Q .normal ⟨(List.toArray (.pointer (some ⟨b, 0, none⟩) :: .int .u32 (n : Int) :: u2 :: u3 :: u4 :: u5 :: u6 :: u7 :: u8 :: u9 :: u10 :: u11 :: u12 :: u13 :: u14 :: u15 :: (.bool (m.wt.any fun x => x == n)) :: y17 :: y18 :: y19 :: y20 :: y21 :: y22 :: y23 :: y24 :: y25 :: y26 :: y27 :: y28 :: y29 :: y30 :: y31 :: u32 :: u33 :: u34 :: u35 :: u36 :: u37 :: u38 :: u39 :: u40 :: u41 :: u42 :: u43 :: u44 :: u45 :: u46 :: u47 :: u48 :: u49 :: u50 :: u51 :: u52 :: u53 :: u54 :: u55 :: u56 :: u57 :: u58 :: u59 :: u60 :: u61 :: u62 :: u63 :: [])), []⟩ w') :
    Code.wp Try.prog frq5f_code Q ⟨(List.toArray (.pointer (some ⟨b, 0, none⟩) :: .int .u32 (n : Int) :: u2 :: u3 :: u4 :: u5 :: u6 :: u7 :: u8 :: u9 :: u10 :: u11 :: u12 :: u13 :: u14 :: u15 :: u16 :: u17 :: u18 :: u19 :: u20 :: u21 :: u22 :: u23 :: u24 :: u25 :: u26 :: u27 :: u28 :: u29 :: u30 :: u31 :: u32 :: u33 :: u34 :: u35 :: u36 :: u37 :: u38 :: u39 :: u40 :: u41 :: u42 :: u43 :: u44 :: u45 :: u46 :: u47 :: u48 :: u49 :: u50 :: u51 :: u52 :: u53 :: u54 :: u55 :: u56 :: u57 :: u58 :: u59 :: u60 :: u61 :: u62 :: u63 :: [])), []⟩ w := by
  refine wp_mono (frq5f_in B b mb n m vw vg w0 hs hl _ _ _ _ _ _ _ _ _ _ _ _ _ _ _ _ _ _ _ _ _ _ _ _ _ _ _ _ _ _ _ _ _ _ _ _ _ _ _ _ _ _ _ _ _ _ _ _ _ _ _ _ _ _ _ _ _ _ _ _ _ _ w hG) ?_
  rintro e a w' h
  obtain ⟨y17, h⟩ := h
  obtain ⟨y18, h⟩ := h
  obtain ⟨y19, h⟩ := h
  obtain ⟨y20, h⟩ := h
  obtain ⟨y21, h⟩ := h
  obtain ⟨y22, h⟩ := h
  obtain ⟨y23, h⟩ := h
  obtain ⟨y24, h⟩ := h
  obtain ⟨y25, h⟩ := h
  obtain ⟨y26, h⟩ := h
  obtain ⟨y27, h⟩ := h
  obtain ⟨y28, h⟩ := h
  obtain ⟨y29, h⟩ := h
  obtain ⟨y30, h⟩ := h
  obtain ⟨y31, h⟩ := h
  obtain ⟨h, rfl, hq⟩ := h
  subst h
  exact hend y17 y18 y19 y20 y21 y22 y23 y24 y25 y26 y27 y28 y29 y30 y31 w' hq
def ftk1_A : List (List Nat) := ([] :: [0] :: [1, 0] :: [2, 1, 0] :: [3, 2, 1, 0] :: [4, 3, 2, 1, 0] :: [5, 3, 4, 2, 1, 0] :: [6, 3, 5, 4, 2, 1, 0] :: [3, 2, 1, 0] :: [3, 2, 1, 0] :: [9, 3, 2, 1, 0] :: [10, 3, 9, 2, 1, 0] :: [11, 3, 10, 9, 2, 1, 0] :: (7 :: 8 :: 12 :: 3 :: 6 :: 5 :: 4 :: 2 :: 1 :: 0 :: 11 :: 10 :: 9 :: []) :: (13 :: 3 :: 7 :: 8 :: 12 :: 6 :: 5 :: 4 :: 2 :: 1 :: 0 :: 11 :: 10 :: 9 :: []) :: (3 :: 14 :: 2 :: 1 :: 0 :: 13 :: 7 :: 8 :: 12 :: 6 :: 5 :: 4 :: 11 :: 10 :: 9 :: []) :: [])
def ftk1_kill : List (List Nat) := ([] :: [] :: [] :: [] :: [] :: [] :: [] :: [] :: [] :: [] :: [] :: [] :: [] :: [] :: [] :: [] :: [])
def ftk1_uses : List (List Nat) := ([] :: [] :: [] :: [] :: [] :: [] :: [] :: [] :: [] :: [] :: [] :: [] :: [] :: [] :: [] :: [] :: [])
noncomputable def ftk1_code : Code := ((Try.f21.body.bind (codeRegion 1)).getD .skip)
set_option maxRecDepth 100000 in
set_option maxHeartbeats 4000000 in
theorem ftk1_in (B b mb n : Nat) (m : Fl) (vw vg : Value) (w0 : World) (s : Bool) (hs : ∀ w1, Calls Try.prog 44 #[(hV m.no m.who m.at_ m.heard m.pend), .int .u64 (n : Int), .int .u64 (m.silence : Int)] w1 (SaysF (.bool s) w1))  (u2 u3 u4 u5 u6 u7 u8 u9 u10 u11 u12 u13 u14 u15 u16 u17 u18 u19 u20 u21 u22 u23 : Value) (w : World) (hG : Fw B b mb m vw vg w0 w) :
    Code.wp Try.prog ftk1_code (fun e a w' => ∃ y5 y6 y7 y8 y9 y10 y11 y12 y13 y14 y15 y16 y17 y18 y19 : Value, a = ⟨(List.toArray (.pointer (some ⟨b, 0, none⟩) :: .int .u64 (n : Int) :: u2 :: u3 :: u4 :: y5 :: y6 :: y7 :: y8 :: y9 :: y10 :: y11 :: y12 :: y13 :: y14 :: y15 :: y16 :: y17 :: y18 :: y19 :: (.bool (!s)) :: u21 :: u22 :: u23 :: [])), []⟩ ∧ e = .normal ∧ (Fw B b mb m vw vg w0 w')) ⟨(List.toArray (.pointer (some ⟨b, 0, none⟩) :: .int .u64 (n : Int) :: u2 :: u3 :: u4 :: u5 :: u6 :: u7 :: u8 :: u9 :: u10 :: u11 :: u12 :: u13 :: u14 :: u15 :: u16 :: u17 :: u18 :: u19 :: u20 :: u21 :: u22 :: u23 :: [])), []⟩ w := by
  conv => arg 2; whnf
  have HS := Lib.hid hs
  clear hs
  refine wp_region_posts ftk1_A [13] [] ftk1_kill ftk1_uses [] [] [] []
      (some ?v0 :: some ((.bool true)) :: some ?v2 :: some ?v3 :: some ?v4 :: some ?v5 :: some ?v6 :: some ((hV m.no m.who m.at_ m.heard m.pend)) :: some ?v8 :: some ?v9 :: some ?v10 :: some ?v11 :: some ?v12 :: some ((.bool s)) :: some ?v14 :: some ?v15 :: [])
      ?T (fun wx => Fw B b mb m vw vg w0 wx) ?W ?E (by kernel_rfl) (by kernel_rfl) (by kernel_rfl) (fun x => ?hT) ?hF ?hini (Reg.all_ops ?runs) ?pres ?fin
  case W => exact fun j x w' => True
  case E => exact fun i wx wy => Only (fun _ => False) wx wy
  case hT =>
    simp only [Reg.fillV, Act.put, List.setIfInBounds_toArray, List.set_cons_zero, List.set_cons_succ]
    rfl
  case runs =>
    refine And.intro ?_ ?_
    · refine Reg.ob_pure (fun _ => rfl) rfl rfl rfl rfl (fun x w1 hF => ?_)
      have c1 : w1.cell? ⟨b, 1, none⟩ = some (.int .u64 (m.silence : Int)) := hF.fl.cell 1
      go_simp
      with_reducible rfl
    refine And.intro ?_ ?_
    · refine Reg.ob_known (fun _ => rfl) rfl rfl (fun x w1 hF hU K hK => ?_)
      replace hF := hF rfl
      go_simp
      refine (there_is B b mb m vw vg w1 hF.fl).mono ?_
      rintro e w5 ⟨rfl, rfl⟩
      exact hK _ (fun _ _ _ => hF) rfl
    refine And.intro ?_ ?_
    · refine Reg.ob_pure (fun _ => rfl) rfl rfl rfl rfl (fun x w1 hF => ?_)
      have c1 : w1.cell? ⟨b, 1, none⟩ = some (.int .u64 (m.silence : Int)) := hF.fl.cell 1
      go_simp
      with_reducible rfl
    refine And.intro ?_ ?_
    · refine Reg.ob_pure (fun _ => rfl) rfl rfl rfl rfl (fun x w1 hF => ?_)
      have c1 : w1.cell? ⟨b, 1, none⟩ = some (.int .u64 (m.silence : Int)) := hF.fl.cell 1
      go_simp
      with_reducible rfl
    refine And.intro ?_ ?_
    · refine Reg.ob_pure (fun _ => rfl) rfl rfl rfl rfl (fun x w1 hF => ?_)
      have c1 : w1.cell? ⟨b, 1, none⟩ = some (.int .u64 (m.silence : Int)) := hF.fl.cell 1
      go_simp
      with_reducible rfl
    refine And.intro ?_ ?_
    · refine Reg.ob_pure (fun _ => rfl) rfl rfl rfl rfl (fun x w1 hF => ?_)
      have c1 : w1.cell? ⟨b, 1, none⟩ = some (.int .u64 (m.silence : Int)) := hF.fl.cell 1
      go_simp
      with_reducible rfl
    refine And.intro ?_ ?_
    · refine Reg.ob_pure (fun _ => rfl) rfl rfl rfl rfl (fun x w1 hF => ?_)
      have c1 : w1.cell? ⟨b, 1, none⟩ = some (.int .u64 (m.silence : Int)) := hF.fl.cell 1
      go_simp
      with_reducible rfl
    refine And.intro ?_ ?_
    · refine Reg.ob_known (fun _ => rfl) rfl rfl (fun x w1 hF hU K hK => ?_)
      refine wp_load_mid 64 _ rfl b 3 rfl _ _ (hF rfl).fl.rangeH Try.underlying64 rfl Try.sizeHl ?_
      exact hK w1 (fun h _ _ => absurd h (by decide)) rfl
    refine And.intro ?_ ?_
    · refine Reg.ob_pure (fun _ => rfl) rfl rfl rfl rfl (fun x w1 hF => ?_)
      have c1 : w1.cell? ⟨b, 1, none⟩ = some (.int .u64 (m.silence : Int)) := hF.fl.cell 1
      go_simp
      with_reducible rfl
    refine And.intro ?_ ?_
    · refine Reg.ob_pure (fun _ => rfl) rfl rfl rfl rfl (fun x w1 hF => ?_)
      have c1 : w1.cell? ⟨b, 1, none⟩ = some (.int .u64 (m.silence : Int)) := hF.fl.cell 1
      go_simp
      with_reducible rfl
    refine And.intro ?_ ?_
    · refine Reg.ob_pure (fun _ => rfl) rfl rfl rfl rfl (fun x w1 hF => ?_)
      have c1 : w1.cell? ⟨b, 1, none⟩ = some (.int .u64 (m.silence : Int)) := hF.fl.cell 1
      go_simp
      with_reducible rfl
    refine And.intro ?_ ?_
    · refine Reg.ob_pure (fun _ => rfl) rfl rfl rfl rfl (fun x w1 hF => ?_)
      have c1 : w1.cell? ⟨b, 1, none⟩ = some (.int .u64 (m.silence : Int)) := hF.fl.cell 1
      go_simp
      with_reducible rfl
    refine And.intro ?_ ?_
    · refine Reg.ob_pure (fun _ => rfl) rfl rfl rfl rfl (fun x w1 hF => ?_)
      have c1 : w1.cell? ⟨b, 1, none⟩ = some (.int .u64 (m.silence : Int)) := hF.fl.cell 1
      go_simp
      with_reducible rfl
    refine And.intro ?_ ?_
    · refine Reg.ob_known (fun _ => rfl) rfl rfl (fun x w1 hF hU K hK => ?_)
      replace hF := hF rfl
      go_simp
      refine (HS.out w1).mono ?_
      rintro e w5 ⟨rfl, ho⟩
      exact hK w5 (fun _ _ _ => hF.go ho) ho
    refine And.intro ?_ ?_
    · refine Reg.ob_pure (fun _ => rfl) rfl rfl rfl rfl (fun x w1 hF => ?_)
      have c1 : w1.cell? ⟨b, 1, none⟩ = some (.int .u64 (m.silence : Int)) := hF.fl.cell 1
      go_simp
      with_reducible rfl
    refine And.intro ?_ ?_
    · refine Reg.ob_pure (fun _ => rfl) rfl rfl rfl rfl (fun x w1 hF => ?_)
      have c1 : w1.cell? ⟨b, 1, none⟩ = some (.int .u64 (m.silence : Int)) := hF.fl.cell 1
      go_simp
      with_reducible rfl
    exact trivial
  case hF =>
    exact hG.go ((Only.refl _ _).drewN 1)
  case hini =>
    exact trivial
  case pres =>
    intro i hi j hj
    simp at hj
  case fin =>
    rintro x w9 hF hU
    repeat apply Exists.intro
    exact ⟨rfl, rfl, hF rfl⟩

set_option maxRecDepth 100000 in
set_option maxHeartbeats 4000000 in
theorem ftk1 (B b mb n : Nat) (m : Fl) (vw vg : Value) (w0 : World) (s : Bool) (hs : ∀ w1, Calls Try.prog 44 #[(hV m.no m.who m.at_ m.heard m.pend), .int .u64 (n : Int), .int .u64 (m.silence : Int)] w1 (SaysF (.bool s) w1))  (u2 u3 u4 u5 u6 u7 u8 u9 u10 u11 u12 u13 u14 u15 u16 u17 u18 u19 u20 u21 u22 u23 : Value) (Q : Exit → Act → World → Prop) (w : World) (hG : Fw B b mb m vw vg w0 w)
    (hend : ∀ (y5 y6 y7 y8 y9 y10 y11 y12 y13 y14 y15 y16 y17 y18 y19 : Value) (w' : World), (Fw B b mb m vw vg w0 w') → Q .normal ⟨(List.toArray (.pointer (some ⟨b, 0, none⟩) :: .int .u64 (n : Int) :: u2 :: u3 :: u4 :: y5 :: y6 :: y7 :: y8 :: y9 :: y10 :: y11 :: y12 :: y13 :: y14 :: y15 :: y16 :: y17 :: y18 :: y19 :: (.bool (!s)) :: u21 :: u22 :: u23 :: [])), []⟩ w') :
    Code.wp Try.prog ftk1_code Q ⟨(List.toArray (.pointer (some ⟨b, 0, none⟩) :: .int .u64 (n : Int) :: u2 :: u3 :: u4 :: u5 :: u6 :: u7 :: u8 :: u9 :: u10 :: u11 :: u12 :: u13 :: u14 :: u15 :: u16 :: u17 :: u18 :: u19 :: u20 :: u21 :: u22 :: u23 :: [])), []⟩ w := by
  refine wp_mono (ftk1_in B b mb n m vw vg w0 s hs _ _ _ _ _ _ _ _ _ _ _ _ _ _ _ _ _ _ _ _ _ _ w hG) ?_
  rintro e a w' h
  obtain ⟨y5, h⟩ := h
  obtain ⟨y6, h⟩ := h
  obtain ⟨y7, h⟩ := h
  obtain ⟨y8, h⟩ := h
  obtain ⟨y9, h⟩ := h
  obtain ⟨y10, h⟩ := h
  obtain ⟨y11, h⟩ := h
  obtain ⟨y12, h⟩ := h
  obtain ⟨y13, h⟩ := h
  obtain ⟨y14, h⟩ := h
  obtain ⟨y15, h⟩ := h
  obtain ⟨y16, h⟩ := h
  obtain ⟨y17, h⟩ := h
  obtain ⟨y18, h⟩ := h
  obtain ⟨y19, h⟩ := h
  obtain ⟨h, rfl, hq⟩ := h
  subst h
  exact hend y5 y6 y7 y8 y9 y10 y11 y12 y13 y14 y15 y16 y17 y18 y19 w' hq
def fho3_A : List (List Nat) := ([] :: [0] :: [1, 0] :: [2, 1, 0] :: [3, 2, 1, 0] :: [] :: [5] :: [6, 5] :: [7, 6, 5] :: [8, 7, 6, 5] :: (4 :: 9 :: 0 :: 1 :: 2 :: 3 :: 8 :: 7 :: 6 :: 5 :: []) :: (9 :: 10 :: 0 :: 1 :: 2 :: 3 :: 4 :: 5 :: 6 :: 7 :: 8 :: []) :: [])
def fho3_kill : List (List Nat) := ([] :: [] :: [] :: [] :: [] :: [] :: [] :: [] :: [] :: [] :: [] :: [] :: [])
def fho3_uses : List (List Nat) := ([] :: [] :: [] :: [] :: [] :: [] :: [] :: [] :: [] :: [] :: [] :: [] :: [])
noncomputable def fho3_code : Code := ((Try.f15.body.bind (codeRegion 3)).getD .skip)
set_option maxRecDepth 100000 in
set_option maxHeartbeats 4000000 in
theorem fho3_in (B b mb rb : Nat) (m : Fl) (vw vg : Value) (w0 : World)  (u1 u3 u4 u5 u6 u7 u8 u9 u10 u11 u12 u13 u14 u15 u16 u17 : Value) (w : World) (hG : Fh B b mb rb m vw vg w0 w) :
    Code.wp Try.prog fho3_code (fun e a w' => ∃ y8 y9 y10 y11 y12 y13 y14 y15 y16 y17 : Value, a = ⟨(List.toArray (.pointer (some ⟨b, 0, none⟩) :: u1 :: .pointer (some ⟨rb, 0, none⟩) :: (.bool (decide (0 < m.no))) :: u4 :: u5 :: u6 :: u7 :: y8 :: y9 :: y10 :: y11 :: y12 :: y13 :: y14 :: y15 :: y16 :: y17 :: [])), []⟩ ∧ e = .normal ∧ (∃ w2, Fh B b mb rb m vw vg w0 w2 ∧ Is w' rb 48 #[.int .u64 (m.no : Int), .int .u32 (m.who : Int), .int .u64 (m.at_ : Int)] ∧ Only (fun k => k = rb) w2 w')) ⟨(List.toArray (.pointer (some ⟨b, 0, none⟩) :: u1 :: .pointer (some ⟨rb, 0, none⟩) :: u3 :: u4 :: u5 :: u6 :: u7 :: u8 :: u9 :: u10 :: u11 :: u12 :: u13 :: u14 :: u15 :: u16 :: u17 :: [])), []⟩ w := by
  conv => arg 2; whnf
  refine wp_region_posts fho3_A [9, 10] [10] fho3_kill fho3_uses [10] [10] [11] []
      (some ?v0 :: some ?v1 :: some ?v2 :: some ?v3 :: some ((.agg #[.int .u64 (m.no : Int), .int .u32 (m.who : Int), .int .u64 (m.at_ : Int)])) :: some ?v5 :: some ?v6 :: some ?v7 :: some ((hV m.no m.who m.at_ m.heard m.pend)) :: some ((.bool (decide (0 < m.no)))) :: none :: some ?v11 :: [])
      ?T (fun wx => Fh B b mb rb m vw vg w0 wx) ?W ?E (by kernel_rfl) (by kernel_rfl) (by kernel_rfl) (fun x => ?hT) ?hF ?hini (Reg.all_ops ?runs) ?pres ?fin
  case W => exact fun j x w' => match j with | 10 => (∃ w2, Fh B b mb rb m vw vg w0 w2 ∧ Is w' rb 48 #[.int .u64 (m.no : Int), .int .u32 (m.who : Int), .int .u64 (m.at_ : Int)] ∧ Only (fun k => k = rb) w2 w') | _ => True
  case E => exact fun i wx wy => match i with | 9 => Only (fun _ => False) wx wy | _ => True
  case hT =>
    simp only [Reg.fillV, Act.put, List.setIfInBounds_toArray, List.set_cons_zero, List.set_cons_succ]
    rfl
  case runs =>
    refine And.intro ?_ ?_
    · refine Reg.ob_pure (fun _ => rfl) rfl rfl rfl rfl (fun x w1 hF => ?_)
      have _h := hF
      go_simp
      with_reducible rfl
    refine And.intro ?_ ?_
    · refine Reg.ob_pure (fun _ => rfl) rfl rfl rfl rfl (fun x w1 hF => ?_)
      have _h := hF
      go_simp
      with_reducible rfl
    refine And.intro ?_ ?_
    · refine Reg.ob_pure (fun _ => rfl) rfl rfl rfl rfl (fun x w1 hF => ?_)
      have _h := hF
      go_simp
      with_reducible rfl
    refine And.intro ?_ ?_
    · refine Reg.ob_pure (fun _ => rfl) rfl rfl rfl rfl (fun x w1 hF => ?_)
      have _h := hF
      go_simp
      with_reducible rfl
    refine And.intro ?_ ?_
    · refine Reg.ob_known (fun _ => rfl) rfl rfl (fun x w1 hF hU K hK => ?_)
      refine wp_load_mid 48 _ rfl b 3 rfl _ _ (hF rfl).fw.fl.rangeG Try.underlying48 rfl Try.sizeGr ?_
      exact hK w1 (fun h _ _ => absurd h (by decide)) rfl
    refine And.intro ?_ ?_
    · refine Reg.ob_pure (fun _ => rfl) rfl rfl rfl rfl (fun x w1 hF => ?_)
      have _h := hF
      go_simp
      with_reducible rfl
    refine And.intro ?_ ?_
    · refine Reg.ob_pure (fun _ => rfl) rfl rfl rfl rfl (fun x w1 hF => ?_)
      have _h := hF
      go_simp
      with_reducible rfl
    refine And.intro ?_ ?_
    · refine Reg.ob_pure (fun _ => rfl) rfl rfl rfl rfl (fun x w1 hF => ?_)
      have _h := hF
      go_simp
      with_reducible rfl
    refine And.intro ?_ ?_
    · refine Reg.ob_known (fun _ => rfl) rfl rfl (fun x w1 hF hU K hK => ?_)
      refine wp_load_mid 64 _ rfl b 3 rfl _ _ (hF rfl).fw.fl.rangeH Try.underlying64 rfl Try.sizeHl ?_
      exact hK w1 (fun h _ _ => absurd h (by decide)) rfl
    refine And.intro ?_ ?_
    · refine Reg.ob_known (fun _ => rfl) rfl rfl (fun x w1 hF hU K hK => ?_)
      replace hF := hF rfl
      go_simp
      refine (somebody_is m.no m.who m.at_ m.heard m.pend w1).mono ?_
      rintro e w5 ⟨rfl, ho⟩
      exact hK w5 (fun _ _ _ => hF.go ho) ho
    refine And.intro ?_ ?_
    · refine Reg.ob_some (fun _ => rfl) rfl (fun x w1 hF hU K hK => ?_)
      replace hF := hF rfl
      refine wp_store_mid 48 _ _ rfl rb 0 #[.int .u64 (m.no : Int), .int .u32 (m.who : Int), .int .u64 (m.at_ : Int)] rfl rfl (fun j hj => ⟨by rw [hF.rz.cell, Array.getElem?_eq_getElem (by simp [zeroGr]; simp at hj; omega)]; rfl, hF.rz.free _⟩) Try.sizeGr (by simp [Value.oneCell']) ?_
      exact hK undef _ (fun _ h _ => by cases h) trivial ⟨w1, hF, Is.many _ _ _ _ _ hF.rz, Only.many _ _ _ (Only.refl _ w1) (fun _ => rfl)⟩
    refine And.intro ?_ ?_
    · refine Reg.ob_bare (fun _ => rfl) rfl rfl rfl (fun x w1 => ?_)
      go_simp
      with_reducible rfl
    exact trivial
  case hF =>
    exact hG.go ((Only.refl _ _).drewN 1)
  case hini =>
    exact trivial
  case pres =>
    intro i hi j hj hc x wx wy hF hE hW
    simp only [List.mem_cons, List.mem_nil_iff, or_false] at hi hj
    rcases hi with rfl | rfl <;> rcases hj with rfl
    all_goals (exfalso; revert hc; decide)
  case fin =>
    rintro x w9 hF hU
    obtain ⟨hQ, -⟩ := hU
    repeat apply Exists.intro
    exact ⟨rfl, rfl, hQ⟩

set_option maxRecDepth 100000 in
set_option maxHeartbeats 4000000 in
theorem fho3 (B b mb rb : Nat) (m : Fl) (vw vg : Value) (w0 : World)  (u1 u3 u4 u5 u6 u7 u8 u9 u10 u11 u12 u13 u14 u15 u16 u17 : Value) (Q : Exit → Act → World → Prop) (w : World) (hG : Fh B b mb rb m vw vg w0 w)
    (hend : ∀ (y8 y9 y10 y11 y12 y13 y14 y15 y16 y17 : Value) (w' : World), (∃ w2, Fh B b mb rb m vw vg w0 w2 ∧ Is w' rb 48 #[.int .u64 (m.no : Int), .int .u32 (m.who : Int), .int .u64 (m.at_ : Int)] ∧ Only (fun k => k = rb) w2 w') → Q .normal ⟨(List.toArray (.pointer (some ⟨b, 0, none⟩) :: u1 :: .pointer (some ⟨rb, 0, none⟩) :: (.bool (decide (0 < m.no))) :: u4 :: u5 :: u6 :: u7 :: y8 :: y9 :: y10 :: y11 :: y12 :: y13 :: y14 :: y15 :: y16 :: y17 :: [])), []⟩ w') :
    Code.wp Try.prog fho3_code Q ⟨(List.toArray (.pointer (some ⟨b, 0, none⟩) :: u1 :: .pointer (some ⟨rb, 0, none⟩) :: u3 :: u4 :: u5 :: u6 :: u7 :: u8 :: u9 :: u10 :: u11 :: u12 :: u13 :: u14 :: u15 :: u16 :: u17 :: [])), []⟩ w := by
  refine wp_mono (fho3_in B b mb rb m vw vg w0 _ _ _ _ _ _ _ _ _ _ _ _ _ _ _ _ w hG) ?_
  rintro e a w' h
  obtain ⟨y8, h⟩ := h
  obtain ⟨y9, h⟩ := h
  obtain ⟨y10, h⟩ := h
  obtain ⟨y11, h⟩ := h
  obtain ⟨y12, h⟩ := h
  obtain ⟨y13, h⟩ := h
  obtain ⟨y14, h⟩ := h
  obtain ⟨y15, h⟩ := h
  obtain ⟨y16, h⟩ := h
  obtain ⟨y17, h⟩ := h
  obtain ⟨h, rfl, hq⟩ := h
  subst h
  exact hend y8 y9 y10 y11 y12 y13 y14 y15 y16 y17 w' hq
def flv6_A : List (List Nat) := ([] :: [] :: [1] :: [2, 1] :: [3, 2, 1] :: [] :: [5] :: [4, 6, 3, 2, 1, 5] :: (0 :: 1 :: 2 :: 3 :: 4 :: 5 :: 6 :: 7 :: []) :: (8 :: 0 :: 1 :: 2 :: 3 :: 4 :: 5 :: 6 :: 7 :: []) :: (9 :: 7 :: 0 :: 1 :: 2 :: 3 :: 4 :: 5 :: 6 :: 8 :: []) :: [])
def flv6_kill : List (List Nat) := ([] :: [] :: [] :: [] :: [] :: [] :: [] :: [6] :: [] :: [] :: [6, 7] :: [])
def flv6_uses : List (List Nat) := ([] :: [] :: [] :: [] :: [] :: [] :: [] :: [6] :: [] :: [] :: [7] :: [])
noncomputable def flv6_code : Code := ((Try.f35.body.bind (codeRegion 6)).getD .skip)
set_option maxRecDepth 100000 in
set_option maxHeartbeats 4000000 in
theorem flv6_in (B b mb n : Nat) (m : Fl) (vw vg : Value) (w0 : World) (hl : m.wt.length ≤ 1000000)  (u2 u3 u4 u5 u6 u7 u8 u9 u10 u11 u12 u13 u14 u15 u16 u17 u18 u19 u20 u21 u22 u23 u24 u25 u26 u27 u28 u29 u30 u31 u32 u33 u34 u35 u36 u37 u38 u39 : Value) (w : World) (hG : Fw B b mb m vw vg w0 w) :
    Code.wp Try.prog flv6_code (fun e a w' => ∃ y21 y22 y23 y24 y25 y26 y27 y28 y29 y30 : Value, a = ⟨(List.toArray (.pointer (some ⟨b, 0, none⟩) :: .int .u32 (n : Int) :: u2 :: u3 :: u4 :: u5 :: u6 :: u7 :: u8 :: u9 :: u10 :: u11 :: u12 :: u13 :: u14 :: u15 :: u16 :: u17 :: u18 :: u19 :: u20 :: y21 :: y22 :: y23 :: y24 :: y25 :: y26 :: y27 :: y28 :: y29 :: y30 :: u31 :: u32 :: u33 :: u34 :: u35 :: u36 :: u37 :: u38 :: u39 :: [])), []⟩ ∧ e = .normal ∧ (∃ A' c' w2 w3, w' = w3.setCell ⟨b, 8, none⟩ (.slice A' (m.wt.filter fun x => x != n).length c') ∧ Fw B b mb m vw vg w0 w2 ∧ OwnS w3 B 30 1 (.slice A' (m.wt.filter fun x => x != n).length c') (rows32 (m.wt.filter fun x => x != n)) ∧ Only (fun k => vw.ownBlock = some k) w2 w3 ∧ Value.ownBlock (.slice A' (m.wt.filter fun x => x != n).length c') = vw.ownBlock)) ⟨(List.toArray (.pointer (some ⟨b, 0, none⟩) :: .int .u32 (n : Int) :: u2 :: u3 :: u4 :: u5 :: u6 :: u7 :: u8 :: u9 :: u10 :: u11 :: u12 :: u13 :: u14 :: u15 :: u16 :: u17 :: u18 :: u19 :: u20 :: u21 :: u22 :: u23 :: u24 :: u25 :: u26 :: u27 :: u28 :: u29 :: u30 :: u31 :: u32 :: u33 :: u34 :: u35 :: u36 :: u37 :: u38 :: u39 :: [])), []⟩ w := by
  conv => arg 2; whnf
  refine wp_region_posts flv6_A [6, 7, 10] [6, 7, 10] flv6_kill flv6_uses [10] [7, 10] [0, 8, 9, 10] []
      (some ?v0 :: some ?v1 :: some ?v2 :: some ?v3 :: some ?v4 :: some ?v5 :: none :: none :: some ?v8 :: some ?v9 :: none :: [])
      ?T (fun wx => Fw B b mb m vw vg w0 wx) ?W ?E (by kernel_rfl) (by kernel_rfl) (by kernel_rfl) (fun x => ?hT) ?hF ?hini (Reg.all_ops ?runs) ?pres ?fin
  case W => exact fun j x w' => match j with | 6 => ∃ q, x 6 = isF q ∧ Is w' q 30 #[.int .u32 (n : Int)] ∧ ∃ w2, Flr w2 B b mb m vw vg ∧ w2.heap.size ≤ q | 7 => ∃ A' c' w2, x 7 = (.slice A' (m.wt.filter fun x => x != n).length c') ∧ Fw B b mb m vw vg w0 w2 ∧ OwnS w' B 30 1 (.slice A' (m.wt.filter fun x => x != n).length c') (rows32 (m.wt.filter fun x => x != n)) ∧ Only (fun k => vw.ownBlock = some k) w2 w' ∧ Value.ownBlock (.slice A' (m.wt.filter fun x => x != n).length c') = vw.ownBlock | 10 => (∃ A' c' w2 w3, w' = w3.setCell ⟨b, 8, none⟩ (.slice A' (m.wt.filter fun x => x != n).length c') ∧ Fw B b mb m vw vg w0 w2 ∧ OwnS w3 B 30 1 (.slice A' (m.wt.filter fun x => x != n).length c') (rows32 (m.wt.filter fun x => x != n)) ∧ Only (fun k => vw.ownBlock = some k) w2 w3 ∧ Value.ownBlock (.slice A' (m.wt.filter fun x => x != n).length c') = vw.ownBlock) | _ => True
  case E => exact fun i wx wy => match i with | 6 => Only (fun _ => False) wx wy | _ => True
  case hT =>
    simp only [Reg.fillV, Act.put, List.setIfInBounds_toArray, List.set_cons_zero, List.set_cons_succ]
    rfl
  case runs =>
    refine And.intro ?_ ?_
    · refine Reg.ob_bare (fun _ => rfl) rfl rfl rfl (fun x w1 => ?_)
      go_simp
      with_reducible rfl
    refine And.intro ?_ ?_
    · refine Reg.ob_pure (fun _ => rfl) rfl rfl rfl rfl (fun x w1 hF => ?_)
      have c8 : w1.cell? ⟨b, 8, none⟩ = some vw := hF.fl.cell 8
      go_simp
      with_reducible rfl
    refine And.intro ?_ ?_
    · refine Reg.ob_pure (fun _ => rfl) rfl rfl rfl rfl (fun x w1 hF => ?_)
      have c8 : w1.cell? ⟨b, 8, none⟩ = some vw := hF.fl.cell 8
      go_simp
      with_reducible rfl
    refine And.intro ?_ ?_
    · refine Reg.ob_pure (fun _ => rfl) rfl rfl rfl rfl (fun x w1 hF => ?_)
      have c8 : w1.cell? ⟨b, 8, none⟩ = some vw := hF.fl.cell 8
      go_simp
      with_reducible rfl
    refine And.intro ?_ ?_
    · refine Reg.ob_pure (fun _ => rfl) rfl rfl rfl rfl (fun x w1 hF => ?_)
      have c8 : w1.cell? ⟨b, 8, none⟩ = some vw := hF.fl.cell 8
      go_simp
      with_reducible rfl
    refine And.intro ?_ ?_
    · refine Reg.ob_pure (fun _ => rfl) rfl rfl rfl rfl (fun x w1 hF => ?_)
      have c8 : w1.cell? ⟨b, 8, none⟩ = some vw := hF.fl.cell 8
      go_simp
      with_reducible rfl
    refine And.intro ?_ ?_
    · refine Reg.ob_some (fun _ => rfl) rfl (fun x w1 hF hU K hK => ?_)
      replace hF := hF rfl
      go_simp
      refine (fis_is n w1).mono ?_
      rintro e w5 ⟨rfl, rfl⟩
      exact hK _ _ (fun _ _ _ => hF.go ((Only.refl _ _).alloc _)) ((Only.refl _ _).alloc _) ⟨_, rfl, Is.made _ _ _, w1, hF.fl, by omega⟩
    refine And.intro ?_ ?_
    · refine Reg.ob_some (fun _ => rfl) rfl (fun x w1 hF hU K hK => ?_)
      replace hF := hF rfl
      obtain ⟨⟨q, hx, hI, w2, hf2, hq⟩, -⟩ := hU
      have hx : x 6 = isF q := hx
      revert hK
      simp only [Nat.reduceAdd, hx]
      intro hK
      go_simp
      refine (delfunc_is n q B vw m.wt w1 hF.fl.wr hl hI (fun e => by have := (hf2.wr.lt q e).2; omega)).mono ?_
      rintro e w5 ⟨v', rfl, ho, hs, hn⟩
      obtain ⟨A', c', rfl, -⟩ := ho.slice
      rw [rows32_length] at ho hn ⊢
      exact hK _ w5 (fun _ h _ => by cases h) trivial ⟨A', c', w1, rfl, hF, ho, hs, hn⟩
    refine And.intro ?_ ?_
    · refine Reg.ob_bare (fun _ => rfl) rfl rfl rfl (fun x w1 => ?_)
      go_simp
      with_reducible rfl
    refine And.intro ?_ ?_
    · refine Reg.ob_bare (fun _ => rfl) rfl rfl rfl (fun x w1 => ?_)
      go_simp
      with_reducible rfl
    refine And.intro ?_ ?_
    · refine Reg.ob_some (fun _ => rfl) rfl (fun x w1 hF hU K hK => ?_)
      obtain ⟨⟨A', c', w2, hx, hf, ho, hs, hn⟩, -⟩ := hU
      have hx : x 7 = (.slice A' (m.wt.filter fun x => x != n).length c') := hx
      obtain ⟨cc, cf⟩ := hf.fl.cell8 hs
      revert hK
      simp only [Nat.reduceAdd, hx]
      intro hK
      go_simp
      exact hK undef _ (fun _ h _ => by cases h) trivial ⟨A', c', w2, w1, rfl, hf, ho, hs, hn⟩
    exact trivial
  case hF =>
    exact hG.go ((Only.refl _ _).drewN 1)
  case hini =>
    exact trivial
  case pres =>
    intro i hi j hj hc x wx wy hF hE hW
    simp only [List.mem_cons, List.mem_nil_iff, or_false] at hi hj
    rcases hi with rfl | rfl | rfl <;> rcases hj with rfl | rfl | rfl
    all_goals (exfalso; revert hc; decide)
  case fin =>
    rintro x w9 hF hU
    obtain ⟨hQ, -⟩ := hU
    repeat apply Exists.intro
    exact ⟨rfl, rfl, hQ⟩

set_option maxRecDepth 100000 in
set_option maxHeartbeats 4000000 in
theorem flv6 (B b mb n : Nat) (m : Fl) (vw vg : Value) (w0 : World) (hl : m.wt.length ≤ 1000000)  (u2 u3 u4 u5 u6 u7 u8 u9 u10 u11 u12 u13 u14 u15 u16 u17 u18 u19 u20 u21 u22 u23 u24 u25 u26 u27 u28 u29 u30 u31 u32 u33 u34 u35 u36 u37 u38 u39 : Value) (Q : Exit → Act → World → Prop) (w : World) (hG : Fw B b mb m vw vg w0 w)
    (hend : ∀ (y21 y22 y23 y24 y25 y26 y27 y28 y29 y30 : Value) (w' : World), (∃ A' c' w2 w3, w' = w3.setCell ⟨b, 8, none⟩ (.slice A' (m.wt.filter fun x => x != n).length c') ∧ Fw B b mb m vw vg w0 w2 ∧ OwnS w3 B 30 1 (.slice A' (m.wt.filter fun x => x != n).length c') (rows32 (m.wt.filter fun x => x != n)) ∧ Only (fun k => vw.ownBlock = some k) w2 w3 ∧ Value.ownBlock (.slice A' (m.wt.filter fun x => x != n).length c') = vw.ownBlock) → Q .normal ⟨(List.toArray (.pointer (some ⟨b, 0, none⟩) :: .int .u32 (n : Int) :: u2 :: u3 :: u4 :: u5 :: u6 :: u7 :: u8 :: u9 :: u10 :: u11 :: u12 :: u13 :: u14 :: u15 :: u16 :: u17 :: u18 :: u19 :: u20 :: y21 :: y22 :: y23 :: y24 :: y25 :: y26 :: y27 :: y28 :: y29 :: y30 :: u31 :: u32 :: u33 :: u34 :: u35 :: u36 :: u37 :: u38 :: u39 :: [])), []⟩ w') :
    Code.wp Try.prog flv6_code Q ⟨(List.toArray (.pointer (some ⟨b, 0, none⟩) :: .int .u32 (n : Int) :: u2 :: u3 :: u4 :: u5 :: u6 :: u7 :: u8 :: u9 :: u10 :: u11 :: u12 :: u13 :: u14 :: u15 :: u16 :: u17 :: u18 :: u19 :: u20 :: u21 :: u22 :: u23 :: u24 :: u25 :: u26 :: u27 :: u28 :: u29 :: u30 :: u31 :: u32 :: u33 :: u34 :: u35 :: u36 :: u37 :: u38 :: u39 :: [])), []⟩ w := by
  refine wp_mono (flv6_in B b mb n m vw vg w0 hl _ _ _ _ _ _ _ _ _ _ _ _ _ _ _ _ _ _ _ _ _ _ _ _ _ _ _ _ _ _ _ _ _ _ _ _ _ _ w hG) ?_
  rintro e a w' h
  obtain ⟨y21, h⟩ := h
  obtain ⟨y22, h⟩ := h
  obtain ⟨y23, h⟩ := h
  obtain ⟨y24, h⟩ := h
  obtain ⟨y25, h⟩ := h
  obtain ⟨y26, h⟩ := h
  obtain ⟨y27, h⟩ := h
  obtain ⟨y28, h⟩ := h
  obtain ⟨y29, h⟩ := h
  obtain ⟨y30, h⟩ := h
  obtain ⟨h, rfl, hq⟩ := h
  subst h
  exact hend y21 y22 y23 y24 y25 y26 y27 y28 y29 y30 w' hq
def ftk0_A : List (List Nat) := ([] :: [0] :: [1, 0] :: [2, 1, 0] :: [3, 2, 1, 0] :: [4, 3, 2, 1, 0] :: [5, 3, 4, 2, 1, 0] :: [6, 3, 5, 4, 2, 1, 0] :: [3, 2, 1, 0] :: [3, 2, 1, 0] :: [9, 3, 2, 1, 0] :: [10, 3, 9, 2, 1, 0] :: [11, 3, 10, 9, 2, 1, 0] :: (7 :: 8 :: 12 :: 3 :: 6 :: 5 :: 4 :: 2 :: 1 :: 0 :: 11 :: 10 :: 9 :: []) :: (13 :: 3 :: 7 :: 8 :: 12 :: 6 :: 5 :: 4 :: 2 :: 1 :: 0 :: 11 :: 10 :: 9 :: []) :: (3 :: 14 :: 2 :: 1 :: 0 :: 13 :: 7 :: 8 :: 12 :: 6 :: 5 :: 4 :: 11 :: 10 :: 9 :: []) :: [])
def ftk0_kill : List (List Nat) := ([] :: [] :: [] :: [] :: [] :: [] :: [] :: [] :: [] :: [] :: [] :: [] :: [] :: [] :: [] :: [] :: [])
def ftk0_uses : List (List Nat) := ([] :: [] :: [] :: [] :: [] :: [] :: [] :: [] :: [] :: [] :: [] :: [] :: [] :: [] :: [] :: [] :: [])
noncomputable def ftk0_code : Code := ((Try.f21.body.bind (codeRegion 1)).getD .skip)
set_option maxRecDepth 100000 in
set_option maxHeartbeats 4000000 in
theorem ftk0_in (w0 : World)  (u1 u2 u3 u4 u5 u6 u7 u8 u9 u10 u11 u12 u13 u14 u15 u16 u17 u18 u19 u20 u21 u22 u23 : Value) (w : World) (hG : Only (fun _ => False) w0 w) :
    Code.wp Try.prog ftk0_code (fun e a w' => ∃ y5 y6 y7 y8 y9 y10 y11 y12 y13 y14 y15 y16 y17 y18 y19 : Value, a = ⟨(List.toArray (.pointer none :: u1 :: u2 :: u3 :: u4 :: y5 :: y6 :: y7 :: y8 :: y9 :: y10 :: y11 :: y12 :: y13 :: y14 :: y15 :: y16 :: y17 :: y18 :: y19 :: (.bool true) :: u21 :: u22 :: u23 :: [])), []⟩ ∧ e = .normal ∧ (Only (fun _ => False) w0 w')) ⟨(List.toArray (.pointer none :: u1 :: u2 :: u3 :: u4 :: u5 :: u6 :: u7 :: u8 :: u9 :: u10 :: u11 :: u12 :: u13 :: u14 :: u15 :: u16 :: u17 :: u18 :: u19 :: u20 :: u21 :: u22 :: u23 :: [])), []⟩ w := by
  conv => arg 2; whnf
  refine wp_region_posts ftk0_A [] [] ftk0_kill ftk0_uses [] [] [] []
      (some ?v0 :: some ((.bool false)) :: some ?v2 :: some ?v3 :: some undef :: some undef :: some undef :: some undef :: some undef :: some undef :: some undef :: some undef :: some undef :: some undef :: some undef :: some ?v15 :: [])
      ?T (fun wx => Only (fun _ => False) w0 wx) ?W ?E (by kernel_rfl) (by kernel_rfl) (by kernel_rfl) (fun x => ?hT) ?hF ?hini (Reg.all_ops ?runs) ?pres ?fin
  case W => exact fun j x w' => True
  case E => exact fun i wx wy => True
  case hT =>
    simp only [Reg.fillV, Act.put, List.setIfInBounds_toArray, List.set_cons_zero, List.set_cons_succ]
    rfl
  case runs =>
    refine And.intro ?_ ?_
    · refine Reg.ob_pure (fun _ => rfl) rfl rfl rfl rfl (fun x w1 hF => ?_)
      have _h := hF
      go_simp
      with_reducible rfl
    refine And.intro ?_ ?_
    · refine Reg.ob_known (fun _ => rfl) rfl rfl (fun x w1 hF hU K hK => ?_)
      replace hF := hF rfl
      go_simp
      refine (there_nil w1).mono ?_
      rintro e w5 ⟨rfl, rfl⟩
      exact hK _ (fun _ _ _ => hF) rfl
    refine And.intro ?_ ?_
    · refine Reg.ob_pure (fun _ => rfl) rfl rfl rfl rfl (fun x w1 hF => ?_)
      have _h := hF
      go_simp
      with_reducible rfl
    refine And.intro ?_ ?_
    · refine Reg.ob_pure (fun _ => rfl) rfl rfl rfl rfl (fun x w1 hF => ?_)
      have _h := hF
      go_simp
      with_reducible rfl
    refine And.intro ?_ ?_
    · exact Reg.ob_skip (fun _ => rfl) rfl rfl rfl
    refine And.intro ?_ ?_
    · exact Reg.ob_skip (fun _ => rfl) rfl rfl rfl
    refine And.intro ?_ ?_
    · exact Reg.ob_skip (fun _ => rfl) rfl rfl rfl
    refine And.intro ?_ ?_
    · exact Reg.ob_skip (fun _ => rfl) rfl rfl rfl
    refine And.intro ?_ ?_
    · exact Reg.ob_skip (fun _ => rfl) rfl rfl rfl
    refine And.intro ?_ ?_
    · exact Reg.ob_skip (fun _ => rfl) rfl rfl rfl
    refine And.intro ?_ ?_
    · exact Reg.ob_skip (fun _ => rfl) rfl rfl rfl
    refine And.intro ?_ ?_
    · exact Reg.ob_skip (fun _ => rfl) rfl rfl rfl
    refine And.intro ?_ ?_
    · exact Reg.ob_skip (fun _ => rfl) rfl rfl rfl
    refine And.intro ?_ ?_
    · exact Reg.ob_skip (fun _ => rfl) rfl rfl rfl
    refine And.intro ?_ ?_
    · exact Reg.ob_skip (fun _ => rfl) rfl rfl rfl
    refine And.intro ?_ ?_
    · refine Reg.ob_pure (fun _ => rfl) rfl rfl rfl rfl (fun x w1 hF => ?_)
      have _h := hF
      go_simp
      with_reducible rfl
    exact trivial
  case hF =>
    exact hG.drewN 1
  case hini =>
    exact trivial
  case pres =>
    intro i hi
    simp at hi
  case fin =>
    rintro x w9 hF hU
    repeat apply Exists.intro
    exact ⟨rfl, rfl, hF rfl⟩

set_option maxRecDepth 100000 in
set_option maxHeartbeats 4000000 in
theorem ftk0 (w0 : World)  (u1 u2 u3 u4 u5 u6 u7 u8 u9 u10 u11 u12 u13 u14 u15 u16 u17 u18 u19 u20 u21 u22 u23 : Value) (Q : Exit → Act → World → Prop) (w : World) (hG : Only (fun _ => False) w0 w)
    (hend : ∀ (y5 y6 y7 y8 y9 y10 y11 y12 y13 y14 y15 y16 y17 y18 y19 : Value) (w' : World), (Only (fun _ => False) w0 w') → Q .normal ⟨(List.toArray (.pointer none :: u1 :: u2 :: u3 :: u4 :: y5 :: y6 :: y7 :: y8 :: y9 :: y10 :: y11 :: y12 :: y13 :: y14 :: y15 :: y16 :: y17 :: y18 :: y19 :: (.bool true) :: u21 :: u22 :: u23 :: [])), []⟩ w') :
    Code.wp Try.prog ftk0_code Q ⟨(List.toArray (.pointer none :: u1 :: u2 :: u3 :: u4 :: u5 :: u6 :: u7 :: u8 :: u9 :: u10 :: u11 :: u12 :: u13 :: u14 :: u15 :: u16 :: u17 :: u18 :: u19 :: u20 :: u21 :: u22 :: u23 :: [])), []⟩ w := by
  refine wp_mono (ftk0_in w0 _ _ _ _ _ _ _ _ _ _ _ _ _ _ _ _ _ _ _ _ _ _ _ w hG) ?_
  rintro e a w' h
  obtain ⟨y5, h⟩ := h
  obtain ⟨y6, h⟩ := h
  obtain ⟨y7, h⟩ := h
  obtain ⟨y8, h⟩ := h
  obtain ⟨y9, h⟩ := h
  obtain ⟨y10, h⟩ := h
  obtain ⟨y11, h⟩ := h
  obtain ⟨y12, h⟩ := h
  obtain ⟨y13, h⟩ := h
  obtain ⟨y14, h⟩ := h
  obtain ⟨y15, h⟩ := h
  obtain ⟨y16, h⟩ := h
  obtain ⟨y17, h⟩ := h
  obtain ⟨y18, h⟩ := h
  obtain ⟨y19, h⟩ := h
  obtain ⟨h, rfl, hq⟩ := h
  subst h
  exact hend y5 y6 y7 y8 y9 y10 y11 y12 y13 y14 y15 y16 y17 y18 y19 w' hq
end Go.Proofs.Ytelfeedaadkhnaa
