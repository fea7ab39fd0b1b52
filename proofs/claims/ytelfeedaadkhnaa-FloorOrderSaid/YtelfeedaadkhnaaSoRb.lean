/- slices.Sort of numbers of 32 digits: the regions of partitionEqual that draw their order. Conditions: as each says. -/
import Derived.Test.YtelfeedaadkhnaaSoA
set_option linter.unusedVariables false
set_option linter.unusedSimpArgs false
namespace Go.Proofs.Ytelfeedaadkhnaa
open Go Go.RowKit

def peq1_A : List (List Nat) := ([] :: [] :: [] :: [] :: [] :: [] :: [4, 5] :: [6, 4, 5] :: [] :: [] :: [8, 9] :: [10, 8, 9] :: (0 :: 1 :: 4 :: 5 :: 6 :: 7 :: 11 :: 10 :: 8 :: 9 :: []) :: (12 :: 7 :: 0 :: 1 :: 4 :: 5 :: 6 :: 11 :: 10 :: 8 :: 9 :: []) :: (2 :: 3 :: 0 :: 1 :: 4 :: 5 :: 6 :: 7 :: 8 :: 9 :: 10 :: 11 :: 12 :: 13 :: []) :: (14 :: 11 :: 13 :: 0 :: 1 :: 2 :: 3 :: 4 :: 5 :: 6 :: 7 :: 8 :: 9 :: 10 :: 12 :: []) :: [])
def peq1_kill : List (List Nat) := ([] :: [] :: [] :: [] :: [] :: [] :: [] :: [] :: [] :: [] :: [] :: [] :: [] :: [] :: [] :: [13] :: [])
def peq1_uses : List (List Nat) := ([] :: [] :: [] :: [] :: [] :: [] :: [] :: [] :: [] :: [] :: [] :: [] :: [] :: [] :: [] :: [13] :: [])
noncomputable def peq1_code : Code := ((Try.f73.body.bind (codeRegion 1)).getD .skip)
set_option maxRecDepth 100000 in
set_option maxHeartbeats 600000 in
theorem peq1_in (B g c N : Nat) (f : Nat → Nat) (w0 : World) (lo p : Nat) (hX : lo < N) (hY : p < N) (hN : N ≤ 1000)  (u2 u4 u5 u6 u7 u8 u9 u10 u11 u12 u13 u14 u15 u16 u17 u18 u19 u20 u21 u22 u23 u24 u25 u26 u27 u28 u29 u30 u31 u32 u33 u34 u35 u36 u37 u38 u39 u40 u41 u42 u43 u44 u45 u46 u47 u48 u49 u50 u51 u52 u53 u54 u55 u56 u57 u58 u59 u60 u61 u62 u63 u64 u65 u66 u67 u68 u69 u70 u71 u72 u73 u74 u75 u76 u77 u78 u79 u80 u81 u82 u83 : Value) (w : World) (hG : Rw B g c N f w0 w) :
    Code.wp Try.prog peq1_code (fun e a w' => ∃ y11 y12 y13 y14 y15 y16 y17 y18 y19 y20 y21 y22 y23 y24 : Value, a = ⟨(List.toArray (.slice (some ⟨g, 0, none⟩) N c :: .int .i64 (lo : Int) :: u2 :: .int .i64 (p : Int) :: u4 :: u5 :: u6 :: u7 :: u8 :: u9 :: u10 :: y11 :: y12 :: y13 :: y14 :: y15 :: y16 :: y17 :: y18 :: y19 :: y20 :: y21 :: y22 :: y23 :: y24 :: u25 :: u26 :: u27 :: u28 :: u29 :: u30 :: u31 :: u32 :: u33 :: u34 :: u35 :: u36 :: u37 :: u38 :: u39 :: u40 :: u41 :: u42 :: u43 :: u44 :: u45 :: u46 :: u47 :: u48 :: u49 :: u50 :: u51 :: u52 :: u53 :: u54 :: u55 :: u56 :: u57 :: u58 :: u59 :: u60 :: u61 :: u62 :: u63 :: u64 :: u65 :: u66 :: u67 :: u68 :: u69 :: u70 :: u71 :: u72 :: u73 :: u74 :: u75 :: u76 :: u77 :: u78 :: u79 :: u80 :: u81 :: u82 :: u83 :: [])), []⟩ ∧ e = .normal ∧ (Rw B g c N (swp f (lo) (p)) w0 w')) ⟨(List.toArray (.slice (some ⟨g, 0, none⟩) N c :: .int .i64 (lo : Int) :: u2 :: .int .i64 (p : Int) :: u4 :: u5 :: u6 :: u7 :: u8 :: u9 :: u10 :: u11 :: u12 :: u13 :: u14 :: u15 :: u16 :: u17 :: u18 :: u19 :: u20 :: u21 :: u22 :: u23 :: u24 :: u25 :: u26 :: u27 :: u28 :: u29 :: u30 :: u31 :: u32 :: u33 :: u34 :: u35 :: u36 :: u37 :: u38 :: u39 :: u40 :: u41 :: u42 :: u43 :: u44 :: u45 :: u46 :: u47 :: u48 :: u49 :: u50 :: u51 :: u52 :: u53 :: u54 :: u55 :: u56 :: u57 :: u58 :: u59 :: u60 :: u61 :: u62 :: u63 :: u64 :: u65 :: u66 :: u67 :: u68 :: u69 :: u70 :: u71 :: u72 :: u73 :: u74 :: u75 :: u76 :: u77 :: u78 :: u79 :: u80 :: u81 :: u82 :: u83 :: [])), []⟩ w := by
  conv => arg 2; whnf
  have hI0 : (lo : Int) < (N : Int) := by omega
  have hP0 : (0 : Int) ≤ (lo : Int) := by omega
  have hV0 : IntKind.i64.wrap ((lo : Int)) = (lo : Int) := by rw [IntKind.wrap_i64]; omega
  have hI1 : (p : Int) < (N : Int) := by omega
  have hP1 : (0 : Int) ≤ (p : Int) := by omega
  have hV1 : IntKind.i64.wrap ((p : Int)) = (p : Int) := by rw [IntKind.wrap_i64]; omega
  refine wp_region_posts peq1_A [13, 15] [13, 15] peq1_kill peq1_uses [15] [13, 15] [0, 1, 2, 3, 4, 5, 6, 8, 9, 10, 12, 14, 15] []
      (some ?v0 :: some ?v1 :: some ?v2 :: some ?v3 :: some ?v4 :: some ?v5 :: some ?v6 :: some ?v7 :: some ?v8 :: some ?v9 :: some ?v10 :: some ?v11 :: some ?v12 :: none :: some ?v14 :: none :: [])
      ?T (fun wx => Rw B g c N f w0 wx) ?W ?E (by kernel_rfl) (by kernel_rfl) (by kernel_rfl) (fun x => ?hT) ?hF ?hini (Reg.all_ops ?runs) ?pres ?fin
  case W => exact fun jj x w' => match jj with | 13 => Rw B g c N (updf f (lo) (f (p))) w0 w' | 15 => Rw B g c N (swp f (lo) (p)) w0 w' | _ => True
  case E => exact fun i wx wy => True
  case hT =>
    simp only [Reg.fillV, Act.put, List.setIfInBounds_toArray, List.set_cons_zero, List.set_cons_succ]
    rfl
  case runs =>
    refine And.intro ?_ ?_
    · refine Reg.ob_bare (fun _ => rfl) rfl rfl rfl (fun x w1 => ?_)
      go_simp
      with_reducible rfl
    refine And.intro ?_ ?_
    · refine Reg.ob_bare (fun _ => rfl) rfl rfl rfl (fun x w1 => ?_)
      go_simp
      with_reducible rfl
    refine And.intro ?_ ?_
    · refine Reg.ob_bare (fun _ => rfl) rfl rfl rfl (fun x w1 => ?_)
      go_simp
      with_reducible rfl
    refine And.intro ?_ ?_
    · refine Reg.ob_bare (fun _ => rfl) rfl rfl rfl (fun x w1 => ?_)
      go_simp
      with_reducible rfl
    refine And.intro ?_ ?_
    · refine Reg.ob_bare (fun _ => rfl) rfl rfl rfl (fun x w1 => ?_)
      go_simp
      with_reducible rfl
    refine And.intro ?_ ?_
    · refine Reg.ob_bare (fun _ => rfl) rfl rfl rfl (fun x w1 => ?_)
      go_simp
      with_reducible rfl
    refine And.intro ?_ ?_
    · refine Reg.ob_bare (fun _ => rfl) rfl rfl rfl (fun x w1 => ?_)
      go_simp
      with_reducible rfl
    refine And.intro ?_ ?_
    · refine Reg.ob_pure (fun _ => rfl) rfl rfl rfl rfl (fun x w1 hF => ?_)
      have cX := hF.cell (lo) hX
      have cY := hF.cell (p) hY
      go_simp
      with_reducible rfl
    refine And.intro ?_ ?_
    · refine Reg.ob_bare (fun _ => rfl) rfl rfl rfl (fun x w1 => ?_)
      go_simp
      with_reducible rfl
    refine And.intro ?_ ?_
    · refine Reg.ob_bare (fun _ => rfl) rfl rfl rfl (fun x w1 => ?_)
      go_simp
      with_reducible rfl
    refine And.intro ?_ ?_
    · refine Reg.ob_bare (fun _ => rfl) rfl rfl rfl (fun x w1 => ?_)
      go_simp
      with_reducible rfl
    refine And.intro ?_ ?_
    · refine Reg.ob_pure (fun _ => rfl) rfl rfl rfl rfl (fun x w1 hF => ?_)
      have cX := hF.cell (lo) hX
      have cY := hF.cell (p) hY
      go_simp
      with_reducible rfl
    refine And.intro ?_ ?_
    · refine Reg.ob_bare (fun _ => rfl) rfl rfl rfl (fun x w1 => ?_)
      go_simp
      with_reducible rfl
    refine And.intro ?_ ?_
    · refine Reg.ob_some (fun _ => rfl) rfl (fun x w1 hF hU K hK => ?_)
      replace hF := hF rfl
      have cX := hF.cell (lo) hX
      have fX := hF.free (lo)
      go_simp
      exact hK undef _ (fun _ h _ => by cases h) trivial (hF.put (lo) (f (p)) hX)
    refine And.intro ?_ ?_
    · refine Reg.ob_bare (fun _ => rfl) rfl rfl rfl (fun x w1 => ?_)
      go_simp
      with_reducible rfl
    refine And.intro ?_ ?_
    · refine Reg.ob_some (fun _ => rfl) rfl (fun x w1 hF hU K hK => ?_)
      obtain ⟨hR, -⟩ := hU
      have hR : Rw B g c N (updf f (lo) (f (p))) w0 w1 := hR
      have cY := hR.cell (p) hY
      have fY := hR.free (p)
      go_simp
      exact hK undef _ (fun _ h _ => by cases h) trivial (hR.put2 hY)
    exact trivial
  case hF =>
    exact hG.go ((Only.refl _ _).drewN 1)
  case hini =>
    exact trivial
  case pres =>
    intro i hi j hj hc x wx wy hF hE hW
    simp only [List.mem_cons, List.mem_nil_iff, or_false] at hi hj
    rcases hi with rfl | rfl <;> rcases hj with rfl | rfl
    all_goals (exfalso; revert hc; decide)
  case fin =>
    rintro x w9 hF hU
    obtain ⟨hQ, -⟩ := hU
    repeat apply Exists.intro
    exact ⟨rfl, rfl, hQ⟩

set_option maxRecDepth 100000 in
set_option maxHeartbeats 600000 in
theorem peq1 (B g c N : Nat) (f : Nat → Nat) (w0 : World) (lo p : Nat) (hX : lo < N) (hY : p < N) (hN : N ≤ 1000)  (u2 u4 u5 u6 u7 u8 u9 u10 u11 u12 u13 u14 u15 u16 u17 u18 u19 u20 u21 u22 u23 u24 u25 u26 u27 u28 u29 u30 u31 u32 u33 u34 u35 u36 u37 u38 u39 u40 u41 u42 u43 u44 u45 u46 u47 u48 u49 u50 u51 u52 u53 u54 u55 u56 u57 u58 u59 u60 u61 u62 u63 u64 u65 u66 u67 u68 u69 u70 u71 u72 u73 u74 u75 u76 u77 u78 u79 u80 u81 u82 u83 : Value) (Q : Exit → Act → World → Prop) (w : World) (hG : Rw B g c N f w0 w)
    (hend : ∀ (y11 y12 y13 y14 y15 y16 y17 y18 y19 y20 y21 y22 y23 y24 : Value) (w' : World), (Rw B g c N (swp f (lo) (p)) w0 w') → Q .normal ⟨(List.toArray (.slice (some ⟨g, 0, none⟩) N c :: .int .i64 (lo : Int) :: u2 :: .int .i64 (p : Int) :: u4 :: u5 :: u6 :: u7 :: u8 :: u9 :: u10 :: y11 :: y12 :: y13 :: y14 :: y15 :: y16 :: y17 :: y18 :: y19 :: y20 :: y21 :: y22 :: y23 :: y24 :: u25 :: u26 :: u27 :: u28 :: u29 :: u30 :: u31 :: u32 :: u33 :: u34 :: u35 :: u36 :: u37 :: u38 :: u39 :: u40 :: u41 :: u42 :: u43 :: u44 :: u45 :: u46 :: u47 :: u48 :: u49 :: u50 :: u51 :: u52 :: u53 :: u54 :: u55 :: u56 :: u57 :: u58 :: u59 :: u60 :: u61 :: u62 :: u63 :: u64 :: u65 :: u66 :: u67 :: u68 :: u69 :: u70 :: u71 :: u72 :: u73 :: u74 :: u75 :: u76 :: u77 :: u78 :: u79 :: u80 :: u81 :: u82 :: u83 :: [])), []⟩ w') :
    Code.wp Try.prog peq1_code Q ⟨(List.toArray (.slice (some ⟨g, 0, none⟩) N c :: .int .i64 (lo : Int) :: u2 :: .int .i64 (p : Int) :: u4 :: u5 :: u6 :: u7 :: u8 :: u9 :: u10 :: u11 :: u12 :: u13 :: u14 :: u15 :: u16 :: u17 :: u18 :: u19 :: u20 :: u21 :: u22 :: u23 :: u24 :: u25 :: u26 :: u27 :: u28 :: u29 :: u30 :: u31 :: u32 :: u33 :: u34 :: u35 :: u36 :: u37 :: u38 :: u39 :: u40 :: u41 :: u42 :: u43 :: u44 :: u45 :: u46 :: u47 :: u48 :: u49 :: u50 :: u51 :: u52 :: u53 :: u54 :: u55 :: u56 :: u57 :: u58 :: u59 :: u60 :: u61 :: u62 :: u63 :: u64 :: u65 :: u66 :: u67 :: u68 :: u69 :: u70 :: u71 :: u72 :: u73 :: u74 :: u75 :: u76 :: u77 :: u78 :: u79 :: u80 :: u81 :: u82 :: u83 :: [])), []⟩ w := by
  refine wp_mono (peq1_in B g c N f w0 lo p hX hY hN _ _ _ _ _ _ _ _ _ _ _ _ _ _ _ _ _ _ _ _ _ _ _ _ _ _ _ _ _ _ _ _ _ _ _ _ _ _ _ _ _ _ _ _ _ _ _ _ _ _ _ _ _ _ _ _ _ _ _ _ _ _ _ _ _ _ _ _ _ _ _ _ _ _ _ _ _ _ _ _ _ w hG) ?_
  rintro e a w' h
  obtain ⟨y11, h⟩ := h
  obtain ⟨y12, h⟩ := h
  obtain ⟨y13, h⟩ := h
  obtain ⟨y14, h⟩ := h
  obtain ⟨y15, h⟩ := h
  obtain ⟨y16, h⟩ := h
  obtain ⟨y17, h⟩ := h
  obtain ⟨y18, h⟩ := h
  obtain ⟨y19, h⟩ := h
  obtain ⟨y20, h⟩ := h
  obtain ⟨y21, h⟩ := h
  obtain ⟨y22, h⟩ := h
  obtain ⟨y23, h⟩ := h
  obtain ⟨y24, h⟩ := h
  obtain ⟨h, rfl, hq⟩ := h
  subst h
  exact hend y11 y12 y13 y14 y15 y16 y17 y18 y19 y20 y21 y22 y23 y24 w' hq
def peq3_A : List (List Nat) := ([] :: [] :: [0, 1] :: [2, 0, 1] :: [3, 2, 0, 1] :: [3, 2, 0, 1] :: [4, 5, 3, 2, 0, 1] :: [6, 3, 4, 5, 2, 0, 1] :: [3, 2, 0, 1] :: [3, 2, 0, 1] :: [8, 9, 3, 2, 0, 1] :: [10, 3, 8, 9, 2, 0, 1] :: (7 :: 11 :: 3 :: 6 :: 4 :: 5 :: 2 :: 0 :: 1 :: 10 :: 8 :: 9 :: []) :: (12 :: 3 :: 7 :: 11 :: 6 :: 4 :: 5 :: 2 :: 0 :: 1 :: 10 :: 8 :: 9 :: []) :: (3 :: 13 :: 2 :: 0 :: 1 :: 12 :: 7 :: 11 :: 6 :: 4 :: 5 :: 10 :: 8 :: 9 :: []) :: [])
def peq3_kill : List (List Nat) := ([] :: [] :: [] :: [] :: [] :: [] :: [] :: [] :: [] :: [] :: [] :: [] :: [] :: [] :: [] :: [])
def peq3_uses : List (List Nat) := ([] :: [] :: [] :: [] :: [] :: [] :: [] :: [] :: [] :: [] :: [] :: [] :: [] :: [] :: [] :: [])
noncomputable def peq3_code : Code := ((Try.f73.body.bind (codeRegion 3)).getD .skip)
set_option maxRecDepth 100000 in
set_option maxHeartbeats 600000 in
theorem peq3_in (B g c N : Nat) (f : Nat → Nat) (w0 : World) (lo i j : Nat) (hX : lo < N) (hY : i < N) (hN : N ≤ 1000) (hg : i ≤ j)  (u2 u3 u4 u5 u6 u7 u8 u11 u12 u13 u14 u15 u16 u17 u18 u19 u20 u21 u22 u23 u24 u25 u26 u27 u28 u29 u30 u31 u32 u33 u34 u35 u36 u37 u38 u39 u40 u41 u42 u43 u44 u45 u46 u47 u48 u49 u50 u51 u52 u53 u54 u55 u56 u57 u58 u59 u60 u61 u62 u63 u64 u65 u66 u67 u68 u69 u70 u71 u72 u73 u74 u75 u76 u77 u78 u79 u80 u81 u82 u83 : Value) (w : World) (hG : Rw B g c N f w0 w) :
    Code.wp Try.prog peq3_code (fun e a w' => ∃ y29 y30 y31 y32 y33 y34 y35 y36 y37 y38 y39 y40 y41 y42 : Value, a = ⟨(List.toArray (.slice (some ⟨g, 0, none⟩) N c :: .int .i64 (lo : Int) :: u2 :: u3 :: u4 :: u5 :: u6 :: u7 :: u8 :: .int .i64 (i : Int) :: .int .i64 (j : Int) :: u11 :: u12 :: u13 :: u14 :: u15 :: u16 :: u17 :: u18 :: u19 :: u20 :: u21 :: u22 :: u23 :: u24 :: u25 :: u26 :: u27 :: u28 :: y29 :: y30 :: y31 :: y32 :: y33 :: y34 :: y35 :: y36 :: y37 :: y38 :: y39 :: y40 :: y41 :: y42 :: (.bool (!(decide (f (lo) < f (i))))) :: u44 :: u45 :: u46 :: u47 :: u48 :: u49 :: u50 :: u51 :: u52 :: u53 :: u54 :: u55 :: u56 :: u57 :: u58 :: u59 :: u60 :: u61 :: u62 :: u63 :: u64 :: u65 :: u66 :: u67 :: u68 :: u69 :: u70 :: u71 :: u72 :: u73 :: u74 :: u75 :: u76 :: u77 :: u78 :: u79 :: u80 :: u81 :: u82 :: u83 :: [])), []⟩ ∧ e = .normal ∧ (Rw B g c N f w0 w')) ⟨(List.toArray (.slice (some ⟨g, 0, none⟩) N c :: .int .i64 (lo : Int) :: u2 :: u3 :: u4 :: u5 :: u6 :: u7 :: u8 :: .int .i64 (i : Int) :: .int .i64 (j : Int) :: u11 :: u12 :: u13 :: u14 :: u15 :: u16 :: u17 :: u18 :: u19 :: u20 :: u21 :: u22 :: u23 :: u24 :: u25 :: u26 :: u27 :: u28 :: u29 :: u30 :: u31 :: u32 :: u33 :: u34 :: u35 :: u36 :: u37 :: u38 :: u39 :: u40 :: u41 :: u42 :: u43 :: u44 :: u45 :: u46 :: u47 :: u48 :: u49 :: u50 :: u51 :: u52 :: u53 :: u54 :: u55 :: u56 :: u57 :: u58 :: u59 :: u60 :: u61 :: u62 :: u63 :: u64 :: u65 :: u66 :: u67 :: u68 :: u69 :: u70 :: u71 :: u72 :: u73 :: u74 :: u75 :: u76 :: u77 :: u78 :: u79 :: u80 :: u81 :: u82 :: u83 :: [])), []⟩ w := by
  conv => arg 2; whnf
  have hI0 : (lo : Int) < (N : Int) := by omega
  have hP0 : (0 : Int) ≤ (lo : Int) := by omega
  have hV0 : IntKind.i64.wrap ((lo : Int)) = (lo : Int) := by rw [IntKind.wrap_i64]; omega
  have hI1 : (i : Int) < (N : Int) := by omega
  have hP1 : (0 : Int) ≤ (i : Int) := by omega
  have hV1 : IntKind.i64.wrap ((i : Int)) = (i : Int) := by rw [IntKind.wrap_i64]; omega
  refine wp_region_posts peq3_A [] [] peq3_kill peq3_uses [] [] [] []
      (some ?v0 :: some ?v1 :: some (.bool true) :: some (.bool true) :: some ?v4 :: some ?v5 :: some ?v6 :: some ?v7 :: some ?v8 :: some ?v9 :: some ?v10 :: some ?v11 :: some ((.bool (decide (f (lo) < f (i))))) :: some ?v13 :: some ?v14 :: [])
      ?T (fun wx => Rw B g c N f w0 wx) ?W ?E (by kernel_rfl) (by kernel_rfl) (by kernel_rfl) (fun x => ?hT) ?hF ?hini (Reg.all_ops ?runs) ?pres ?fin
  case W => exact fun j x w' => True
  case E => exact fun i wx wy => True
  case hT =>
    simp only [Reg.fillV, Act.put, List.setIfInBounds_toArray, List.set_cons_zero, List.set_cons_succ]
    rfl
  case runs =>
    refine And.intro ?_ ?_
    · refine Reg.ob_pure (fun _ => rfl) rfl rfl rfl rfl (fun x w1 hF => ?_)
      have cX := hF.cell (lo) hX
      have cY := hF.cell (i) hY
      go_simp
      with_reducible rfl
    refine And.intro ?_ ?_
    · refine Reg.ob_pure (fun _ => rfl) rfl rfl rfl rfl (fun x w1 hF => ?_)
      have cX := hF.cell (lo) hX
      have cY := hF.cell (i) hY
      go_simp
      with_reducible rfl
    refine And.intro ?_ ?_
    · refine Reg.ob_pure (fun _ => rfl) rfl rfl rfl rfl (fun x w1 hF => ?_)
      go_simp <;> omega
    refine And.intro ?_ ?_
    · refine Reg.ob_pure (fun _ => rfl) rfl rfl rfl rfl (fun x w1 hF => ?_)
      go_simp
    refine And.intro ?_ ?_
    · refine Reg.ob_pure (fun _ => rfl) rfl rfl rfl rfl (fun x w1 hF => ?_)
      have cX := hF.cell (lo) hX
      have cY := hF.cell (i) hY
      go_simp
      with_reducible rfl
    refine And.intro ?_ ?_
    · refine Reg.ob_pure (fun _ => rfl) rfl rfl rfl rfl (fun x w1 hF => ?_)
      have cX := hF.cell (lo) hX
      have cY := hF.cell (i) hY
      go_simp
      with_reducible rfl
    refine And.intro ?_ ?_
    · refine Reg.ob_pure (fun _ => rfl) rfl rfl rfl rfl (fun x w1 hF => ?_)
      have cX := hF.cell (lo) hX
      have cY := hF.cell (i) hY
      go_simp
      with_reducible rfl
    refine And.intro ?_ ?_
    · refine Reg.ob_pure (fun _ => rfl) rfl rfl rfl rfl (fun x w1 hF => ?_)
      have cX := hF.cell (lo) hX
      have cY := hF.cell (i) hY
      go_simp
      with_reducible rfl
    refine And.intro ?_ ?_
    · refine Reg.ob_pure (fun _ => rfl) rfl rfl rfl rfl (fun x w1 hF => ?_)
      have cX := hF.cell (lo) hX
      have cY := hF.cell (i) hY
      go_simp
      with_reducible rfl
    refine And.intro ?_ ?_
    · refine Reg.ob_pure (fun _ => rfl) rfl rfl rfl rfl (fun x w1 hF => ?_)
      have cX := hF.cell (lo) hX
      have cY := hF.cell (i) hY
      go_simp
      with_reducible rfl
    refine And.intro ?_ ?_
    · refine Reg.ob_pure (fun _ => rfl) rfl rfl rfl rfl (fun x w1 hF => ?_)
      have cX := hF.cell (lo) hX
      have cY := hF.cell (i) hY
      go_simp
      with_reducible rfl
    refine And.intro ?_ ?_
    · refine Reg.ob_pure (fun _ => rfl) rfl rfl rfl rfl (fun x w1 hF => ?_)
      have cX := hF.cell (lo) hX
      have cY := hF.cell (i) hY
      go_simp
      with_reducible rfl
    refine And.intro ?_ ?_
    · refine Reg.ob_known (fun _ => rfl) rfl rfl (fun x w1 hF hU K hK => ?_)
      replace hF := hF rfl
      go_simp
      refine (less_is (f (lo)) (f (i)) w1).mono ?_
      rintro e w5 ⟨rfl, rfl⟩
      exact hK _ (fun _ _ _ => hF) rfl
    refine And.intro ?_ ?_
    · refine Reg.ob_pure (fun _ => rfl) rfl rfl rfl rfl (fun x w1 hF => ?_)
      have cX := hF.cell (lo) hX
      have cY := hF.cell (i) hY
      go_simp
      with_reducible rfl
    refine And.intro ?_ ?_
    · refine Reg.ob_pure (fun _ => rfl) rfl rfl rfl rfl (fun x w1 hF => ?_)
      have cX := hF.cell (lo) hX
      have cY := hF.cell (i) hY
      go_simp
      with_reducible rfl
    exact trivial
  case hF =>
    exact hG.go ((Only.refl _ _).drewN 1)
  case hini =>
    exact trivial
  case pres =>
    intro i hi
    simp at hi
  case fin =>
    rintro x w9 hF hU
    repeat apply Exists.intro
    exact ⟨rfl, rfl, hF rfl⟩

set_option maxRecDepth 100000 in
set_option maxHeartbeats 600000 in
theorem peq3 (B g c N : Nat) (f : Nat → Nat) (w0 : World) (lo i j : Nat) (hX : lo < N) (hY : i < N) (hN : N ≤ 1000) (hg : i ≤ j)  (u2 u3 u4 u5 u6 u7 u8 u11 u12 u13 u14 u15 u16 u17 u18 u19 u20 u21 u22 u23 u24 u25 u26 u27 u28 u29 u30 u31 u32 u33 u34 u35 u36 u37 u38 u39 u40 u41 u42 u43 u44 u45 u46 u47 u48 u49 u50 u51 u52 u53 u54 u55 u56 u57 u58 u59 u60 u61 u62 u63 u64 u65 u66 u67 u68 u69 u70 u71 u72 u73 u74 u75 u76 u77 u78 u79 u80 u81 u82 u83 : Value) (Q : Exit → Act → World → Prop) (w : World) (hG : Rw B g c N f w0 w)
    (hend : ∀ (y29 y30 y31 y32 y33 y34 y35 y36 y37 y38 y39 y40 y41 y42 : Value) (w' : World), (Rw B g c N f w0 w') → Q .normal ⟨(List.toArray (.slice (some ⟨g, 0, none⟩) N c :: .int .i64 (lo : Int) :: u2 :: u3 :: u4 :: u5 :: u6 :: u7 :: u8 :: .int .i64 (i : Int) :: .int .i64 (j : Int) :: u11 :: u12 :: u13 :: u14 :: u15 :: u16 :: u17 :: u18 :: u19 :: u20 :: u21 :: u22 :: u23 :: u24 :: u25 :: u26 :: u27 :: u28 :: y29 :: y30 :: y31 :: y32 :: y33 :: y34 :: y35 :: y36 :: y37 :: y38 :: y39 :: y40 :: y41 :: y42 :: (.bool (!(decide (f (lo) < f (i))))) :: u44 :: u45 :: u46 :: u47 :: u48 :: u49 :: u50 :: u51 :: u52 :: u53 :: u54 :: u55 :: u56 :: u57 :: u58 :: u59 :: u60 :: u61 :: u62 :: u63 :: u64 :: u65 :: u66 :: u67 :: u68 :: u69 :: u70 :: u71 :: u72 :: u73 :: u74 :: u75 :: u76 :: u77 :: u78 :: u79 :: u80 :: u81 :: u82 :: u83 :: [])), []⟩ w') :
    Code.wp Try.prog peq3_code Q ⟨(List.toArray (.slice (some ⟨g, 0, none⟩) N c :: .int .i64 (lo : Int) :: u2 :: u3 :: u4 :: u5 :: u6 :: u7 :: u8 :: .int .i64 (i : Int) :: .int .i64 (j : Int) :: u11 :: u12 :: u13 :: u14 :: u15 :: u16 :: u17 :: u18 :: u19 :: u20 :: u21 :: u22 :: u23 :: u24 :: u25 :: u26 :: u27 :: u28 :: u29 :: u30 :: u31 :: u32 :: u33 :: u34 :: u35 :: u36 :: u37 :: u38 :: u39 :: u40 :: u41 :: u42 :: u43 :: u44 :: u45 :: u46 :: u47 :: u48 :: u49 :: u50 :: u51 :: u52 :: u53 :: u54 :: u55 :: u56 :: u57 :: u58 :: u59 :: u60 :: u61 :: u62 :: u63 :: u64 :: u65 :: u66 :: u67 :: u68 :: u69 :: u70 :: u71 :: u72 :: u73 :: u74 :: u75 :: u76 :: u77 :: u78 :: u79 :: u80 :: u81 :: u82 :: u83 :: [])), []⟩ w := by
  refine wp_mono (peq3_in B g c N f w0 lo i j hX hY hN hg _ _ _ _ _ _ _ _ _ _ _ _ _ _ _ _ _ _ _ _ _ _ _ _ _ _ _ _ _ _ _ _ _ _ _ _ _ _ _ _ _ _ _ _ _ _ _ _ _ _ _ _ _ _ _ _ _ _ _ _ _ _ _ _ _ _ _ _ _ _ _ _ _ _ _ _ _ _ _ _ w hG) ?_
  rintro e a w' h
  obtain ⟨y29, h⟩ := h
  obtain ⟨y30, h⟩ := h
  obtain ⟨y31, h⟩ := h
  obtain ⟨y32, h⟩ := h
  obtain ⟨y33, h⟩ := h
  obtain ⟨y34, h⟩ := h
  obtain ⟨y35, h⟩ := h
  obtain ⟨y36, h⟩ := h
  obtain ⟨y37, h⟩ := h
  obtain ⟨y38, h⟩ := h
  obtain ⟨y39, h⟩ := h
  obtain ⟨y40, h⟩ := h
  obtain ⟨y41, h⟩ := h
  obtain ⟨y42, h⟩ := h
  obtain ⟨h, rfl, hq⟩ := h
  subst h
  exact hend y29 y30 y31 y32 y33 y34 y35 y36 y37 y38 y39 y40 y41 y42 w' hq
def peq3f_A : List (List Nat) := ([] :: [] :: [0, 1] :: [2, 0, 1] :: [3, 2, 0, 1] :: [3, 2, 0, 1] :: [4, 5, 3, 2, 0, 1] :: [6, 3, 4, 5, 2, 0, 1] :: [3, 2, 0, 1] :: [3, 2, 0, 1] :: [8, 9, 3, 2, 0, 1] :: [10, 3, 8, 9, 2, 0, 1] :: (7 :: 11 :: 3 :: 6 :: 4 :: 5 :: 2 :: 0 :: 1 :: 10 :: 8 :: 9 :: []) :: (12 :: 3 :: 7 :: 11 :: 6 :: 4 :: 5 :: 2 :: 0 :: 1 :: 10 :: 8 :: 9 :: []) :: (3 :: 13 :: 2 :: 0 :: 1 :: 12 :: 7 :: 11 :: 6 :: 4 :: 5 :: 10 :: 8 :: 9 :: []) :: [])
def peq3f_kill : List (List Nat) := ([] :: [] :: [] :: [] :: [] :: [] :: [] :: [] :: [] :: [] :: [] :: [] :: [] :: [] :: [] :: [])
def peq3f_uses : List (List Nat) := ([] :: [] :: [] :: [] :: [] :: [] :: [] :: [] :: [] :: [] :: [] :: [] :: [] :: [] :: [] :: [])
noncomputable def peq3f_code : Code := ((Try.f73.body.bind (codeRegion 3)).getD .skip)
set_option maxRecDepth 100000 in
set_option maxHeartbeats 600000 in
theorem peq3f_in (B g c N : Nat) (f : Nat → Nat) (w0 : World) (lo i j : Nat) (hg : ¬ i ≤ j)  (u2 u3 u4 u5 u6 u7 u8 u11 u12 u13 u14 u15 u16 u17 u18 u19 u20 u21 u22 u23 u24 u25 u26 u27 u28 u29 u30 u31 u32 u33 u34 u35 u36 u37 u38 u39 u40 u41 u42 u43 u44 u45 u46 u47 u48 u49 u50 u51 u52 u53 u54 u55 u56 u57 u58 u59 u60 u61 u62 u63 u64 u65 u66 u67 u68 u69 u70 u71 u72 u73 u74 u75 u76 u77 u78 u79 u80 u81 u82 u83 : Value) (w : World) (hG : Rw B g c N f w0 w) :
    Code.wp Try.prog peq3f_code (fun e a w' => ∃ y29 y30 y31 y32 y33 y34 y35 y36 y37 y38 y39 y40 y41 y42 : Value, a = ⟨(List.toArray (.slice (some ⟨g, 0, none⟩) N c :: .int .i64 (lo : Int) :: u2 :: u3 :: u4 :: u5 :: u6 :: u7 :: u8 :: .int .i64 (i : Int) :: .int .i64 (j : Int) :: u11 :: u12 :: u13 :: u14 :: u15 :: u16 :: u17 :: u18 :: u19 :: u20 :: u21 :: u22 :: u23 :: u24 :: u25 :: u26 :: u27 :: u28 :: y29 :: y30 :: y31 :: y32 :: y33 :: y34 :: y35 :: y36 :: y37 :: y38 :: y39 :: y40 :: y41 :: y42 :: (.bool false) :: u44 :: u45 :: u46 :: u47 :: u48 :: u49 :: u50 :: u51 :: u52 :: u53 :: u54 :: u55 :: u56 :: u57 :: u58 :: u59 :: u60 :: u61 :: u62 :: u63 :: u64 :: u65 :: u66 :: u67 :: u68 :: u69 :: u70 :: u71 :: u72 :: u73 :: u74 :: u75 :: u76 :: u77 :: u78 :: u79 :: u80 :: u81 :: u82 :: u83 :: [])), []⟩ ∧ e = .normal ∧ (Rw B g c N f w0 w')) ⟨(List.toArray (.slice (some ⟨g, 0, none⟩) N c :: .int .i64 (lo : Int) :: u2 :: u3 :: u4 :: u5 :: u6 :: u7 :: u8 :: .int .i64 (i : Int) :: .int .i64 (j : Int) :: u11 :: u12 :: u13 :: u14 :: u15 :: u16 :: u17 :: u18 :: u19 :: u20 :: u21 :: u22 :: u23 :: u24 :: u25 :: u26 :: u27 :: u28 :: u29 :: u30 :: u31 :: u32 :: u33 :: u34 :: u35 :: u36 :: u37 :: u38 :: u39 :: u40 :: u41 :: u42 :: u43 :: u44 :: u45 :: u46 :: u47 :: u48 :: u49 :: u50 :: u51 :: u52 :: u53 :: u54 :: u55 :: u56 :: u57 :: u58 :: u59 :: u60 :: u61 :: u62 :: u63 :: u64 :: u65 :: u66 :: u67 :: u68 :: u69 :: u70 :: u71 :: u72 :: u73 :: u74 :: u75 :: u76 :: u77 :: u78 :: u79 :: u80 :: u81 :: u82 :: u83 :: [])), []⟩ w := by
  conv => arg 2; whnf
  refine wp_region_posts peq3f_A [] [] peq3f_kill peq3f_uses [] [] [] []
      (some ?v0 :: some ?v1 :: some (.bool false) :: some (.bool false) :: some undef :: some undef :: some undef :: some undef :: some undef :: some undef :: some undef :: some undef :: some undef :: some undef :: some ?v14 :: [])
      ?T (fun wx => Rw B g c N f w0 wx) ?W ?E (by kernel_rfl) (by kernel_rfl) (by kernel_rfl) (fun x => ?hT) ?hF ?hini (Reg.all_ops ?runs) ?pres ?fin
  case W => exact fun j x w' => True
  case E => exact fun i wx wy => True
  case hT =>
    simp only [Reg.fillV, Act.put, List.setIfInBounds_toArray, List.set_cons_zero, List.set_cons_succ]
    rfl
  case runs =>
    refine And.intro ?_ ?_
    · refine Reg.ob_pure (fun _ => rfl) rfl rfl rfl rfl (fun x w1 hF => ?_)
      have _h := hF
      go_simp
      with_reducible rfl
    refine And.intro ?_ ?_
    · refine Reg.ob_pure (fun _ => rfl) rfl rfl rfl rfl (fun x w1 hF => ?_)
      have _h := hF
      go_simp
      with_reducible rfl
    refine And.intro ?_ ?_
    · refine Reg.ob_pure (fun _ => rfl) rfl rfl rfl rfl (fun x w1 hF => ?_)
      go_simp <;> omega
    refine And.intro ?_ ?_
    · refine Reg.ob_pure (fun _ => rfl) rfl rfl rfl rfl (fun x w1 hF => ?_)
      go_simp
    refine And.intro ?_ ?_
    · exact Reg.ob_skip (fun _ => rfl) rfl rfl rfl
    refine And.intro ?_ ?_
    · exact Reg.ob_skip (fun _ => rfl) rfl rfl rfl
    refine And.intro ?_ ?_
    · exact Reg.ob_skip (fun _ => rfl) rfl rfl rfl
    refine And.intro ?_ ?_
    · exact Reg.ob_skip (fun _ => rfl) rfl rfl rfl
    refine And.intro ?_ ?_
    · exact Reg.ob_skip (fun _ => rfl) rfl rfl rfl
    refine And.intro ?_ ?_
    · exact Reg.ob_skip (fun _ => rfl) rfl rfl rfl
    refine And.intro ?_ ?_
    · exact Reg.ob_skip (fun _ => rfl) rfl rfl rfl
    refine And.intro ?_ ?_
    · exact Reg.ob_skip (fun _ => rfl) rfl rfl rfl
    refine And.intro ?_ ?_
    · exact Reg.ob_skip (fun _ => rfl) rfl rfl rfl
    refine And.intro ?_ ?_
    · exact Reg.ob_skip (fun _ => rfl) rfl rfl rfl
    refine And.intro ?_ ?_
    · refine Reg.ob_pure (fun _ => rfl) rfl rfl rfl rfl (fun x w1 hF => ?_)
      have _h := hF
      go_simp
      with_reducible rfl
    exact trivial
  case hF =>
    exact hG.go ((Only.refl _ _).drewN 1)
  case hini =>
    exact trivial
  case pres =>
    intro i hi
    simp at hi
  case fin =>
    rintro x w9 hF hU
    repeat apply Exists.intro
    exact ⟨rfl, rfl, hF rfl⟩

set_option maxRecDepth 100000 in
set_option maxHeartbeats 600000 in
theorem peq3f (B g c N : Nat) (f : Nat → Nat) (w0 : World) (lo i j : Nat) (hg : ¬ i ≤ j)  (u2 u3 u4 u5 u6 u7 u8 u11 u12 u13 u14 u15 u16 u17 u18 u19 u20 u21 u22 u23 u24 u25 u26 u27 u28 u29 u30 u31 u32 u33 u34 u35 u36 u37 u38 u39 u40 u41 u42 u43 u44 u45 u46 u47 u48 u49 u50 u51 u52 u53 u54 u55 u56 u57 u58 u59 u60 u61 u62 u63 u64 u65 u66 u67 u68 u69 u70 u71 u72 u73 u74 u75 u76 u77 u78 u79 u80 u81 u82 u83 : Value) (Q : Exit → Act → World → Prop) (w : World) (hG : Rw B g c N f w0 w)
    (hend : ∀ (y29 y30 y31 y32 y33 y34 y35 y36 y37 y38 y39 y40 y41 y42 : Value) (w' : World), (Rw B g c N f w0 w') → Q .normal ⟨(List.toArray (.slice (some ⟨g, 0, none⟩) N c :: .int .i64 (lo : Int) :: u2 :: u3 :: u4 :: u5 :: u6 :: u7 :: u8 :: .int .i64 (i : Int) :: .int .i64 (j : Int) :: u11 :: u12 :: u13 :: u14 :: u15 :: u16 :: u17 :: u18 :: u19 :: u20 :: u21 :: u22 :: u23 :: u24 :: u25 :: u26 :: u27 :: u28 :: y29 :: y30 :: y31 :: y32 :: y33 :: y34 :: y35 :: y36 :: y37 :: y38 :: y39 :: y40 :: y41 :: y42 :: (.bool false) :: u44 :: u45 :: u46 :: u47 :: u48 :: u49 :: u50 :: u51 :: u52 :: u53 :: u54 :: u55 :: u56 :: u57 :: u58 :: u59 :: u60 :: u61 :: u62 :: u63 :: u64 :: u65 :: u66 :: u67 :: u68 :: u69 :: u70 :: u71 :: u72 :: u73 :: u74 :: u75 :: u76 :: u77 :: u78 :: u79 :: u80 :: u81 :: u82 :: u83 :: [])), []⟩ w') :
    Code.wp Try.prog peq3f_code Q ⟨(List.toArray (.slice (some ⟨g, 0, none⟩) N c :: .int .i64 (lo : Int) :: u2 :: u3 :: u4 :: u5 :: u6 :: u7 :: u8 :: .int .i64 (i : Int) :: .int .i64 (j : Int) :: u11 :: u12 :: u13 :: u14 :: u15 :: u16 :: u17 :: u18 :: u19 :: u20 :: u21 :: u22 :: u23 :: u24 :: u25 :: u26 :: u27 :: u28 :: u29 :: u30 :: u31 :: u32 :: u33 :: u34 :: u35 :: u36 :: u37 :: u38 :: u39 :: u40 :: u41 :: u42 :: u43 :: u44 :: u45 :: u46 :: u47 :: u48 :: u49 :: u50 :: u51 :: u52 :: u53 :: u54 :: u55 :: u56 :: u57 :: u58 :: u59 :: u60 :: u61 :: u62 :: u63 :: u64 :: u65 :: u66 :: u67 :: u68 :: u69 :: u70 :: u71 :: u72 :: u73 :: u74 :: u75 :: u76 :: u77 :: u78 :: u79 :: u80 :: u81 :: u82 :: u83 :: [])), []⟩ w := by
  refine wp_mono (peq3f_in B g c N f w0 lo i j hg _ _ _ _ _ _ _ _ _ _ _ _ _ _ _ _ _ _ _ _ _ _ _ _ _ _ _ _ _ _ _ _ _ _ _ _ _ _ _ _ _ _ _ _ _ _ _ _ _ _ _ _ _ _ _ _ _ _ _ _ _ _ _ _ _ _ _ _ _ _ _ _ _ _ _ _ _ _ _ _ w hG) ?_
  rintro e a w' h
  obtain ⟨y29, h⟩ := h
  obtain ⟨y30, h⟩ := h
  obtain ⟨y31, h⟩ := h
  obtain ⟨y32, h⟩ := h
  obtain ⟨y33, h⟩ := h
  obtain ⟨y34, h⟩ := h
  obtain ⟨y35, h⟩ := h
  obtain ⟨y36, h⟩ := h
  obtain ⟨y37, h⟩ := h
  obtain ⟨y38, h⟩ := h
  obtain ⟨y39, h⟩ := h
  obtain ⟨y40, h⟩ := h
  obtain ⟨y41, h⟩ := h
  obtain ⟨y42, h⟩ := h
  obtain ⟨h, rfl, hq⟩ := h
  subst h
  exact hend y29 y30 y31 y32 y33 y34 y35 y36 y37 y38 y39 y40 y41 y42 w' hq
set_option maxRecDepth 100000 in
set_option maxHeartbeats 600000 in
theorem peq3c (B g c N : Nat) (f : Nat → Nat) (w0 : World) (lo i j : Nat) (hX : i ≤ j → lo < N) (hY : i ≤ j → i < N) (hN : N ≤ 1000)  (u2 u3 u4 u5 u6 u7 u8 u11 u12 u13 u14 u15 u16 u17 u18 u19 u20 u21 u22 u23 u24 u25 u26 u27 u28 u29 u30 u31 u32 u33 u34 u35 u36 u37 u38 u39 u40 u41 u42 u43 u44 u45 u46 u47 u48 u49 u50 u51 u52 u53 u54 u55 u56 u57 u58 u59 u60 u61 u62 u63 u64 u65 u66 u67 u68 u69 u70 u71 u72 u73 u74 u75 u76 u77 u78 u79 u80 u81 u82 u83 : Value) (Q : Exit → Act → World → Prop) (w : World) (hG : Rw B g c N f w0 w)
    (hend : ∀ (y29 y30 y31 y32 y33 y34 y35 y36 y37 y38 y39 y40 y41 y42 : Value) (w' : World), (Rw B g c N f w0 w') → Q .normal ⟨(List.toArray (.slice (some ⟨g, 0, none⟩) N c :: .int .i64 (lo : Int) :: u2 :: u3 :: u4 :: u5 :: u6 :: u7 :: u8 :: .int .i64 (i : Int) :: .int .i64 (j : Int) :: u11 :: u12 :: u13 :: u14 :: u15 :: u16 :: u17 :: u18 :: u19 :: u20 :: u21 :: u22 :: u23 :: u24 :: u25 :: u26 :: u27 :: u28 :: y29 :: y30 :: y31 :: y32 :: y33 :: y34 :: y35 :: y36 :: y37 :: y38 :: y39 :: y40 :: y41 :: y42 :: (.bool (decide (i ≤ j) && (!(decide (f (lo) < f (i)))))) :: u44 :: u45 :: u46 :: u47 :: u48 :: u49 :: u50 :: u51 :: u52 :: u53 :: u54 :: u55 :: u56 :: u57 :: u58 :: u59 :: u60 :: u61 :: u62 :: u63 :: u64 :: u65 :: u66 :: u67 :: u68 :: u69 :: u70 :: u71 :: u72 :: u73 :: u74 :: u75 :: u76 :: u77 :: u78 :: u79 :: u80 :: u81 :: u82 :: u83 :: [])), []⟩ w') :
    Code.wp Try.prog peq3_code Q ⟨(List.toArray (.slice (some ⟨g, 0, none⟩) N c :: .int .i64 (lo : Int) :: u2 :: u3 :: u4 :: u5 :: u6 :: u7 :: u8 :: .int .i64 (i : Int) :: .int .i64 (j : Int) :: u11 :: u12 :: u13 :: u14 :: u15 :: u16 :: u17 :: u18 :: u19 :: u20 :: u21 :: u22 :: u23 :: u24 :: u25 :: u26 :: u27 :: u28 :: u29 :: u30 :: u31 :: u32 :: u33 :: u34 :: u35 :: u36 :: u37 :: u38 :: u39 :: u40 :: u41 :: u42 :: u43 :: u44 :: u45 :: u46 :: u47 :: u48 :: u49 :: u50 :: u51 :: u52 :: u53 :: u54 :: u55 :: u56 :: u57 :: u58 :: u59 :: u60 :: u61 :: u62 :: u63 :: u64 :: u65 :: u66 :: u67 :: u68 :: u69 :: u70 :: u71 :: u72 :: u73 :: u74 :: u75 :: u76 :: u77 :: u78 :: u79 :: u80 :: u81 :: u82 :: u83 :: [])), []⟩ w := by
  by_cases hg : i ≤ j
  · rw [decide_eq_true hg] at hend
    simp only [Bool.true_and] at hend
    exact peq3 B g c N f w0 lo i j (hX hg) (hY hg) hN hg u2 u3 u4 u5 u6 u7 u8 u11 u12 u13 u14 u15 u16 u17 u18 u19 u20 u21 u22 u23 u24 u25 u26 u27 u28 u29 u30 u31 u32 u33 u34 u35 u36 u37 u38 u39 u40 u41 u42 u43 u44 u45 u46 u47 u48 u49 u50 u51 u52 u53 u54 u55 u56 u57 u58 u59 u60 u61 u62 u63 u64 u65 u66 u67 u68 u69 u70 u71 u72 u73 u74 u75 u76 u77 u78 u79 u80 u81 u82 u83 Q w hG hend
  · rw [decide_eq_false hg] at hend
    simp only [Bool.false_and] at hend
    exact peq3f B g c N f w0 lo i j hg u2 u3 u4 u5 u6 u7 u8 u11 u12 u13 u14 u15 u16 u17 u18 u19 u20 u21 u22 u23 u24 u25 u26 u27 u28 u29 u30 u31 u32 u33 u34 u35 u36 u37 u38 u39 u40 u41 u42 u43 u44 u45 u46 u47 u48 u49 u50 u51 u52 u53 u54 u55 u56 u57 u58 u59 u60 u61 u62 u63 u64 u65 u66 u67 u68 u69 u70 u71 u72 u73 u74 u75 u76 u77 u78 u79 u80 u81 u82 u83 Q w hG hend
def peq5_A : List (List Nat) := ([] :: [] :: [0, 1] :: [2, 0, 1] :: [3, 2, 0, 1] :: [3, 2, 0, 1] :: [4, 5, 3, 2, 0, 1] :: [6, 3, 4, 5, 2, 0, 1] :: [3, 2, 0, 1] :: [3, 2, 0, 1] :: [8, 9, 3, 2, 0, 1] :: [10, 3, 8, 9, 2, 0, 1] :: (7 :: 11 :: 3 :: 6 :: 4 :: 5 :: 2 :: 0 :: 1 :: 10 :: 8 :: 9 :: []) :: (3 :: 12 :: 2 :: 0 :: 1 :: 7 :: 11 :: 6 :: 4 :: 5 :: 10 :: 8 :: 9 :: []) :: [])
def peq5_kill : List (List Nat) := ([] :: [] :: [] :: [] :: [] :: [] :: [] :: [] :: [] :: [] :: [] :: [] :: [] :: [] :: [])
def peq5_uses : List (List Nat) := ([] :: [] :: [] :: [] :: [] :: [] :: [] :: [] :: [] :: [] :: [] :: [] :: [] :: [] :: [])
noncomputable def peq5_code : Code := ((Try.f73.body.bind (codeRegion 5)).getD .skip)
set_option maxRecDepth 100000 in
set_option maxHeartbeats 600000 in
theorem peq5_in (B g c N : Nat) (f : Nat → Nat) (w0 : World) (lo i j : Nat) (hX : lo < N) (hY : j < N) (hN : N ≤ 1000) (hg : i ≤ j)  (u2 u3 u4 u5 u6 u7 u8 u11 u12 u13 u14 u15 u16 u17 u18 u19 u20 u21 u22 u23 u24 u25 u26 u27 u28 u29 u30 u31 u32 u33 u34 u35 u36 u37 u38 u39 u40 u41 u42 u43 u44 u45 u46 u47 u48 u49 u50 u51 u52 u53 u54 u55 u56 u57 u58 u59 u60 u61 u62 u63 u64 u65 u66 u67 u68 u69 u70 u71 u72 u73 u74 u75 u76 u77 u78 u79 u80 u81 u82 u83 : Value) (w : World) (hG : Rw B g c N f w0 w) :
    Code.wp Try.prog peq5_code (fun e a w' => ∃ y46 y47 y48 y49 y50 y51 y52 y53 y54 y55 y56 y57 y58 : Value, a = ⟨(List.toArray (.slice (some ⟨g, 0, none⟩) N c :: .int .i64 (lo : Int) :: u2 :: u3 :: u4 :: u5 :: u6 :: u7 :: u8 :: .int .i64 (i : Int) :: .int .i64 (j : Int) :: u11 :: u12 :: u13 :: u14 :: u15 :: u16 :: u17 :: u18 :: u19 :: u20 :: u21 :: u22 :: u23 :: u24 :: u25 :: u26 :: u27 :: u28 :: u29 :: u30 :: u31 :: u32 :: u33 :: u34 :: u35 :: u36 :: u37 :: u38 :: u39 :: u40 :: u41 :: u42 :: u43 :: u44 :: u45 :: y46 :: y47 :: y48 :: y49 :: y50 :: y51 :: y52 :: y53 :: y54 :: y55 :: y56 :: y57 :: y58 :: (.bool (decide (f (lo) < f (j)))) :: u60 :: u61 :: u62 :: u63 :: u64 :: u65 :: u66 :: u67 :: u68 :: u69 :: u70 :: u71 :: u72 :: u73 :: u74 :: u75 :: u76 :: u77 :: u78 :: u79 :: u80 :: u81 :: u82 :: u83 :: [])), []⟩ ∧ e = .normal ∧ (Rw B g c N f w0 w')) ⟨(List.toArray (.slice (some ⟨g, 0, none⟩) N c :: .int .i64 (lo : Int) :: u2 :: u3 :: u4 :: u5 :: u6 :: u7 :: u8 :: .int .i64 (i : Int) :: .int .i64 (j : Int) :: u11 :: u12 :: u13 :: u14 :: u15 :: u16 :: u17 :: u18 :: u19 :: u20 :: u21 :: u22 :: u23 :: u24 :: u25 :: u26 :: u27 :: u28 :: u29 :: u30 :: u31 :: u32 :: u33 :: u34 :: u35 :: u36 :: u37 :: u38 :: u39 :: u40 :: u41 :: u42 :: u43 :: u44 :: u45 :: u46 :: u47 :: u48 :: u49 :: u50 :: u51 :: u52 :: u53 :: u54 :: u55 :: u56 :: u57 :: u58 :: u59 :: u60 :: u61 :: u62 :: u63 :: u64 :: u65 :: u66 :: u67 :: u68 :: u69 :: u70 :: u71 :: u72 :: u73 :: u74 :: u75 :: u76 :: u77 :: u78 :: u79 :: u80 :: u81 :: u82 :: u83 :: [])), []⟩ w := by
  conv => arg 2; whnf
  have hI0 : (lo : Int) < (N : Int) := by omega
  have hP0 : (0 : Int) ≤ (lo : Int) := by omega
  have hV0 : IntKind.i64.wrap ((lo : Int)) = (lo : Int) := by rw [IntKind.wrap_i64]; omega
  have hI1 : (j : Int) < (N : Int) := by omega
  have hP1 : (0 : Int) ≤ (j : Int) := by omega
  have hV1 : IntKind.i64.wrap ((j : Int)) = (j : Int) := by rw [IntKind.wrap_i64]; omega
  refine wp_region_posts peq5_A [] [] peq5_kill peq5_uses [] [] [] []
      (some ?v0 :: some ?v1 :: some (.bool true) :: some (.bool true) :: some ?v4 :: some ?v5 :: some ?v6 :: some ?v7 :: some ?v8 :: some ?v9 :: some ?v10 :: some ?v11 :: some ((.bool (decide (f (lo) < f (j))))) :: some ?v13 :: [])
      ?T (fun wx => Rw B g c N f w0 wx) ?W ?E (by kernel_rfl) (by kernel_rfl) (by kernel_rfl) (fun x => ?hT) ?hF ?hini (Reg.all_ops ?runs) ?pres ?fin
  case W => exact fun j x w' => True
  case E => exact fun i wx wy => True
  case hT =>
    simp only [Reg.fillV, Act.put, List.setIfInBounds_toArray, List.set_cons_zero, List.set_cons_succ]
    rfl
  case runs =>
    refine And.intro ?_ ?_
    · refine Reg.ob_pure (fun _ => rfl) rfl rfl rfl rfl (fun x w1 hF => ?_)
      have cX := hF.cell (lo) hX
      have cY := hF.cell (j) hY
      go_simp
      with_reducible rfl
    refine And.intro ?_ ?_
    · refine Reg.ob_pure (fun _ => rfl) rfl rfl rfl rfl (fun x w1 hF => ?_)
      have cX := hF.cell (lo) hX
      have cY := hF.cell (j) hY
      go_simp
      with_reducible rfl
    refine And.intro ?_ ?_
    · refine Reg.ob_pure (fun _ => rfl) rfl rfl rfl rfl (fun x w1 hF => ?_)
      go_simp <;> omega
    refine And.intro ?_ ?_
    · refine Reg.ob_pure (fun _ => rfl) rfl rfl rfl rfl (fun x w1 hF => ?_)
      go_simp
    refine And.intro ?_ ?_
    · refine Reg.ob_pure (fun _ => rfl) rfl rfl rfl rfl (fun x w1 hF => ?_)
      have cX := hF.cell (lo) hX
      have cY := hF.cell (j) hY
      go_simp
      with_reducible rfl
    refine And.intro ?_ ?_
    · refine Reg.ob_pure (fun _ => rfl) rfl rfl rfl rfl (fun x w1 hF => ?_)
      have cX := hF.cell (lo) hX
      have cY := hF.cell (j) hY
      go_simp
      with_reducible rfl
    refine And.intro ?_ ?_
    · refine Reg.ob_pure (fun _ => rfl) rfl rfl rfl rfl (fun x w1 hF => ?_)
      have cX := hF.cell (lo) hX
      have cY := hF.cell (j) hY
      go_simp
      with_reducible rfl
    refine And.intro ?_ ?_
    · refine Reg.ob_pure (fun _ => rfl) rfl rfl rfl rfl (fun x w1 hF => ?_)
      have cX := hF.cell (lo) hX
      have cY := hF.cell (j) hY
      go_simp
      with_reducible rfl
    refine And.intro ?_ ?_
    · refine Reg.ob_pure (fun _ => rfl) rfl rfl rfl rfl (fun x w1 hF => ?_)
      have cX := hF.cell (lo) hX
      have cY := hF.cell (j) hY
      go_simp
      with_reducible rfl
    refine And.intro ?_ ?_
    · refine Reg.ob_pure (fun _ => rfl) rfl rfl rfl rfl (fun x w1 hF => ?_)
      have cX := hF.cell (lo) hX
      have cY := hF.cell (j) hY
      go_simp
      with_reducible rfl
    refine And.intro ?_ ?_
    · refine Reg.ob_pure (fun _ => rfl) rfl rfl rfl rfl (fun x w1 hF => ?_)
      have cX := hF.cell (lo) hX
      have cY := hF.cell (j) hY
      go_simp
      with_reducible rfl
    refine And.intro ?_ ?_
    · refine Reg.ob_pure (fun _ => rfl) rfl rfl rfl rfl (fun x w1 hF => ?_)
      have cX := hF.cell (lo) hX
      have cY := hF.cell (j) hY
      go_simp
      with_reducible rfl
    refine And.intro ?_ ?_
    · refine Reg.ob_known (fun _ => rfl) rfl rfl (fun x w1 hF hU K hK => ?_)
      replace hF := hF rfl
      go_simp
      refine (less_is (f (lo)) (f (j)) w1).mono ?_
      rintro e w5 ⟨rfl, rfl⟩
      exact hK _ (fun _ _ _ => hF) rfl
    refine And.intro ?_ ?_
    · refine Reg.ob_pure (fun _ => rfl) rfl rfl rfl rfl (fun x w1 hF => ?_)
      have cX := hF.cell (lo) hX
      have cY := hF.cell (j) hY
      go_simp
      with_reducible rfl
    exact trivial
  case hF =>
    exact hG.go ((Only.refl _ _).drewN 1)
  case hini =>
    exact trivial
  case pres =>
    intro i hi
    simp at hi
  case fin =>
    rintro x w9 hF hU
    repeat apply Exists.intro
    exact ⟨rfl, rfl, hF rfl⟩

set_option maxRecDepth 100000 in
set_option maxHeartbeats 600000 in
theorem peq5 (B g c N : Nat) (f : Nat → Nat) (w0 : World) (lo i j : Nat) (hX : lo < N) (hY : j < N) (hN : N ≤ 1000) (hg : i ≤ j)  (u2 u3 u4 u5 u6 u7 u8 u11 u12 u13 u14 u15 u16 u17 u18 u19 u20 u21 u22 u23 u24 u25 u26 u27 u28 u29 u30 u31 u32 u33 u34 u35 u36 u37 u38 u39 u40 u41 u42 u43 u44 u45 u46 u47 u48 u49 u50 u51 u52 u53 u54 u55 u56 u57 u58 u59 u60 u61 u62 u63 u64 u65 u66 u67 u68 u69 u70 u71 u72 u73 u74 u75 u76 u77 u78 u79 u80 u81 u82 u83 : Value) (Q : Exit → Act → World → Prop) (w : World) (hG : Rw B g c N f w0 w)
    (hend : ∀ (y46 y47 y48 y49 y50 y51 y52 y53 y54 y55 y56 y57 y58 : Value) (w' : World), (Rw B g c N f w0 w') → Q .normal ⟨(List.toArray (.slice (some ⟨g, 0, none⟩) N c :: .int .i64 (lo : Int) :: u2 :: u3 :: u4 :: u5 :: u6 :: u7 :: u8 :: .int .i64 (i : Int) :: .int .i64 (j : Int) :: u11 :: u12 :: u13 :: u14 :: u15 :: u16 :: u17 :: u18 :: u19 :: u20 :: u21 :: u22 :: u23 :: u24 :: u25 :: u26 :: u27 :: u28 :: u29 :: u30 :: u31 :: u32 :: u33 :: u34 :: u35 :: u36 :: u37 :: u38 :: u39 :: u40 :: u41 :: u42 :: u43 :: u44 :: u45 :: y46 :: y47 :: y48 :: y49 :: y50 :: y51 :: y52 :: y53 :: y54 :: y55 :: y56 :: y57 :: y58 :: (.bool (decide (f (lo) < f (j)))) :: u60 :: u61 :: u62 :: u63 :: u64 :: u65 :: u66 :: u67 :: u68 :: u69 :: u70 :: u71 :: u72 :: u73 :: u74 :: u75 :: u76 :: u77 :: u78 :: u79 :: u80 :: u81 :: u82 :: u83 :: [])), []⟩ w') :
    Code.wp Try.prog peq5_code Q ⟨(List.toArray (.slice (some ⟨g, 0, none⟩) N c :: .int .i64 (lo : Int) :: u2 :: u3 :: u4 :: u5 :: u6 :: u7 :: u8 :: .int .i64 (i : Int) :: .int .i64 (j : Int) :: u11 :: u12 :: u13 :: u14 :: u15 :: u16 :: u17 :: u18 :: u19 :: u20 :: u21 :: u22 :: u23 :: u24 :: u25 :: u26 :: u27 :: u28 :: u29 :: u30 :: u31 :: u32 :: u33 :: u34 :: u35 :: u36 :: u37 :: u38 :: u39 :: u40 :: u41 :: u42 :: u43 :: u44 :: u45 :: u46 :: u47 :: u48 :: u49 :: u50 :: u51 :: u52 :: u53 :: u54 :: u55 :: u56 :: u57 :: u58 :: u59 :: u60 :: u61 :: u62 :: u63 :: u64 :: u65 :: u66 :: u67 :: u68 :: u69 :: u70 :: u71 :: u72 :: u73 :: u74 :: u75 :: u76 :: u77 :: u78 :: u79 :: u80 :: u81 :: u82 :: u83 :: [])), []⟩ w := by
  refine wp_mono (peq5_in B g c N f w0 lo i j hX hY hN hg _ _ _ _ _ _ _ _ _ _ _ _ _ _ _ _ _ _ _ _ _ _ _ _ _ _ _ _ _ _ _ _ _ _ _ _ _ _ _ _ _ _ _ _ _ _ _ _ _ _ _ _ _ _ _ _ _ _ _ _ _ _ _ _ _ _ _ _ _ _ _ _ _ _ _ _ _ _ _ _ w hG) ?_
  rintro e a w' h
  obtain ⟨y46, h⟩ := h
  obtain ⟨y47, h⟩ := h
  obtain ⟨y48, h⟩ := h
  obtain ⟨y49, h⟩ := h
  obtain ⟨y50, h⟩ := h
  obtain ⟨y51, h⟩ := h
  obtain ⟨y52, h⟩ := h
  obtain ⟨y53, h⟩ := h
  obtain ⟨y54, h⟩ := h
  obtain ⟨y55, h⟩ := h
  obtain ⟨y56, h⟩ := h
  obtain ⟨y57, h⟩ := h
  obtain ⟨y58, h⟩ := h
  obtain ⟨h, rfl, hq⟩ := h
  subst h
  exact hend y46 y47 y48 y49 y50 y51 y52 y53 y54 y55 y56 y57 y58 w' hq
def peq5f_A : List (List Nat) := ([] :: [] :: [0, 1] :: [2, 0, 1] :: [3, 2, 0, 1] :: [3, 2, 0, 1] :: [4, 5, 3, 2, 0, 1] :: [6, 3, 4, 5, 2, 0, 1] :: [3, 2, 0, 1] :: [3, 2, 0, 1] :: [8, 9, 3, 2, 0, 1] :: [10, 3, 8, 9, 2, 0, 1] :: (7 :: 11 :: 3 :: 6 :: 4 :: 5 :: 2 :: 0 :: 1 :: 10 :: 8 :: 9 :: []) :: (3 :: 12 :: 2 :: 0 :: 1 :: 7 :: 11 :: 6 :: 4 :: 5 :: 10 :: 8 :: 9 :: []) :: [])
def peq5f_kill : List (List Nat) := ([] :: [] :: [] :: [] :: [] :: [] :: [] :: [] :: [] :: [] :: [] :: [] :: [] :: [] :: [])
def peq5f_uses : List (List Nat) := ([] :: [] :: [] :: [] :: [] :: [] :: [] :: [] :: [] :: [] :: [] :: [] :: [] :: [] :: [])
noncomputable def peq5f_code : Code := ((Try.f73.body.bind (codeRegion 5)).getD .skip)
set_option maxRecDepth 100000 in
set_option maxHeartbeats 600000 in
theorem peq5f_in (B g c N : Nat) (f : Nat → Nat) (w0 : World) (lo i j : Nat) (hg : ¬ i ≤ j)  (u2 u3 u4 u5 u6 u7 u8 u11 u12 u13 u14 u15 u16 u17 u18 u19 u20 u21 u22 u23 u24 u25 u26 u27 u28 u29 u30 u31 u32 u33 u34 u35 u36 u37 u38 u39 u40 u41 u42 u43 u44 u45 u46 u47 u48 u49 u50 u51 u52 u53 u54 u55 u56 u57 u58 u59 u60 u61 u62 u63 u64 u65 u66 u67 u68 u69 u70 u71 u72 u73 u74 u75 u76 u77 u78 u79 u80 u81 u82 u83 : Value) (w : World) (hG : Rw B g c N f w0 w) :
    Code.wp Try.prog peq5f_code (fun e a w' => ∃ y46 y47 y48 y49 y50 y51 y52 y53 y54 y55 y56 y57 y58 : Value, a = ⟨(List.toArray (.slice (some ⟨g, 0, none⟩) N c :: .int .i64 (lo : Int) :: u2 :: u3 :: u4 :: u5 :: u6 :: u7 :: u8 :: .int .i64 (i : Int) :: .int .i64 (j : Int) :: u11 :: u12 :: u13 :: u14 :: u15 :: u16 :: u17 :: u18 :: u19 :: u20 :: u21 :: u22 :: u23 :: u24 :: u25 :: u26 :: u27 :: u28 :: u29 :: u30 :: u31 :: u32 :: u33 :: u34 :: u35 :: u36 :: u37 :: u38 :: u39 :: u40 :: u41 :: u42 :: u43 :: u44 :: u45 :: y46 :: y47 :: y48 :: y49 :: y50 :: y51 :: y52 :: y53 :: y54 :: y55 :: y56 :: y57 :: y58 :: (.bool false) :: u60 :: u61 :: u62 :: u63 :: u64 :: u65 :: u66 :: u67 :: u68 :: u69 :: u70 :: u71 :: u72 :: u73 :: u74 :: u75 :: u76 :: u77 :: u78 :: u79 :: u80 :: u81 :: u82 :: u83 :: [])), []⟩ ∧ e = .normal ∧ (Rw B g c N f w0 w')) ⟨(List.toArray (.slice (some ⟨g, 0, none⟩) N c :: .int .i64 (lo : Int) :: u2 :: u3 :: u4 :: u5 :: u6 :: u7 :: u8 :: .int .i64 (i : Int) :: .int .i64 (j : Int) :: u11 :: u12 :: u13 :: u14 :: u15 :: u16 :: u17 :: u18 :: u19 :: u20 :: u21 :: u22 :: u23 :: u24 :: u25 :: u26 :: u27 :: u28 :: u29 :: u30 :: u31 :: u32 :: u33 :: u34 :: u35 :: u36 :: u37 :: u38 :: u39 :: u40 :: u41 :: u42 :: u43 :: u44 :: u45 :: u46 :: u47 :: u48 :: u49 :: u50 :: u51 :: u52 :: u53 :: u54 :: u55 :: u56 :: u57 :: u58 :: u59 :: u60 :: u61 :: u62 :: u63 :: u64 :: u65 :: u66 :: u67 :: u68 :: u69 :: u70 :: u71 :: u72 :: u73 :: u74 :: u75 :: u76 :: u77 :: u78 :: u79 :: u80 :: u81 :: u82 :: u83 :: [])), []⟩ w := by
  conv => arg 2; whnf
  refine wp_region_posts peq5f_A [] [] peq5f_kill peq5f_uses [] [] [] []
      (some ?v0 :: some ?v1 :: some (.bool false) :: some (.bool false) :: some undef :: some undef :: some undef :: some undef :: some undef :: some undef :: some undef :: some undef :: some undef :: some ?v13 :: [])
      ?T (fun wx => Rw B g c N f w0 wx) ?W ?E (by kernel_rfl) (by kernel_rfl) (by kernel_rfl) (fun x => ?hT) ?hF ?hini (Reg.all_ops ?runs) ?pres ?fin
  case W => exact fun j x w' => True
  case E => exact fun i wx wy => True
  case hT =>
    simp only [Reg.fillV, Act.put, List.setIfInBounds_toArray, List.set_cons_zero, List.set_cons_succ]
    rfl
  case runs =>
    refine And.intro ?_ ?_
    · refine Reg.ob_pure (fun _ => rfl) rfl rfl rfl rfl (fun x w1 hF => ?_)
      have _h := hF
      go_simp
      with_reducible rfl
    refine And.intro ?_ ?_
    · refine Reg.ob_pure (fun _ => rfl) rfl rfl rfl rfl (fun x w1 hF => ?_)
      have _h := hF
      go_simp
      with_reducible rfl
    refine And.intro ?_ ?_
    · refine Reg.ob_pure (fun _ => rfl) rfl rfl rfl rfl (fun x w1 hF => ?_)
      go_simp <;> omega
    refine And.intro ?_ ?_
    · refine Reg.ob_pure (fun _ => rfl) rfl rfl rfl rfl (fun x w1 hF => ?_)
      go_simp
    refine And.intro ?_ ?_
    · exact Reg.ob_skip (fun _ => rfl) rfl rfl rfl
    refine And.intro ?_ ?_
    · exact Reg.ob_skip (fun _ => rfl) rfl rfl rfl
    refine And.intro ?_ ?_
    · exact Reg.ob_skip (fun _ => rfl) rfl rfl rfl
    refine And.intro ?_ ?_
    · exact Reg.ob_skip (fun _ => rfl) rfl rfl rfl
    refine And.intro ?_ ?_
    · exact Reg.ob_skip (fun _ => rfl) rfl rfl rfl
    refine And.intro ?_ ?_
    · exact Reg.ob_skip (fun _ => rfl) rfl rfl rfl
    refine And.intro ?_ ?_
    · exact Reg.ob_skip (fun _ => rfl) rfl rfl rfl
    refine And.intro ?_ ?_
    · exact Reg.ob_skip (fun _ => rfl) rfl rfl rfl
    refine And.intro ?_ ?_
    · exact Reg.ob_skip (fun _ => rfl) rfl rfl rfl
    refine And.intro ?_ ?_
    · refine Reg.ob_pure (fun _ => rfl) rfl rfl rfl rfl (fun x w1 hF => ?_)
      have _h := hF
      go_simp
      with_reducible rfl
    exact trivial
  case hF =>
    exact hG.go ((Only.refl _ _).drewN 1)
  case hini =>
    exact trivial
  case pres =>
    intro i hi
    simp at hi
  case fin =>
    rintro x w9 hF hU
    repeat apply Exists.intro
    exact ⟨rfl, rfl, hF rfl⟩

set_option maxRecDepth 100000 in
set_option maxHeartbeats 600000 in
theorem peq5f (B g c N : Nat) (f : Nat → Nat) (w0 : World) (lo i j : Nat) (hg : ¬ i ≤ j)  (u2 u3 u4 u5 u6 u7 u8 u11 u12 u13 u14 u15 u16 u17 u18 u19 u20 u21 u22 u23 u24 u25 u26 u27 u28 u29 u30 u31 u32 u33 u34 u35 u36 u37 u38 u39 u40 u41 u42 u43 u44 u45 u46 u47 u48 u49 u50 u51 u52 u53 u54 u55 u56 u57 u58 u59 u60 u61 u62 u63 u64 u65 u66 u67 u68 u69 u70 u71 u72 u73 u74 u75 u76 u77 u78 u79 u80 u81 u82 u83 : Value) (Q : Exit → Act → World → Prop) (w : World) (hG : Rw B g c N f w0 w)
    (hend : ∀ (y46 y47 y48 y49 y50 y51 y52 y53 y54 y55 y56 y57 y58 : Value) (w' : World), (Rw B g c N f w0 w') → Q .normal ⟨(List.toArray (.slice (some ⟨g, 0, none⟩) N c :: .int .i64 (lo : Int) :: u2 :: u3 :: u4 :: u5 :: u6 :: u7 :: u8 :: .int .i64 (i : Int) :: .int .i64 (j : Int) :: u11 :: u12 :: u13 :: u14 :: u15 :: u16 :: u17 :: u18 :: u19 :: u20 :: u21 :: u22 :: u23 :: u24 :: u25 :: u26 :: u27 :: u28 :: u29 :: u30 :: u31 :: u32 :: u33 :: u34 :: u35 :: u36 :: u37 :: u38 :: u39 :: u40 :: u41 :: u42 :: u43 :: u44 :: u45 :: y46 :: y47 :: y48 :: y49 :: y50 :: y51 :: y52 :: y53 :: y54 :: y55 :: y56 :: y57 :: y58 :: (.bool false) :: u60 :: u61 :: u62 :: u63 :: u64 :: u65 :: u66 :: u67 :: u68 :: u69 :: u70 :: u71 :: u72 :: u73 :: u74 :: u75 :: u76 :: u77 :: u78 :: u79 :: u80 :: u81 :: u82 :: u83 :: [])), []⟩ w') :
    Code.wp Try.prog peq5f_code Q ⟨(List.toArray (.slice (some ⟨g, 0, none⟩) N c :: .int .i64 (lo : Int) :: u2 :: u3 :: u4 :: u5 :: u6 :: u7 :: u8 :: .int .i64 (i : Int) :: .int .i64 (j : Int) :: u11 :: u12 :: u13 :: u14 :: u15 :: u16 :: u17 :: u18 :: u19 :: u20 :: u21 :: u22 :: u23 :: u24 :: u25 :: u26 :: u27 :: u28 :: u29 :: u30 :: u31 :: u32 :: u33 :: u34 :: u35 :: u36 :: u37 :: u38 :: u39 :: u40 :: u41 :: u42 :: u43 :: u44 :: u45 :: u46 :: u47 :: u48 :: u49 :: u50 :: u51 :: u52 :: u53 :: u54 :: u55 :: u56 :: u57 :: u58 :: u59 :: u60 :: u61 :: u62 :: u63 :: u64 :: u65 :: u66 :: u67 :: u68 :: u69 :: u70 :: u71 :: u72 :: u73 :: u74 :: u75 :: u76 :: u77 :: u78 :: u79 :: u80 :: u81 :: u82 :: u83 :: [])), []⟩ w := by
  refine wp_mono (peq5f_in B g c N f w0 lo i j hg _ _ _ _ _ _ _ _ _ _ _ _ _ _ _ _ _ _ _ _ _ _ _ _ _ _ _ _ _ _ _ _ _ _ _ _ _ _ _ _ _ _ _ _ _ _ _ _ _ _ _ _ _ _ _ _ _ _ _ _ _ _ _ _ _ _ _ _ _ _ _ _ _ _ _ _ _ _ _ _ w hG) ?_
  rintro e a w' h
  obtain ⟨y46, h⟩ := h
  obtain ⟨y47, h⟩ := h
  obtain ⟨y48, h⟩ := h
  obtain ⟨y49, h⟩ := h
  obtain ⟨y50, h⟩ := h
  obtain ⟨y51, h⟩ := h
  obtain ⟨y52, h⟩ := h
  obtain ⟨y53, h⟩ := h
  obtain ⟨y54, h⟩ := h
  obtain ⟨y55, h⟩ := h
  obtain ⟨y56, h⟩ := h
  obtain ⟨y57, h⟩ := h
  obtain ⟨y58, h⟩ := h
  obtain ⟨h, rfl, hq⟩ := h
  subst h
  exact hend y46 y47 y48 y49 y50 y51 y52 y53 y54 y55 y56 y57 y58 w' hq
set_option maxRecDepth 100000 in
set_option maxHeartbeats 600000 in
theorem peq5c (B g c N : Nat) (f : Nat → Nat) (w0 : World) (lo i j : Nat) (hX : i ≤ j → lo < N) (hY : i ≤ j → j < N) (hN : N ≤ 1000)  (u2 u3 u4 u5 u6 u7 u8 u11 u12 u13 u14 u15 u16 u17 u18 u19 u20 u21 u22 u23 u24 u25 u26 u27 u28 u29 u30 u31 u32 u33 u34 u35 u36 u37 u38 u39 u40 u41 u42 u43 u44 u45 u46 u47 u48 u49 u50 u51 u52 u53 u54 u55 u56 u57 u58 u59 u60 u61 u62 u63 u64 u65 u66 u67 u68 u69 u70 u71 u72 u73 u74 u75 u76 u77 u78 u79 u80 u81 u82 u83 : Value) (Q : Exit → Act → World → Prop) (w : World) (hG : Rw B g c N f w0 w)
    (hend : ∀ (y46 y47 y48 y49 y50 y51 y52 y53 y54 y55 y56 y57 y58 : Value) (w' : World), (Rw B g c N f w0 w') → Q .normal ⟨(List.toArray (.slice (some ⟨g, 0, none⟩) N c :: .int .i64 (lo : Int) :: u2 :: u3 :: u4 :: u5 :: u6 :: u7 :: u8 :: .int .i64 (i : Int) :: .int .i64 (j : Int) :: u11 :: u12 :: u13 :: u14 :: u15 :: u16 :: u17 :: u18 :: u19 :: u20 :: u21 :: u22 :: u23 :: u24 :: u25 :: u26 :: u27 :: u28 :: u29 :: u30 :: u31 :: u32 :: u33 :: u34 :: u35 :: u36 :: u37 :: u38 :: u39 :: u40 :: u41 :: u42 :: u43 :: u44 :: u45 :: y46 :: y47 :: y48 :: y49 :: y50 :: y51 :: y52 :: y53 :: y54 :: y55 :: y56 :: y57 :: y58 :: (.bool (decide (i ≤ j) && (decide (f (lo) < f (j))))) :: u60 :: u61 :: u62 :: u63 :: u64 :: u65 :: u66 :: u67 :: u68 :: u69 :: u70 :: u71 :: u72 :: u73 :: u74 :: u75 :: u76 :: u77 :: u78 :: u79 :: u80 :: u81 :: u82 :: u83 :: [])), []⟩ w') :
    Code.wp Try.prog peq5_code Q ⟨(List.toArray (.slice (some ⟨g, 0, none⟩) N c :: .int .i64 (lo : Int) :: u2 :: u3 :: u4 :: u5 :: u6 :: u7 :: u8 :: .int .i64 (i : Int) :: .int .i64 (j : Int) :: u11 :: u12 :: u13 :: u14 :: u15 :: u16 :: u17 :: u18 :: u19 :: u20 :: u21 :: u22 :: u23 :: u24 :: u25 :: u26 :: u27 :: u28 :: u29 :: u30 :: u31 :: u32 :: u33 :: u34 :: u35 :: u36 :: u37 :: u38 :: u39 :: u40 :: u41 :: u42 :: u43 :: u44 :: u45 :: u46 :: u47 :: u48 :: u49 :: u50 :: u51 :: u52 :: u53 :: u54 :: u55 :: u56 :: u57 :: u58 :: u59 :: u60 :: u61 :: u62 :: u63 :: u64 :: u65 :: u66 :: u67 :: u68 :: u69 :: u70 :: u71 :: u72 :: u73 :: u74 :: u75 :: u76 :: u77 :: u78 :: u79 :: u80 :: u81 :: u82 :: u83 :: [])), []⟩ w := by
  by_cases hg : i ≤ j
  · rw [decide_eq_true hg] at hend
    simp only [Bool.true_and] at hend
    exact peq5 B g c N f w0 lo i j (hX hg) (hY hg) hN hg u2 u3 u4 u5 u6 u7 u8 u11 u12 u13 u14 u15 u16 u17 u18 u19 u20 u21 u22 u23 u24 u25 u26 u27 u28 u29 u30 u31 u32 u33 u34 u35 u36 u37 u38 u39 u40 u41 u42 u43 u44 u45 u46 u47 u48 u49 u50 u51 u52 u53 u54 u55 u56 u57 u58 u59 u60 u61 u62 u63 u64 u65 u66 u67 u68 u69 u70 u71 u72 u73 u74 u75 u76 u77 u78 u79 u80 u81 u82 u83 Q w hG hend
  · rw [decide_eq_false hg] at hend
    simp only [Bool.false_and] at hend
    exact peq5f B g c N f w0 lo i j hg u2 u3 u4 u5 u6 u7 u8 u11 u12 u13 u14 u15 u16 u17 u18 u19 u20 u21 u22 u23 u24 u25 u26 u27 u28 u29 u30 u31 u32 u33 u34 u35 u36 u37 u38 u39 u40 u41 u42 u43 u44 u45 u46 u47 u48 u49 u50 u51 u52 u53 u54 u55 u56 u57 u58 u59 u60 u61 u62 u63 u64 u65 u66 u67 u68 u69 u70 u71 u72 u73 u74 u75 u76 u77 u78 u79 u80 u81 u82 u83 Q w hG hend
def peq8_A : List (List Nat) := ([] :: [] :: [] :: [] :: [] :: [] :: [4, 5] :: [6, 4, 5] :: [] :: [] :: [8, 9] :: [10, 8, 9] :: (0 :: 1 :: 4 :: 5 :: 6 :: 7 :: 11 :: 10 :: 8 :: 9 :: []) :: (12 :: 7 :: 0 :: 1 :: 4 :: 5 :: 6 :: 11 :: 10 :: 8 :: 9 :: []) :: (2 :: 3 :: 0 :: 1 :: 4 :: 5 :: 6 :: 7 :: 8 :: 9 :: 10 :: 11 :: 12 :: 13 :: []) :: (14 :: 11 :: 13 :: 0 :: 1 :: 2 :: 3 :: 4 :: 5 :: 6 :: 7 :: 8 :: 9 :: 10 :: 12 :: []) :: [])
def peq8_kill : List (List Nat) := ([] :: [] :: [] :: [] :: [] :: [] :: [] :: [] :: [] :: [] :: [] :: [] :: [] :: [] :: [] :: [13] :: [])
def peq8_uses : List (List Nat) := ([] :: [] :: [] :: [] :: [] :: [] :: [] :: [] :: [] :: [] :: [] :: [] :: [] :: [] :: [] :: [13] :: [])
noncomputable def peq8_code : Code := ((Try.f73.body.bind (codeRegion 8)).getD .skip)
set_option maxRecDepth 100000 in
set_option maxHeartbeats 600000 in
theorem peq8_in (B g c N : Nat) (f : Nat → Nat) (w0 : World) (i j : Nat) (hX : i < N) (hY : j < N) (hN : N ≤ 1000)  (u1 u2 u3 u4 u5 u6 u7 u8 u11 u12 u13 u14 u15 u16 u17 u18 u19 u20 u21 u22 u23 u24 u25 u26 u27 u28 u29 u30 u31 u32 u33 u34 u35 u36 u37 u38 u39 u40 u41 u42 u43 u44 u45 u46 u47 u48 u49 u50 u51 u52 u53 u54 u55 u56 u57 u58 u59 u60 u61 u62 u63 u64 u65 u66 u67 u68 u69 u70 u71 u72 u73 u74 u75 u76 u77 u78 u79 u80 u81 u82 u83 : Value) (w : World) (hG : Rw B g c N f w0 w) :
    Code.wp Try.prog peq8_code (fun e a w' => ∃ y65 y66 y67 y68 y69 y70 y71 y72 y73 y74 y75 y76 y77 y78 : Value, a = ⟨(List.toArray (.slice (some ⟨g, 0, none⟩) N c :: u1 :: u2 :: u3 :: u4 :: u5 :: u6 :: u7 :: u8 :: .int .i64 (i : Int) :: .int .i64 (j : Int) :: u11 :: u12 :: u13 :: u14 :: u15 :: u16 :: u17 :: u18 :: u19 :: u20 :: u21 :: u22 :: u23 :: u24 :: u25 :: u26 :: u27 :: u28 :: u29 :: u30 :: u31 :: u32 :: u33 :: u34 :: u35 :: u36 :: u37 :: u38 :: u39 :: u40 :: u41 :: u42 :: u43 :: u44 :: u45 :: u46 :: u47 :: u48 :: u49 :: u50 :: u51 :: u52 :: u53 :: u54 :: u55 :: u56 :: u57 :: u58 :: u59 :: u60 :: u61 :: u62 :: u63 :: u64 :: y65 :: y66 :: y67 :: y68 :: y69 :: y70 :: y71 :: y72 :: y73 :: y74 :: y75 :: y76 :: y77 :: y78 :: u79 :: u80 :: u81 :: u82 :: u83 :: [])), []⟩ ∧ e = .normal ∧ (Rw B g c N (swp f (i) (j)) w0 w')) ⟨(List.toArray (.slice (some ⟨g, 0, none⟩) N c :: u1 :: u2 :: u3 :: u4 :: u5 :: u6 :: u7 :: u8 :: .int .i64 (i : Int) :: .int .i64 (j : Int) :: u11 :: u12 :: u13 :: u14 :: u15 :: u16 :: u17 :: u18 :: u19 :: u20 :: u21 :: u22 :: u23 :: u24 :: u25 :: u26 :: u27 :: u28 :: u29 :: u30 :: u31 :: u32 :: u33 :: u34 :: u35 :: u36 :: u37 :: u38 :: u39 :: u40 :: u41 :: u42 :: u43 :: u44 :: u45 :: u46 :: u47 :: u48 :: u49 :: u50 :: u51 :: u52 :: u53 :: u54 :: u55 :: u56 :: u57 :: u58 :: u59 :: u60 :: u61 :: u62 :: u63 :: u64 :: u65 :: u66 :: u67 :: u68 :: u69 :: u70 :: u71 :: u72 :: u73 :: u74 :: u75 :: u76 :: u77 :: u78 :: u79 :: u80 :: u81 :: u82 :: u83 :: [])), []⟩ w := by
  conv => arg 2; whnf
  have hI0 : (i : Int) < (N : Int) := by omega
  have hP0 : (0 : Int) ≤ (i : Int) := by omega
  have hV0 : IntKind.i64.wrap ((i : Int)) = (i : Int) := by rw [IntKind.wrap_i64]; omega
  have hI1 : (j : Int) < (N : Int) := by omega
  have hP1 : (0 : Int) ≤ (j : Int) := by omega
  have hV1 : IntKind.i64.wrap ((j : Int)) = (j : Int) := by rw [IntKind.wrap_i64]; omega
  refine wp_region_posts peq8_A [13, 15] [13, 15] peq8_kill peq8_uses [15] [13, 15] [0, 1, 2, 3, 4, 5, 6, 8, 9, 10, 12, 14, 15] []
      (some ?v0 :: some ?v1 :: some ?v2 :: some ?v3 :: some ?v4 :: some ?v5 :: some ?v6 :: some ?v7 :: some ?v8 :: some ?v9 :: some ?v10 :: some ?v11 :: some ?v12 :: none :: some ?v14 :: none :: [])
      ?T (fun wx => Rw B g c N f w0 wx) ?W ?E (by kernel_rfl) (by kernel_rfl) (by kernel_rfl) (fun x => ?hT) ?hF ?hini (Reg.all_ops ?runs) ?pres ?fin
  case W => exact fun jj x w' => match jj with | 13 => Rw B g c N (updf f (i) (f (j))) w0 w' | 15 => Rw B g c N (swp f (i) (j)) w0 w' | _ => True
  case E => exact fun i wx wy => True
  case hT =>
    simp only [Reg.fillV, Act.put, List.setIfInBounds_toArray, List.set_cons_zero, List.set_cons_succ]
    rfl
  case runs =>
    refine And.intro ?_ ?_
    · refine Reg.ob_bare (fun _ => rfl) rfl rfl rfl (fun x w1 => ?_)
      go_simp
      with_reducible rfl
    refine And.intro ?_ ?_
    · refine Reg.ob_bare (fun _ => rfl) rfl rfl rfl (fun x w1 => ?_)
      go_simp
      with_reducible rfl
    refine And.intro ?_ ?_
    · refine Reg.ob_bare (fun _ => rfl) rfl rfl rfl (fun x w1 => ?_)
      go_simp
      with_reducible rfl
    refine And.intro ?_ ?_
    · refine Reg.ob_bare (fun _ => rfl) rfl rfl rfl (fun x w1 => ?_)
      go_simp
      with_reducible rfl
    refine And.intro ?_ ?_
    · refine Reg.ob_bare (fun _ => rfl) rfl rfl rfl (fun x w1 => ?_)
      go_simp
      with_reducible rfl
    refine And.intro ?_ ?_
    · refine Reg.ob_bare (fun _ => rfl) rfl rfl rfl (fun x w1 => ?_)
      go_simp
      with_reducible rfl
    refine And.intro ?_ ?_
    · refine Reg.ob_bare (fun _ => rfl) rfl rfl rfl (fun x w1 => ?_)
      go_simp
      with_reducible rfl
    refine And.intro ?_ ?_
    · refine Reg.ob_pure (fun _ => rfl) rfl rfl rfl rfl (fun x w1 hF => ?_)
      have cX := hF.cell (i) hX
      have cY := hF.cell (j) hY
      go_simp
      with_reducible rfl
    refine And.intro ?_ ?_
    · refine Reg.ob_bare (fun _ => rfl) rfl rfl rfl (fun x w1 => ?_)
      go_simp
      with_reducible rfl
    refine And.intro ?_ ?_
    · refine Reg.ob_bare (fun _ => rfl) rfl rfl rfl (fun x w1 => ?_)
      go_simp
      with_reducible rfl
    refine And.intro ?_ ?_
    · refine Reg.ob_bare (fun _ => rfl) rfl rfl rfl (fun x w1 => ?_)
      go_simp
      with_reducible rfl
    refine And.intro ?_ ?_
    · refine Reg.ob_pure (fun _ => rfl) rfl rfl rfl rfl (fun x w1 hF => ?_)
      have cX := hF.cell (i) hX
      have cY := hF.cell (j) hY
      go_simp
      with_reducible rfl
    refine And.intro ?_ ?_
    · refine Reg.ob_bare (fun _ => rfl) rfl rfl rfl (fun x w1 => ?_)
      go_simp
      with_reducible rfl
    refine And.intro ?_ ?_
    · refine Reg.ob_some (fun _ => rfl) rfl (fun x w1 hF hU K hK => ?_)
      replace hF := hF rfl
      have cX := hF.cell (i) hX
      have fX := hF.free (i)
      go_simp
      exact hK undef _ (fun _ h _ => by cases h) trivial (hF.put (i) (f (j)) hX)
    refine And.intro ?_ ?_
    · refine Reg.ob_bare (fun _ => rfl) rfl rfl rfl (fun x w1 => ?_)
      go_simp
      with_reducible rfl
    refine And.intro ?_ ?_
    · refine Reg.ob_some (fun _ => rfl) rfl (fun x w1 hF hU K hK => ?_)
      obtain ⟨hR, -⟩ := hU
      have hR : Rw B g c N (updf f (i) (f (j))) w0 w1 := hR
      have cY := hR.cell (j) hY
      have fY := hR.free (j)
      go_simp
      exact hK undef _ (fun _ h _ => by cases h) trivial (hR.put2 hY)
    exact trivial
  case hF =>
    exact hG.go ((Only.refl _ _).drewN 1)
  case hini =>
    exact trivial
  case pres =>
    intro i hi j hj hc x wx wy hF hE hW
    simp only [List.mem_cons, List.mem_nil_iff, or_false] at hi hj
    rcases hi with rfl | rfl <;> rcases hj with rfl | rfl
    all_goals (exfalso; revert hc; decide)
  case fin =>
    rintro x w9 hF hU
    obtain ⟨hQ, -⟩ := hU
    repeat apply Exists.intro
    exact ⟨rfl, rfl, hQ⟩

set_option maxRecDepth 100000 in
set_option maxHeartbeats 600000 in
theorem peq8 (B g c N : Nat) (f : Nat → Nat) (w0 : World) (i j : Nat) (hX : i < N) (hY : j < N) (hN : N ≤ 1000)  (u1 u2 u3 u4 u5 u6 u7 u8 u11 u12 u13 u14 u15 u16 u17 u18 u19 u20 u21 u22 u23 u24 u25 u26 u27 u28 u29 u30 u31 u32 u33 u34 u35 u36 u37 u38 u39 u40 u41 u42 u43 u44 u45 u46 u47 u48 u49 u50 u51 u52 u53 u54 u55 u56 u57 u58 u59 u60 u61 u62 u63 u64 u65 u66 u67 u68 u69 u70 u71 u72 u73 u74 u75 u76 u77 u78 u79 u80 u81 u82 u83 : Value) (Q : Exit → Act → World → Prop) (w : World) (hG : Rw B g c N f w0 w)
    (hend : ∀ (y65 y66 y67 y68 y69 y70 y71 y72 y73 y74 y75 y76 y77 y78 : Value) (w' : World), (Rw B g c N (swp f (i) (j)) w0 w') → Q .normal ⟨(List.toArray (.slice (some ⟨g, 0, none⟩) N c :: u1 :: u2 :: u3 :: u4 :: u5 :: u6 :: u7 :: u8 :: .int .i64 (i : Int) :: .int .i64 (j : Int) :: u11 :: u12 :: u13 :: u14 :: u15 :: u16 :: u17 :: u18 :: u19 :: u20 :: u21 :: u22 :: u23 :: u24 :: u25 :: u26 :: u27 :: u28 :: u29 :: u30 :: u31 :: u32 :: u33 :: u34 :: u35 :: u36 :: u37 :: u38 :: u39 :: u40 :: u41 :: u42 :: u43 :: u44 :: u45 :: u46 :: u47 :: u48 :: u49 :: u50 :: u51 :: u52 :: u53 :: u54 :: u55 :: u56 :: u57 :: u58 :: u59 :: u60 :: u61 :: u62 :: u63 :: u64 :: y65 :: y66 :: y67 :: y68 :: y69 :: y70 :: y71 :: y72 :: y73 :: y74 :: y75 :: y76 :: y77 :: y78 :: u79 :: u80 :: u81 :: u82 :: u83 :: [])), []⟩ w') :
    Code.wp Try.prog peq8_code Q ⟨(List.toArray (.slice (some ⟨g, 0, none⟩) N c :: u1 :: u2 :: u3 :: u4 :: u5 :: u6 :: u7 :: u8 :: .int .i64 (i : Int) :: .int .i64 (j : Int) :: u11 :: u12 :: u13 :: u14 :: u15 :: u16 :: u17 :: u18 :: u19 :: u20 :: u21 :: u22 :: u23 :: u24 :: u25 :: u26 :: u27 :: u28 :: u29 :: u30 :: u31 :: u32 :: u33 :: u34 :: u35 :: u36 :: u37 :: u38 :: u39 :: u40 :: u41 :: u42 :: u43 :: u44 :: u45 :: u46 :: u47 :: u48 :: u49 :: u50 :: u51 :: u52 :: u53 :: u54 :: u55 :: u56 :: u57 :: u58 :: u59 :: u60 :: u61 :: u62 :: u63 :: u64 :: u65 :: u66 :: u67 :: u68 :: u69 :: u70 :: u71 :: u72 :: u73 :: u74 :: u75 :: u76 :: u77 :: u78 :: u79 :: u80 :: u81 :: u82 :: u83 :: [])), []⟩ w := by
  refine wp_mono (peq8_in B g c N f w0 i j hX hY hN _ _ _ _ _ _ _ _ _ _ _ _ _ _ _ _ _ _ _ _ _ _ _ _ _ _ _ _ _ _ _ _ _ _ _ _ _ _ _ _ _ _ _ _ _ _ _ _ _ _ _ _ _ _ _ _ _ _ _ _ _ _ _ _ _ _ _ _ _ _ _ _ _ _ _ _ _ _ _ _ _ w hG) ?_
  rintro e a w' h
  obtain ⟨y65, h⟩ := h
  obtain ⟨y66, h⟩ := h
  obtain ⟨y67, h⟩ := h
  obtain ⟨y68, h⟩ := h
  obtain ⟨y69, h⟩ := h
  obtain ⟨y70, h⟩ := h
  obtain ⟨y71, h⟩ := h
  obtain ⟨y72, h⟩ := h
  obtain ⟨y73, h⟩ := h
  obtain ⟨y74, h⟩ := h
  obtain ⟨y75, h⟩ := h
  obtain ⟨y76, h⟩ := h
  obtain ⟨y77, h⟩ := h
  obtain ⟨y78, h⟩ := h
  obtain ⟨h, rfl, hq⟩ := h
  subst h
  exact hend y65 y66 y67 y68 y69 y70 y71 y72 y73 y74 y75 y76 y77 y78 w' hq
end Go.Proofs.Ytelfeedaadkhnaa
