/- slices.Sort of numbers of 32 digits: the regions of insertion, siftDown, heapSort that draw their order. Conditions: as each says. -/
import Derived.Test.YtelfeedaadkhnaaSoA
set_option linter.unusedVariables false
set_option linter.unusedSimpArgs false
namespace Go.Proofs.Ytelfeedaadkhnaa
open Go Go.RowKit

def ins4_A : List (List Nat) := ([] :: [] :: [0, 1] :: [2, 0, 1] :: [3, 2, 0, 1] :: [3, 2, 0, 1] :: [4, 5, 3, 2, 0, 1] :: [6, 3, 4, 5, 2, 0, 1] :: [3, 2, 0, 1] :: [3, 2, 0, 1] :: [9, 3, 2, 0, 1] :: [8, 10, 3, 2, 0, 1, 9] :: (11 :: 3 :: 8 :: 10 :: 2 :: 0 :: 1 :: 9 :: []) :: (7 :: 12 :: 3 :: 6 :: 4 :: 5 :: 2 :: 0 :: 1 :: 11 :: 8 :: 10 :: 9 :: []) :: (3 :: 13 :: 2 :: 0 :: 1 :: 7 :: 12 :: 6 :: 4 :: 5 :: 11 :: 8 :: 10 :: 9 :: []) :: [])
def ins4_kill : List (List Nat) := ([] :: [] :: [] :: [] :: [] :: [] :: [] :: [] :: [] :: [] :: [] :: [] :: [] :: [] :: [] :: [])
def ins4_uses : List (List Nat) := ([] :: [] :: [] :: [] :: [] :: [] :: [] :: [] :: [] :: [] :: [] :: [] :: [] :: [] :: [] :: [])
noncomputable def ins4_code : Code := ((Try.f66.body.bind (codeRegion 4)).getD .skip)
set_option maxRecDepth 100000 in
set_option maxHeartbeats 600000 in
theorem ins4_in (B g c N : Nat) (f : Nat → Nat) (w0 : World) (lo j : Nat) (hX : j + 1 < N) (hY : j < N) (hN : N ≤ 1000) (hg : lo < j + 1)  (u2 u3 u4 u5 u6 u8 u9 u10 u11 u12 u13 u14 u15 u16 u17 u18 u19 u20 u21 u22 u23 u24 u25 u26 u27 u28 u29 u30 u31 u32 u33 u34 u35 u36 u37 u38 u39 u40 u41 u42 u43 u44 u45 u46 u47 u48 : Value) (w : World) (hG : Rw B g c N f w0 w) :
    Code.wp Try.prog ins4_code (fun e a w' => ∃ y16 y17 y18 y19 y20 y21 y22 y23 y24 y25 y26 y27 y28 y29 : Value, a = ⟨(List.toArray (.slice (some ⟨g, 0, none⟩) N c :: .int .i64 (lo : Int) :: u2 :: u3 :: u4 :: u5 :: u6 :: .int .i64 ((j : Int) + 1) :: u8 :: u9 :: u10 :: u11 :: u12 :: u13 :: u14 :: u15 :: y16 :: y17 :: y18 :: y19 :: y20 :: y21 :: y22 :: y23 :: y24 :: y25 :: y26 :: y27 :: y28 :: y29 :: (.bool (decide (f (j + 1) < f (j)))) :: u31 :: u32 :: u33 :: u34 :: u35 :: u36 :: u37 :: u38 :: u39 :: u40 :: u41 :: u42 :: u43 :: u44 :: u45 :: u46 :: u47 :: u48 :: [])), []⟩ ∧ e = .normal ∧ (Rw B g c N f w0 w')) ⟨(List.toArray (.slice (some ⟨g, 0, none⟩) N c :: .int .i64 (lo : Int) :: u2 :: u3 :: u4 :: u5 :: u6 :: .int .i64 ((j : Int) + 1) :: u8 :: u9 :: u10 :: u11 :: u12 :: u13 :: u14 :: u15 :: u16 :: u17 :: u18 :: u19 :: u20 :: u21 :: u22 :: u23 :: u24 :: u25 :: u26 :: u27 :: u28 :: u29 :: u30 :: u31 :: u32 :: u33 :: u34 :: u35 :: u36 :: u37 :: u38 :: u39 :: u40 :: u41 :: u42 :: u43 :: u44 :: u45 :: u46 :: u47 :: u48 :: [])), []⟩ w := by
  conv => arg 2; whnf
  have hI0 : (j : Int) + 1 < (N : Int) := by omega
  have hP0 : (0 : Int) ≤ (j : Int) + 1 := by omega
  have hV0 : IntKind.i64.wrap ((j : Int) + 1) = (j : Int) + 1 := by rw [IntKind.wrap_i64]; omega
  have hT0 : ((j : Int) + 1).toNat = j + 1 := by omega
  have hI1 : (j : Int) < (N : Int) := by omega
  have hP1 : (0 : Int) ≤ (j : Int) := by omega
  have hV1 : IntKind.i64.wrap ((j : Int)) = (j : Int) := by rw [IntKind.wrap_i64]; omega
  refine wp_region_posts ins4_A [] [] ins4_kill ins4_uses [] [] [] []
      (some ?v0 :: some ?v1 :: some (.bool true) :: some (.bool true) :: some ?v4 :: some ?v5 :: some ?v6 :: some ?v7 :: some ?v8 :: some ?v9 :: some ?v10 :: some ?v11 :: some ?v12 :: some ((.bool (decide (f (j + 1) < f (j))))) :: some ?v14 :: [])
      ?T (fun wx => Rw B g c N f w0 wx) ?W ?E (by kernel_rfl) (by kernel_rfl) (by kernel_rfl) (fun x => ?hT) ?hF ?hini (Reg.all_ops ?runs) ?pres ?fin
  case W => exact fun j x w' => True
  case E => exact fun i wx wy => True
  case hT =>
    simp only [Reg.fillV, Act.put, List.setIfInBounds_toArray, List.set_cons_zero, List.set_cons_succ]
    rfl
  case runs =>
    refine And.intro ?_ ?_
    · refine Reg.ob_pure (fun _ => rfl) rfl rfl rfl rfl (fun x w1 hF => ?_)
      have cX := hF.cell (j + 1) hX
      have cY := hF.cell (j) hY
      go_simp
      with_reducible rfl
    refine And.intro ?_ ?_
    · refine Reg.ob_pure (fun _ => rfl) rfl rfl rfl rfl (fun x w1 hF => ?_)
      have cX := hF.cell (j + 1) hX
      have cY := hF.cell (j) hY
      go_simp
      with_reducible rfl
    refine And.intro ?_ ?_
    · refine Reg.ob_pure (fun _ => rfl) rfl rfl rfl rfl (fun x w1 hF => ?_)
      go_simp <;> omega
    refine And.intro ?_ ?_
    · refine Reg.ob_pure (fun _ => rfl) rfl rfl rfl rfl (fun x w1 hF => ?_)
      go_simp
    refine And.intro ?_ ?_
    · refine Reg.ob_pure (fun _ => rfl) rfl rfl rfl rfl (fun x w1 hF => ?_)
      have cX := hF.cell (j + 1) hX
      have cY := hF.cell (j) hY
      go_simp
      with_reducible rfl
    refine And.intro ?_ ?_
    · refine Reg.ob_pure (fun _ => rfl) rfl rfl rfl rfl (fun x w1 hF => ?_)
      have cX := hF.cell (j + 1) hX
      have cY := hF.cell (j) hY
      go_simp
      with_reducible rfl
    refine And.intro ?_ ?_
    · refine Reg.ob_pure (fun _ => rfl) rfl rfl rfl rfl (fun x w1 hF => ?_)
      have cX := hF.cell (j + 1) hX
      have cY := hF.cell (j) hY
      go_simp
      with_reducible rfl
    refine And.intro ?_ ?_
    · refine Reg.ob_pure (fun _ => rfl) rfl rfl rfl rfl (fun x w1 hF => ?_)
      have cX := hF.cell (j + 1) hX
      have cY := hF.cell (j) hY
      go_simp
      with_reducible rfl
    refine And.intro ?_ ?_
    · refine Reg.ob_pure (fun _ => rfl) rfl rfl rfl rfl (fun x w1 hF => ?_)
      have cX := hF.cell (j + 1) hX
      have cY := hF.cell (j) hY
      go_simp
      with_reducible rfl
    refine And.intro ?_ ?_
    · refine Reg.ob_pure (fun _ => rfl) rfl rfl rfl rfl (fun x w1 hF => ?_)
      have cX := hF.cell (j + 1) hX
      have cY := hF.cell (j) hY
      go_simp
      with_reducible rfl
    refine And.intro ?_ ?_
    · refine Reg.ob_pure (fun _ => rfl) rfl rfl rfl rfl (fun x w1 hF => ?_)
      have cX := hF.cell (j + 1) hX
      have cY := hF.cell (j) hY
      go_simp
      with_reducible rfl
    refine And.intro ?_ ?_
    · refine Reg.ob_pure (fun _ => rfl) rfl rfl rfl rfl (fun x w1 hF => ?_)
      have cX := hF.cell (j + 1) hX
      have cY := hF.cell (j) hY
      go_simp
      with_reducible rfl
    refine And.intro ?_ ?_
    · refine Reg.ob_pure (fun _ => rfl) rfl rfl rfl rfl (fun x w1 hF => ?_)
      have cX := hF.cell (j + 1) hX
      have cY := hF.cell (j) hY
      go_simp
      with_reducible rfl
    refine And.intro ?_ ?_
    · refine Reg.ob_known (fun _ => rfl) rfl rfl (fun x w1 hF hU K hK => ?_)
      replace hF := hF rfl
      go_simp
      refine (less_is (f (j + 1)) (f (j)) w1).mono ?_
      rintro e w5 ⟨rfl, rfl⟩
      exact hK _ (fun _ _ _ => hF) rfl
    refine And.intro ?_ ?_
    · refine Reg.ob_pure (fun _ => rfl) rfl rfl rfl rfl (fun x w1 hF => ?_)
      have cX := hF.cell (j + 1) hX
      have cY := hF.cell (j) hY
      go_simp
      with_reducible rfl
    exact trivial
  case hF =>
    exact hG.go ((Only.refl _ _).drewN 1)
  case hini =>
    exact trivial
  case pres =>
    intro i hi
    simp at hi
  case fin =>
    rintro x w9 hF hU
    repeat apply Exists.intro
    exact ⟨rfl, rfl, hF rfl⟩

set_option maxRecDepth 100000 in
set_option maxHeartbeats 600000 in
theorem ins4 (B g c N : Nat) (f : Nat → Nat) (w0 : World) (lo j : Nat) (hX : j + 1 < N) (hY : j < N) (hN : N ≤ 1000) (hg : lo < j + 1)  (u2 u3 u4 u5 u6 u8 u9 u10 u11 u12 u13 u14 u15 u16 u17 u18 u19 u20 u21 u22 u23 u24 u25 u26 u27 u28 u29 u30 u31 u32 u33 u34 u35 u36 u37 u38 u39 u40 u41 u42 u43 u44 u45 u46 u47 u48 : Value) (Q : Exit → Act → World → Prop) (w : World) (hG : Rw B g c N f w0 w)
    (hend : ∀ (y16 y17 y18 y19 y20 y21 y22 y23 y24 y25 y26 y27 y28 y29 : Value) (w' : World), (Rw B g c N f w0 w') → Q .normal ⟨(List.toArray (.slice (some ⟨g, 0, none⟩) N c :: .int .i64 (lo : Int) :: u2 :: u3 :: u4 :: u5 :: u6 :: .int .i64 ((j : Int) + 1) :: u8 :: u9 :: u10 :: u11 :: u12 :: u13 :: u14 :: u15 :: y16 :: y17 :: y18 :: y19 :: y20 :: y21 :: y22 :: y23 :: y24 :: y25 :: y26 :: y27 :: y28 :: y29 :: (.bool (decide (f (j + 1) < f (j)))) :: u31 :: u32 :: u33 :: u34 :: u35 :: u36 :: u37 :: u38 :: u39 :: u40 :: u41 :: u42 :: u43 :: u44 :: u45 :: u46 :: u47 :: u48 :: [])), []⟩ w') :
    Code.wp Try.prog ins4_code Q ⟨(List.toArray (.slice (some ⟨g, 0, none⟩) N c :: .int .i64 (lo : Int) :: u2 :: u3 :: u4 :: u5 :: u6 :: .int .i64 ((j : Int) + 1) :: u8 :: u9 :: u10 :: u11 :: u12 :: u13 :: u14 :: u15 :: u16 :: u17 :: u18 :: u19 :: u20 :: u21 :: u22 :: u23 :: u24 :: u25 :: u26 :: u27 :: u28 :: u29 :: u30 :: u31 :: u32 :: u33 :: u34 :: u35 :: u36 :: u37 :: u38 :: u39 :: u40 :: u41 :: u42 :: u43 :: u44 :: u45 :: u46 :: u47 :: u48 :: [])), []⟩ w := by
  refine wp_mono (ins4_in B g c N f w0 lo j hX hY hN hg _ _ _ _ _ _ _ _ _ _ _ _ _ _ _ _ _ _ _ _ _ _ _ _ _ _ _ _ _ _ _ _ _ _ _ _ _ _ _ _ _ _ _ _ _ _ w hG) ?_
  rintro e a w' h
  obtain ⟨y16, h⟩ := h
  obtain ⟨y17, h⟩ := h
  obtain ⟨y18, h⟩ := h
  obtain ⟨y19, h⟩ := h
  obtain ⟨y20, h⟩ := h
  obtain ⟨y21, h⟩ := h
  obtain ⟨y22, h⟩ := h
  obtain ⟨y23, h⟩ := h
  obtain ⟨y24, h⟩ := h
  obtain ⟨y25, h⟩ := h
  obtain ⟨y26, h⟩ := h
  obtain ⟨y27, h⟩ := h
  obtain ⟨y28, h⟩ := h
  obtain ⟨y29, h⟩ := h
  obtain ⟨h, rfl, hq⟩ := h
  subst h
  exact hend y16 y17 y18 y19 y20 y21 y22 y23 y24 y25 y26 y27 y28 y29 w' hq
def ins4f_A : List (List Nat) := ([] :: [] :: [0, 1] :: [2, 0, 1] :: [3, 2, 0, 1] :: [3, 2, 0, 1] :: [4, 5, 3, 2, 0, 1] :: [6, 3, 4, 5, 2, 0, 1] :: [3, 2, 0, 1] :: [3, 2, 0, 1] :: [9, 3, 2, 0, 1] :: [8, 10, 3, 2, 0, 1, 9] :: (11 :: 3 :: 8 :: 10 :: 2 :: 0 :: 1 :: 9 :: []) :: (7 :: 12 :: 3 :: 6 :: 4 :: 5 :: 2 :: 0 :: 1 :: 11 :: 8 :: 10 :: 9 :: []) :: (3 :: 13 :: 2 :: 0 :: 1 :: 7 :: 12 :: 6 :: 4 :: 5 :: 11 :: 8 :: 10 :: 9 :: []) :: [])
def ins4f_kill : List (List Nat) := ([] :: [] :: [] :: [] :: [] :: [] :: [] :: [] :: [] :: [] :: [] :: [] :: [] :: [] :: [] :: [])
def ins4f_uses : List (List Nat) := ([] :: [] :: [] :: [] :: [] :: [] :: [] :: [] :: [] :: [] :: [] :: [] :: [] :: [] :: [] :: [])
noncomputable def ins4f_code : Code := ((Try.f66.body.bind (codeRegion 4)).getD .skip)
set_option maxRecDepth 100000 in
set_option maxHeartbeats 600000 in
theorem ins4f_in (B g c N : Nat) (f : Nat → Nat) (w0 : World) (lo j : Nat) (hg : ¬ lo < j)  (u2 u3 u4 u5 u6 u8 u9 u10 u11 u12 u13 u14 u15 u16 u17 u18 u19 u20 u21 u22 u23 u24 u25 u26 u27 u28 u29 u30 u31 u32 u33 u34 u35 u36 u37 u38 u39 u40 u41 u42 u43 u44 u45 u46 u47 u48 : Value) (w : World) (hG : Rw B g c N f w0 w) :
    Code.wp Try.prog ins4f_code (fun e a w' => ∃ y16 y17 y18 y19 y20 y21 y22 y23 y24 y25 y26 y27 y28 y29 : Value, a = ⟨(List.toArray (.slice (some ⟨g, 0, none⟩) N c :: .int .i64 (lo : Int) :: u2 :: u3 :: u4 :: u5 :: u6 :: .int .i64 (j : Int) :: u8 :: u9 :: u10 :: u11 :: u12 :: u13 :: u14 :: u15 :: y16 :: y17 :: y18 :: y19 :: y20 :: y21 :: y22 :: y23 :: y24 :: y25 :: y26 :: y27 :: y28 :: y29 :: (.bool false) :: u31 :: u32 :: u33 :: u34 :: u35 :: u36 :: u37 :: u38 :: u39 :: u40 :: u41 :: u42 :: u43 :: u44 :: u45 :: u46 :: u47 :: u48 :: [])), []⟩ ∧ e = .normal ∧ (Rw B g c N f w0 w')) ⟨(List.toArray (.slice (some ⟨g, 0, none⟩) N c :: .int .i64 (lo : Int) :: u2 :: u3 :: u4 :: u5 :: u6 :: .int .i64 (j : Int) :: u8 :: u9 :: u10 :: u11 :: u12 :: u13 :: u14 :: u15 :: u16 :: u17 :: u18 :: u19 :: u20 :: u21 :: u22 :: u23 :: u24 :: u25 :: u26 :: u27 :: u28 :: u29 :: u30 :: u31 :: u32 :: u33 :: u34 :: u35 :: u36 :: u37 :: u38 :: u39 :: u40 :: u41 :: u42 :: u43 :: u44 :: u45 :: u46 :: u47 :: u48 :: [])), []⟩ w := by
  conv => arg 2; whnf
  refine wp_region_posts ins4f_A [] [] ins4f_kill ins4f_uses [] [] [] []
      (some ?v0 :: some ?v1 :: some (.bool false) :: some (.bool false) :: some undef :: some undef :: some undef :: some undef :: some undef :: some undef :: some undef :: some undef :: some undef :: some undef :: some ?v14 :: [])
      ?T (fun wx => Rw B g c N f w0 wx) ?W ?E (by kernel_rfl) (by kernel_rfl) (by kernel_rfl) (fun x => ?hT) ?hF ?hini (Reg.all_ops ?runs) ?pres ?fin
  case W => exact fun j x w' => True
  case E => exact fun i wx wy => True
  case hT =>
    simp only [Reg.fillV, Act.put, List.setIfInBounds_toArray, List.set_cons_zero, List.set_cons_succ]
    rfl
  case runs =>
    refine And.intro ?_ ?_
    · refine Reg.ob_pure (fun _ => rfl) rfl rfl rfl rfl (fun x w1 hF => ?_)
      have _h := hF
      go_simp
      with_reducible rfl
    refine And.intro ?_ ?_
    · refine Reg.ob_pure (fun _ => rfl) rfl rfl rfl rfl (fun x w1 hF => ?_)
      have _h := hF
      go_simp
      with_reducible rfl
    refine And.intro ?_ ?_
    · refine Reg.ob_pure (fun _ => rfl) rfl rfl rfl rfl (fun x w1 hF => ?_)
      go_simp <;> omega
    refine And.intro ?_ ?_
    · refine Reg.ob_pure (fun _ => rfl) rfl rfl rfl rfl (fun x w1 hF => ?_)
      go_simp
    refine And.intro ?_ ?_
    · exact Reg.ob_skip (fun _ => rfl) rfl rfl rfl
    refine And.intro ?_ ?_
    · exact Reg.ob_skip (fun _ => rfl) rfl rfl rfl
    refine And.intro ?_ ?_
    · exact Reg.ob_skip (fun _ => rfl) rfl rfl rfl
    refine And.intro ?_ ?_
    · exact Reg.ob_skip (fun _ => rfl) rfl rfl rfl
    refine And.intro ?_ ?_
    · exact Reg.ob_skip (fun _ => rfl) rfl rfl rfl
    refine And.intro ?_ ?_
    · exact Reg.ob_skip (fun _ => rfl) rfl rfl rfl
    refine And.intro ?_ ?_
    · exact Reg.ob_skip (fun _ => rfl) rfl rfl rfl
    refine And.intro ?_ ?_
    · exact Reg.ob_skip (fun _ => rfl) rfl rfl rfl
    refine And.intro ?_ ?_
    · exact Reg.ob_skip (fun _ => rfl) rfl rfl rfl
    refine And.intro ?_ ?_
    · exact Reg.ob_skip (fun _ => rfl) rfl rfl rfl
    refine And.intro ?_ ?_
    · refine Reg.ob_pure (fun _ => rfl) rfl rfl rfl rfl (fun x w1 hF => ?_)
      have _h := hF
      go_simp
      with_reducible rfl
    exact trivial
  case hF =>
    exact hG.go ((Only.refl _ _).drewN 1)
  case hini =>
    exact trivial
  case pres =>
    intro i hi
    simp at hi
  case fin =>
    rintro x w9 hF hU
    repeat apply Exists.intro
    exact ⟨rfl, rfl, hF rfl⟩

set_option maxRecDepth 100000 in
set_option maxHeartbeats 600000 in
theorem ins4f (B g c N : Nat) (f : Nat → Nat) (w0 : World) (lo j : Nat) (hg : ¬ lo < j)  (u2 u3 u4 u5 u6 u8 u9 u10 u11 u12 u13 u14 u15 u16 u17 u18 u19 u20 u21 u22 u23 u24 u25 u26 u27 u28 u29 u30 u31 u32 u33 u34 u35 u36 u37 u38 u39 u40 u41 u42 u43 u44 u45 u46 u47 u48 : Value) (Q : Exit → Act → World → Prop) (w : World) (hG : Rw B g c N f w0 w)
    (hend : ∀ (y16 y17 y18 y19 y20 y21 y22 y23 y24 y25 y26 y27 y28 y29 : Value) (w' : World), (Rw B g c N f w0 w') → Q .normal ⟨(List.toArray (.slice (some ⟨g, 0, none⟩) N c :: .int .i64 (lo : Int) :: u2 :: u3 :: u4 :: u5 :: u6 :: .int .i64 (j : Int) :: u8 :: u9 :: u10 :: u11 :: u12 :: u13 :: u14 :: u15 :: y16 :: y17 :: y18 :: y19 :: y20 :: y21 :: y22 :: y23 :: y24 :: y25 :: y26 :: y27 :: y28 :: y29 :: (.bool false) :: u31 :: u32 :: u33 :: u34 :: u35 :: u36 :: u37 :: u38 :: u39 :: u40 :: u41 :: u42 :: u43 :: u44 :: u45 :: u46 :: u47 :: u48 :: [])), []⟩ w') :
    Code.wp Try.prog ins4f_code Q ⟨(List.toArray (.slice (some ⟨g, 0, none⟩) N c :: .int .i64 (lo : Int) :: u2 :: u3 :: u4 :: u5 :: u6 :: .int .i64 (j : Int) :: u8 :: u9 :: u10 :: u11 :: u12 :: u13 :: u14 :: u15 :: u16 :: u17 :: u18 :: u19 :: u20 :: u21 :: u22 :: u23 :: u24 :: u25 :: u26 :: u27 :: u28 :: u29 :: u30 :: u31 :: u32 :: u33 :: u34 :: u35 :: u36 :: u37 :: u38 :: u39 :: u40 :: u41 :: u42 :: u43 :: u44 :: u45 :: u46 :: u47 :: u48 :: [])), []⟩ w := by
  refine wp_mono (ins4f_in B g c N f w0 lo j hg _ _ _ _ _ _ _ _ _ _ _ _ _ _ _ _ _ _ _ _ _ _ _ _ _ _ _ _ _ _ _ _ _ _ _ _ _ _ _ _ _ _ _ _ _ _ w hG) ?_
  rintro e a w' h
  obtain ⟨y16, h⟩ := h
  obtain ⟨y17, h⟩ := h
  obtain ⟨y18, h⟩ := h
  obtain ⟨y19, h⟩ := h
  obtain ⟨y20, h⟩ := h
  obtain ⟨y21, h⟩ := h
  obtain ⟨y22, h⟩ := h
  obtain ⟨y23, h⟩ := h
  obtain ⟨y24, h⟩ := h
  obtain ⟨y25, h⟩ := h
  obtain ⟨y26, h⟩ := h
  obtain ⟨y27, h⟩ := h
  obtain ⟨y28, h⟩ := h
  obtain ⟨y29, h⟩ := h
  obtain ⟨h, rfl, hq⟩ := h
  subst h
  exact hend y16 y17 y18 y19 y20 y21 y22 y23 y24 y25 y26 y27 y28 y29 w' hq
def ins6_A : List (List Nat) := ([] :: [] :: [] :: [] :: [3] :: [] :: [] :: [6] :: [5, 7, 6] :: [8, 5, 7, 6] :: [] :: [] :: [10, 11] :: [12, 10, 11] :: (0 :: 1 :: 5 :: 6 :: 7 :: 8 :: 9 :: 13 :: 12 :: 10 :: 11 :: []) :: (14 :: 9 :: 0 :: 1 :: 5 :: 6 :: 7 :: 8 :: 13 :: 12 :: 10 :: 11 :: []) :: (2 :: 4 :: 0 :: 1 :: 3 :: 5 :: 6 :: 7 :: 8 :: 9 :: 10 :: 11 :: 12 :: 13 :: 14 :: 15 :: []) :: (16 :: 13 :: 15 :: 0 :: 1 :: 2 :: 3 :: 4 :: 5 :: 6 :: 7 :: 8 :: 9 :: 10 :: 11 :: 12 :: 14 :: []) :: [])
def ins6_kill : List (List Nat) := ([] :: [] :: [] :: [] :: [] :: [] :: [] :: [] :: [] :: [] :: [] :: [] :: [] :: [] :: [] :: [] :: [] :: [15] :: [])
def ins6_uses : List (List Nat) := ([] :: [] :: [] :: [] :: [] :: [] :: [] :: [] :: [] :: [] :: [] :: [] :: [] :: [] :: [] :: [] :: [] :: [15] :: [])
noncomputable def ins6_code : Code := ((Try.f66.body.bind (codeRegion 6)).getD .skip)
set_option maxRecDepth 100000 in
set_option maxHeartbeats 600000 in
theorem ins6_in (B g c N : Nat) (f : Nat → Nat) (w0 : World) (j : Nat) (hX : j + 1 < N) (hY : j < N) (hN : N ≤ 1000)  (u1 u2 u3 u4 u5 u6 u8 u9 u10 u11 u12 u13 u14 u15 u16 u17 u18 u19 u20 u21 u22 u23 u24 u25 u26 u27 u28 u29 u30 u31 u32 u33 u34 u35 u36 u37 u38 u39 u40 u41 u42 u43 u44 u45 u46 u47 u48 : Value) (w : World) (hG : Rw B g c N f w0 w) :
    Code.wp Try.prog ins6_code (fun e a w' => ∃ y33 y34 y35 y36 y37 y38 y39 y40 y41 y42 y43 y44 y45 y46 y47 y48 : Value, a = ⟨(List.toArray (.slice (some ⟨g, 0, none⟩) N c :: u1 :: u2 :: u3 :: u4 :: u5 :: u6 :: .int .i64 ((j : Int) + 1) :: u8 :: u9 :: u10 :: u11 :: u12 :: u13 :: u14 :: u15 :: u16 :: u17 :: u18 :: u19 :: u20 :: u21 :: u22 :: u23 :: u24 :: u25 :: u26 :: u27 :: u28 :: u29 :: u30 :: u31 :: u32 :: y33 :: y34 :: y35 :: y36 :: y37 :: y38 :: y39 :: y40 :: y41 :: y42 :: y43 :: y44 :: y45 :: y46 :: y47 :: y48 :: [])), []⟩ ∧ e = .normal ∧ (Rw B g c N (swp f (j + 1) (j)) w0 w')) ⟨(List.toArray (.slice (some ⟨g, 0, none⟩) N c :: u1 :: u2 :: u3 :: u4 :: u5 :: u6 :: .int .i64 ((j : Int) + 1) :: u8 :: u9 :: u10 :: u11 :: u12 :: u13 :: u14 :: u15 :: u16 :: u17 :: u18 :: u19 :: u20 :: u21 :: u22 :: u23 :: u24 :: u25 :: u26 :: u27 :: u28 :: u29 :: u30 :: u31 :: u32 :: u33 :: u34 :: u35 :: u36 :: u37 :: u38 :: u39 :: u40 :: u41 :: u42 :: u43 :: u44 :: u45 :: u46 :: u47 :: u48 :: [])), []⟩ w := by
  conv => arg 2; whnf
  have hI0 : (j : Int) + 1 < (N : Int) := by omega
  have hP0 : (0 : Int) ≤ (j : Int) + 1 := by omega
  have hV0 : IntKind.i64.wrap ((j : Int) + 1) = (j : Int) + 1 := by rw [IntKind.wrap_i64]; omega
  have hT0 : ((j : Int) + 1).toNat = j + 1 := by omega
  have hI1 : (j : Int) < (N : Int) := by omega
  have hP1 : (0 : Int) ≤ (j : Int) := by omega
  have hV1 : IntKind.i64.wrap ((j : Int)) = (j : Int) := by rw [IntKind.wrap_i64]; omega
  refine wp_region_posts ins6_A [15, 17] [15, 17] ins6_kill ins6_uses [17] [15, 17] [0, 1, 2, 3, 4, 5, 6, 7, 8, 10, 11, 12, 14, 16, 17] []
      (some ?v0 :: some ?v1 :: some ?v2 :: some ?v3 :: some ?v4 :: some ?v5 :: some ?v6 :: some ?v7 :: some ?v8 :: some ?v9 :: some ?v10 :: some ?v11 :: some ?v12 :: some ?v13 :: some ?v14 :: none :: some ?v16 :: none :: [])
      ?T (fun wx => Rw B g c N f w0 wx) ?W ?E (by kernel_rfl) (by kernel_rfl) (by kernel_rfl) (fun x => ?hT) ?hF ?hini (Reg.all_ops ?runs) ?pres ?fin
  case W => exact fun jj x w' => match jj with | 15 => Rw B g c N (updf f (j + 1) (f (j))) w0 w' | 17 => Rw B g c N (swp f (j + 1) (j)) w0 w' | _ => True
  case E => exact fun i wx wy => True
  case hT =>
    simp only [Reg.fillV, Act.put, List.setIfInBounds_toArray, List.set_cons_zero, List.set_cons_succ]
    rfl
  case runs =>
    refine And.intro ?_ ?_
    · refine Reg.ob_bare (fun _ => rfl) rfl rfl rfl (fun x w1 => ?_)
      go_simp
      with_reducible rfl
    refine And.intro ?_ ?_
    · refine Reg.ob_bare (fun _ => rfl) rfl rfl rfl (fun x w1 => ?_)
      go_simp
      with_reducible rfl
    refine And.intro ?_ ?_
    · refine Reg.ob_bare (fun _ => rfl) rfl rfl rfl (fun x w1 => ?_)
      go_simp
      with_reducible rfl
    refine And.intro ?_ ?_
    · refine Reg.ob_bare (fun _ => rfl) rfl rfl rfl (fun x w1 => ?_)
      go_simp
      with_reducible rfl
    refine And.intro ?_ ?_
    · refine Reg.ob_bare (fun _ => rfl) rfl rfl rfl (fun x w1 => ?_)
      go_simp
      with_reducible rfl
    refine And.intro ?_ ?_
    · refine Reg.ob_bare (fun _ => rfl) rfl rfl rfl (fun x w1 => ?_)
      go_simp
      with_reducible rfl
    refine And.intro ?_ ?_
    · refine Reg.ob_bare (fun _ => rfl) rfl rfl rfl (fun x w1 => ?_)
      go_simp
      with_reducible rfl
    refine And.intro ?_ ?_
    · refine Reg.ob_bare (fun _ => rfl) rfl rfl rfl (fun x w1 => ?_)
      go_simp
      with_reducible rfl
    refine And.intro ?_ ?_
    · refine Reg.ob_bare (fun _ => rfl) rfl rfl rfl (fun x w1 => ?_)
      go_simp
      with_reducible rfl
    refine And.intro ?_ ?_
    · refine Reg.ob_pure (fun _ => rfl) rfl rfl rfl rfl (fun x w1 hF => ?_)
      have cX := hF.cell (j + 1) hX
      have cY := hF.cell (j) hY
      go_simp
      with_reducible rfl
    refine And.intro ?_ ?_
    · refine Reg.ob_bare (fun _ => rfl) rfl rfl rfl (fun x w1 => ?_)
      go_simp
      with_reducible rfl
    refine And.intro ?_ ?_
    · refine Reg.ob_bare (fun _ => rfl) rfl rfl rfl (fun x w1 => ?_)
      go_simp
      with_reducible rfl
    refine And.intro ?_ ?_
    · refine Reg.ob_bare (fun _ => rfl) rfl rfl rfl (fun x w1 => ?_)
      go_simp
      with_reducible rfl
    refine And.intro ?_ ?_
    · refine Reg.ob_pure (fun _ => rfl) rfl rfl rfl rfl (fun x w1 hF => ?_)
      have cX := hF.cell (j + 1) hX
      have cY := hF.cell (j) hY
      go_simp
      with_reducible rfl
    refine And.intro ?_ ?_
    · refine Reg.ob_bare (fun _ => rfl) rfl rfl rfl (fun x w1 => ?_)
      go_simp
      with_reducible rfl
    refine And.intro ?_ ?_
    · refine Reg.ob_some (fun _ => rfl) rfl (fun x w1 hF hU K hK => ?_)
      replace hF := hF rfl
      have cX := hF.cell (j + 1) hX
      have fX := hF.free (j + 1)
      go_simp
      exact hK undef _ (fun _ h _ => by cases h) trivial (hF.put (j + 1) (f (j)) hX)
    refine And.intro ?_ ?_
    · refine Reg.ob_bare (fun _ => rfl) rfl rfl rfl (fun x w1 => ?_)
      go_simp
      with_reducible rfl
    refine And.intro ?_ ?_
    · refine Reg.ob_some (fun _ => rfl) rfl (fun x w1 hF hU K hK => ?_)
      obtain ⟨hR, -⟩ := hU
      have hR : Rw B g c N (updf f (j + 1) (f (j))) w0 w1 := hR
      have cY := hR.cell (j) hY
      have fY := hR.free (j)
      go_simp
      exact hK undef _ (fun _ h _ => by cases h) trivial (hR.put2 hY)
    exact trivial
  case hF =>
    exact hG.go ((Only.refl _ _).drewN 1)
  case hini =>
    exact trivial
  case pres =>
    intro i hi j hj hc x wx wy hF hE hW
    simp only [List.mem_cons, List.mem_nil_iff, or_false] at hi hj
    rcases hi with rfl | rfl <;> rcases hj with rfl | rfl
    all_goals (exfalso; revert hc; decide)
  case fin =>
    rintro x w9 hF hU
    obtain ⟨hQ, -⟩ := hU
    repeat apply Exists.intro
    exact ⟨rfl, rfl, hQ⟩

set_option maxRecDepth 100000 in
set_option maxHeartbeats 600000 in
theorem ins6 (B g c N : Nat) (f : Nat → Nat) (w0 : World) (j : Nat) (hX : j + 1 < N) (hY : j < N) (hN : N ≤ 1000)  (u1 u2 u3 u4 u5 u6 u8 u9 u10 u11 u12 u13 u14 u15 u16 u17 u18 u19 u20 u21 u22 u23 u24 u25 u26 u27 u28 u29 u30 u31 u32 u33 u34 u35 u36 u37 u38 u39 u40 u41 u42 u43 u44 u45 u46 u47 u48 : Value) (Q : Exit → Act → World → Prop) (w : World) (hG : Rw B g c N f w0 w)
    (hend : ∀ (y33 y34 y35 y36 y37 y38 y39 y40 y41 y42 y43 y44 y45 y46 y47 y48 : Value) (w' : World), (Rw B g c N (swp f (j + 1) (j)) w0 w') → Q .normal ⟨(List.toArray (.slice (some ⟨g, 0, none⟩) N c :: u1 :: u2 :: u3 :: u4 :: u5 :: u6 :: .int .i64 ((j : Int) + 1) :: u8 :: u9 :: u10 :: u11 :: u12 :: u13 :: u14 :: u15 :: u16 :: u17 :: u18 :: u19 :: u20 :: u21 :: u22 :: u23 :: u24 :: u25 :: u26 :: u27 :: u28 :: u29 :: u30 :: u31 :: u32 :: y33 :: y34 :: y35 :: y36 :: y37 :: y38 :: y39 :: y40 :: y41 :: y42 :: y43 :: y44 :: y45 :: y46 :: y47 :: y48 :: [])), []⟩ w') :
    Code.wp Try.prog ins6_code Q ⟨(List.toArray (.slice (some ⟨g, 0, none⟩) N c :: u1 :: u2 :: u3 :: u4 :: u5 :: u6 :: .int .i64 ((j : Int) + 1) :: u8 :: u9 :: u10 :: u11 :: u12 :: u13 :: u14 :: u15 :: u16 :: u17 :: u18 :: u19 :: u20 :: u21 :: u22 :: u23 :: u24 :: u25 :: u26 :: u27 :: u28 :: u29 :: u30 :: u31 :: u32 :: u33 :: u34 :: u35 :: u36 :: u37 :: u38 :: u39 :: u40 :: u41 :: u42 :: u43 :: u44 :: u45 :: u46 :: u47 :: u48 :: [])), []⟩ w := by
  refine wp_mono (ins6_in B g c N f w0 j hX hY hN _ _ _ _ _ _ _ _ _ _ _ _ _ _ _ _ _ _ _ _ _ _ _ _ _ _ _ _ _ _ _ _ _ _ _ _ _ _ _ _ _ _ _ _ _ _ _ w hG) ?_
  rintro e a w' h
  obtain ⟨y33, h⟩ := h
  obtain ⟨y34, h⟩ := h
  obtain ⟨y35, h⟩ := h
  obtain ⟨y36, h⟩ := h
  obtain ⟨y37, h⟩ := h
  obtain ⟨y38, h⟩ := h
  obtain ⟨y39, h⟩ := h
  obtain ⟨y40, h⟩ := h
  obtain ⟨y41, h⟩ := h
  obtain ⟨y42, h⟩ := h
  obtain ⟨y43, h⟩ := h
  obtain ⟨y44, h⟩ := h
  obtain ⟨y45, h⟩ := h
  obtain ⟨y46, h⟩ := h
  obtain ⟨y47, h⟩ := h
  obtain ⟨y48, h⟩ := h
  obtain ⟨h, rfl, hq⟩ := h
  subst h
  exact hend y33 y34 y35 y36 y37 y38 y39 y40 y41 y42 y43 y44 y45 y46 y47 y48 w' hq
def sft3_A : List (List Nat) := ([] :: [0] :: [] :: [1, 2, 0] :: [3, 1, 2, 0] :: [4, 3, 1, 2, 0] :: [4, 3, 1, 2, 0] :: [4, 3, 1, 2, 0] :: [6, 7, 4, 3, 1, 2, 0] :: (5 :: 8 :: 4 :: 3 :: 1 :: 2 :: 0 :: 6 :: 7 :: []) :: (9 :: 4 :: 5 :: 8 :: 3 :: 1 :: 2 :: 0 :: 6 :: 7 :: []) :: [4, 3, 1, 2, 0] :: [4, 3, 1, 2, 0] :: [4, 3, 1, 2, 0] :: [12, 13, 4, 3, 1, 2, 0] :: (14 :: 4 :: 12 :: 13 :: 3 :: 1 :: 2 :: 0 :: []) :: (11 :: 15 :: 4 :: 3 :: 1 :: 2 :: 0 :: 14 :: 12 :: 13 :: []) :: (16 :: 4 :: 11 :: 15 :: 3 :: 1 :: 2 :: 0 :: 14 :: 12 :: 13 :: []) :: (10 :: 17 :: 4 :: 9 :: 5 :: 8 :: 3 :: 1 :: 2 :: 0 :: 6 :: 7 :: 16 :: 11 :: 15 :: 14 :: 12 :: 13 :: []) :: (4 :: 18 :: 3 :: 1 :: 2 :: 0 :: 10 :: 17 :: 9 :: 5 :: 8 :: 6 :: 7 :: 16 :: 11 :: 15 :: 14 :: 12 :: 13 :: []) :: [])
def sft3_kill : List (List Nat) := ([] :: [] :: [] :: [] :: [] :: [] :: [] :: [] :: [] :: [] :: [] :: [] :: [] :: [] :: [] :: [] :: [] :: [] :: [] :: [] :: [])
def sft3_uses : List (List Nat) := ([] :: [] :: [] :: [] :: [] :: [] :: [] :: [] :: [] :: [] :: [] :: [] :: [] :: [] :: [] :: [] :: [] :: [] :: [] :: [] :: [])
noncomputable def sft3_code : Code := ((Try.f77.body.bind (codeRegion 3)).getD .skip)
set_option maxRecDepth 100000 in
set_option maxHeartbeats 600000 in
theorem sft3_in (B g c N : Nat) (f : Nat → Nat) (w0 : World) (lo n1 k : Nat) (hX : lo + k < N) (hY : lo + k + 1 < N) (hN : N ≤ 1000) (hg : k + 1 < n1)  (u1 u4 u5 u6 u7 u8 u10 u11 u12 u13 u14 u15 u16 u17 u18 u19 u20 u21 u22 u23 u24 u25 u26 u27 u28 u29 u30 u31 u32 u33 u34 u35 u36 u37 u38 u39 u40 u41 u42 u43 u44 u45 u46 u47 u48 u49 u50 u51 u52 u53 u54 u55 u56 u57 u58 u59 u60 u61 u62 u63 u64 u65 u66 u67 u68 u69 u70 u71 u72 u73 u74 u75 : Value) (w : World) (hG : Rw B g c N f w0 w) :
    Code.wp Try.prog sft3_code (fun e a w' => ∃ y17 y18 y19 y20 y21 y22 y23 y24 y25 y26 y27 y28 y29 y30 y31 y32 y33 y34 y35 : Value, a = ⟨(List.toArray (.slice (some ⟨g, 0, none⟩) N c :: u1 :: .int .i64 (n1 : Int) :: .int .i64 (lo : Int) :: u4 :: u5 :: u6 :: u7 :: u8 :: .int .i64 (k : Int) :: u10 :: u11 :: u12 :: u13 :: u14 :: u15 :: u16 :: y17 :: y18 :: y19 :: y20 :: y21 :: y22 :: y23 :: y24 :: y25 :: y26 :: y27 :: y28 :: y29 :: y30 :: y31 :: y32 :: y33 :: y34 :: y35 :: (.bool (decide (f (lo + k) < f (lo + k + 1)))) :: u37 :: u38 :: u39 :: u40 :: u41 :: u42 :: u43 :: u44 :: u45 :: u46 :: u47 :: u48 :: u49 :: u50 :: u51 :: u52 :: u53 :: u54 :: u55 :: u56 :: u57 :: u58 :: u59 :: u60 :: u61 :: u62 :: u63 :: u64 :: u65 :: u66 :: u67 :: u68 :: u69 :: u70 :: u71 :: u72 :: u73 :: u74 :: u75 :: [])), []⟩ ∧ e = .normal ∧ (Rw B g c N f w0 w')) ⟨(List.toArray (.slice (some ⟨g, 0, none⟩) N c :: u1 :: .int .i64 (n1 : Int) :: .int .i64 (lo : Int) :: u4 :: u5 :: u6 :: u7 :: u8 :: .int .i64 (k : Int) :: u10 :: u11 :: u12 :: u13 :: u14 :: u15 :: u16 :: u17 :: u18 :: u19 :: u20 :: u21 :: u22 :: u23 :: u24 :: u25 :: u26 :: u27 :: u28 :: u29 :: u30 :: u31 :: u32 :: u33 :: u34 :: u35 :: u36 :: u37 :: u38 :: u39 :: u40 :: u41 :: u42 :: u43 :: u44 :: u45 :: u46 :: u47 :: u48 :: u49 :: u50 :: u51 :: u52 :: u53 :: u54 :: u55 :: u56 :: u57 :: u58 :: u59 :: u60 :: u61 :: u62 :: u63 :: u64 :: u65 :: u66 :: u67 :: u68 :: u69 :: u70 :: u71 :: u72 :: u73 :: u74 :: u75 :: [])), []⟩ w := by
  conv => arg 2; whnf
  have hI0 : (lo : Int) + (k : Int) < (N : Int) := by omega
  have hP0 : (0 : Int) ≤ (lo : Int) + (k : Int) := by omega
  have hV0 : IntKind.i64.wrap ((lo : Int) + (k : Int)) = (lo : Int) + (k : Int) := by rw [IntKind.wrap_i64]; omega
  have hT0 : ((lo : Int) + (k : Int)).toNat = lo + k := by omega
  have hI1 : (lo : Int) + (k : Int) + 1 < (N : Int) := by omega
  have hP1 : (0 : Int) ≤ (lo : Int) + (k : Int) + 1 := by omega
  have hV1 : IntKind.i64.wrap ((lo : Int) + (k : Int) + 1) = (lo : Int) + (k : Int) + 1 := by rw [IntKind.wrap_i64]; omega
  have hT1 : ((lo : Int) + (k : Int) + 1).toNat = lo + k + 1 := by omega
  have hw0 : IntKind.i64.wrap ((lo : Int) + (k : Int)) = (lo : Int) + (k : Int) := by rw [IntKind.wrap_i64]; omega
  have hw1 : IntKind.i64.wrap ((lo : Int) + (k : Int) + 1) = (lo : Int) + (k : Int) + 1 := by rw [IntKind.wrap_i64]; omega
  have hw2 : IntKind.i64.wrap ((k : Int) + 1) = (k : Int) + 1 := by rw [IntKind.wrap_i64]; omega
  refine wp_region_posts sft3_A [] [] sft3_kill sft3_uses [] [] [] []
      (some ?v0 :: some ?v1 :: some ?v2 :: some (.bool true) :: some (.bool true) :: some ?v5 :: some ?v6 :: some ?v7 :: some ?v8 :: some ?v9 :: some ?v10 :: some ?v11 :: some ?v12 :: some ?v13 :: some ?v14 :: some ?v15 :: some ?v16 :: some ?v17 :: some ((.bool (decide (f (lo + k) < f (lo + k + 1))))) :: some ?v19 :: [])
      ?T (fun wx => Rw B g c N f w0 wx) ?W ?E (by kernel_rfl) (by kernel_rfl) (by kernel_rfl) (fun x => ?hT) ?hF ?hini (Reg.all_ops ?runs) ?pres ?fin
  case W => exact fun j x w' => True
  case E => exact fun i wx wy => True
  case hT =>
    simp only [Reg.fillV, Act.put, List.setIfInBounds_toArray, List.set_cons_zero, List.set_cons_succ]
    rfl
  case runs =>
    refine And.intro ?_ ?_
    · refine Reg.ob_pure (fun _ => rfl) rfl rfl rfl rfl (fun x w1 hF => ?_)
      have cX := hF.cell (lo + k) hX
      have cY := hF.cell (lo + k + 1) hY
      go_simp
      with_reducible rfl
    refine And.intro ?_ ?_
    · refine Reg.ob_pure (fun _ => rfl) rfl rfl rfl rfl (fun x w1 hF => ?_)
      have cX := hF.cell (lo + k) hX
      have cY := hF.cell (lo + k + 1) hY
      go_simp
      with_reducible rfl
    refine And.intro ?_ ?_
    · refine Reg.ob_pure (fun _ => rfl) rfl rfl rfl rfl (fun x w1 hF => ?_)
      have cX := hF.cell (lo + k) hX
      have cY := hF.cell (lo + k + 1) hY
      go_simp
      with_reducible rfl
    refine And.intro ?_ ?_
    · refine Reg.ob_pure (fun _ => rfl) rfl rfl rfl rfl (fun x w1 hF => ?_)
      go_simp <;> omega
    refine And.intro ?_ ?_
    · refine Reg.ob_pure (fun _ => rfl) rfl rfl rfl rfl (fun x w1 hF => ?_)
      go_simp
    refine And.intro ?_ ?_
    · refine Reg.ob_pure (fun _ => rfl) rfl rfl rfl rfl (fun x w1 hF => ?_)
      have cX := hF.cell (lo + k) hX
      have cY := hF.cell (lo + k + 1) hY
      go_simp
      with_reducible rfl
    refine And.intro ?_ ?_
    · refine Reg.ob_pure (fun _ => rfl) rfl rfl rfl rfl (fun x w1 hF => ?_)
      have cX := hF.cell (lo + k) hX
      have cY := hF.cell (lo + k + 1) hY
      go_simp
      with_reducible rfl
    refine And.intro ?_ ?_
    · refine Reg.ob_pure (fun _ => rfl) rfl rfl rfl rfl (fun x w1 hF => ?_)
      have cX := hF.cell (lo + k) hX
      have cY := hF.cell (lo + k + 1) hY
      go_simp
      with_reducible rfl
    refine And.intro ?_ ?_
    · refine Reg.ob_pure (fun _ => rfl) rfl rfl rfl rfl (fun x w1 hF => ?_)
      have cX := hF.cell (lo + k) hX
      have cY := hF.cell (lo + k + 1) hY
      go_simp
      with_reducible rfl
    refine And.intro ?_ ?_
    · refine Reg.ob_pure (fun _ => rfl) rfl rfl rfl rfl (fun x w1 hF => ?_)
      have cX := hF.cell (lo + k) hX
      have cY := hF.cell (lo + k + 1) hY
      go_simp
      with_reducible rfl
    refine And.intro ?_ ?_
    · refine Reg.ob_pure (fun _ => rfl) rfl rfl rfl rfl (fun x w1 hF => ?_)
      have cX := hF.cell (lo + k) hX
      have cY := hF.cell (lo + k + 1) hY
      go_simp
      with_reducible rfl
    refine And.intro ?_ ?_
    · refine Reg.ob_pure (fun _ => rfl) rfl rfl rfl rfl (fun x w1 hF => ?_)
      have cX := hF.cell (lo + k) hX
      have cY := hF.cell (lo + k + 1) hY
      go_simp
      with_reducible rfl
    refine And.intro ?_ ?_
    · refine Reg.ob_pure (fun _ => rfl) rfl rfl rfl rfl (fun x w1 hF => ?_)
      have cX := hF.cell (lo + k) hX
      have cY := hF.cell (lo + k + 1) hY
      go_simp
      with_reducible rfl
    refine And.intro ?_ ?_
    · refine Reg.ob_pure (fun _ => rfl) rfl rfl rfl rfl (fun x w1 hF => ?_)
      have cX := hF.cell (lo + k) hX
      have cY := hF.cell (lo + k + 1) hY
      go_simp
      with_reducible rfl
    refine And.intro ?_ ?_
    · refine Reg.ob_pure (fun _ => rfl) rfl rfl rfl rfl (fun x w1 hF => ?_)
      have cX := hF.cell (lo + k) hX
      have cY := hF.cell (lo + k + 1) hY
      go_simp
      with_reducible rfl
    refine And.intro ?_ ?_
    · refine Reg.ob_pure (fun _ => rfl) rfl rfl rfl rfl (fun x w1 hF => ?_)
      have cX := hF.cell (lo + k) hX
      have cY := hF.cell (lo + k + 1) hY
      go_simp
      with_reducible rfl
    refine And.intro ?_ ?_
    · refine Reg.ob_pure (fun _ => rfl) rfl rfl rfl rfl (fun x w1 hF => ?_)
      have cX := hF.cell (lo + k) hX
      have cY := hF.cell (lo + k + 1) hY
      go_simp
      with_reducible rfl
    refine And.intro ?_ ?_
    · refine Reg.ob_pure (fun _ => rfl) rfl rfl rfl rfl (fun x w1 hF => ?_)
      have cX := hF.cell (lo + k) hX
      have cY := hF.cell (lo + k + 1) hY
      go_simp
      with_reducible rfl
    refine And.intro ?_ ?_
    · refine Reg.ob_known (fun _ => rfl) rfl rfl (fun x w1 hF hU K hK => ?_)
      replace hF := hF rfl
      go_simp
      refine (less_is (f (lo + k)) (f (lo + k + 1)) w1).mono ?_
      rintro e w5 ⟨rfl, rfl⟩
      exact hK _ (fun _ _ _ => hF) rfl
    refine And.intro ?_ ?_
    · refine Reg.ob_pure (fun _ => rfl) rfl rfl rfl rfl (fun x w1 hF => ?_)
      have cX := hF.cell (lo + k) hX
      have cY := hF.cell (lo + k + 1) hY
      go_simp
      with_reducible rfl
    exact trivial
  case hF =>
    exact hG.go ((Only.refl _ _).drewN 1)
  case hini =>
    exact trivial
  case pres =>
    intro i hi
    simp at hi
  case fin =>
    rintro x w9 hF hU
    repeat apply Exists.intro
    exact ⟨rfl, rfl, hF rfl⟩

set_option maxRecDepth 100000 in
set_option maxHeartbeats 600000 in
theorem sft3 (B g c N : Nat) (f : Nat → Nat) (w0 : World) (lo n1 k : Nat) (hX : lo + k < N) (hY : lo + k + 1 < N) (hN : N ≤ 1000) (hg : k + 1 < n1)  (u1 u4 u5 u6 u7 u8 u10 u11 u12 u13 u14 u15 u16 u17 u18 u19 u20 u21 u22 u23 u24 u25 u26 u27 u28 u29 u30 u31 u32 u33 u34 u35 u36 u37 u38 u39 u40 u41 u42 u43 u44 u45 u46 u47 u48 u49 u50 u51 u52 u53 u54 u55 u56 u57 u58 u59 u60 u61 u62 u63 u64 u65 u66 u67 u68 u69 u70 u71 u72 u73 u74 u75 : Value) (Q : Exit → Act → World → Prop) (w : World) (hG : Rw B g c N f w0 w)
    (hend : ∀ (y17 y18 y19 y20 y21 y22 y23 y24 y25 y26 y27 y28 y29 y30 y31 y32 y33 y34 y35 : Value) (w' : World), (Rw B g c N f w0 w') → Q .normal ⟨(List.toArray (.slice (some ⟨g, 0, none⟩) N c :: u1 :: .int .i64 (n1 : Int) :: .int .i64 (lo : Int) :: u4 :: u5 :: u6 :: u7 :: u8 :: .int .i64 (k : Int) :: u10 :: u11 :: u12 :: u13 :: u14 :: u15 :: u16 :: y17 :: y18 :: y19 :: y20 :: y21 :: y22 :: y23 :: y24 :: y25 :: y26 :: y27 :: y28 :: y29 :: y30 :: y31 :: y32 :: y33 :: y34 :: y35 :: (.bool (decide (f (lo + k) < f (lo + k + 1)))) :: u37 :: u38 :: u39 :: u40 :: u41 :: u42 :: u43 :: u44 :: u45 :: u46 :: u47 :: u48 :: u49 :: u50 :: u51 :: u52 :: u53 :: u54 :: u55 :: u56 :: u57 :: u58 :: u59 :: u60 :: u61 :: u62 :: u63 :: u64 :: u65 :: u66 :: u67 :: u68 :: u69 :: u70 :: u71 :: u72 :: u73 :: u74 :: u75 :: [])), []⟩ w') :
    Code.wp Try.prog sft3_code Q ⟨(List.toArray (.slice (some ⟨g, 0, none⟩) N c :: u1 :: .int .i64 (n1 : Int) :: .int .i64 (lo : Int) :: u4 :: u5 :: u6 :: u7 :: u8 :: .int .i64 (k : Int) :: u10 :: u11 :: u12 :: u13 :: u14 :: u15 :: u16 :: u17 :: u18 :: u19 :: u20 :: u21 :: u22 :: u23 :: u24 :: u25 :: u26 :: u27 :: u28 :: u29 :: u30 :: u31 :: u32 :: u33 :: u34 :: u35 :: u36 :: u37 :: u38 :: u39 :: u40 :: u41 :: u42 :: u43 :: u44 :: u45 :: u46 :: u47 :: u48 :: u49 :: u50 :: u51 :: u52 :: u53 :: u54 :: u55 :: u56 :: u57 :: u58 :: u59 :: u60 :: u61 :: u62 :: u63 :: u64 :: u65 :: u66 :: u67 :: u68 :: u69 :: u70 :: u71 :: u72 :: u73 :: u74 :: u75 :: [])), []⟩ w := by
  refine wp_mono (sft3_in B g c N f w0 lo n1 k hX hY hN hg _ _ _ _ _ _ _ _ _ _ _ _ _ _ _ _ _ _ _ _ _ _ _ _ _ _ _ _ _ _ _ _ _ _ _ _ _ _ _ _ _ _ _ _ _ _ _ _ _ _ _ _ _ _ _ _ _ _ _ _ _ _ _ _ _ _ _ _ _ _ _ _ w hG) ?_
  rintro e a w' h
  obtain ⟨y17, h⟩ := h
  obtain ⟨y18, h⟩ := h
  obtain ⟨y19, h⟩ := h
  obtain ⟨y20, h⟩ := h
  obtain ⟨y21, h⟩ := h
  obtain ⟨y22, h⟩ := h
  obtain ⟨y23, h⟩ := h
  obtain ⟨y24, h⟩ := h
  obtain ⟨y25, h⟩ := h
  obtain ⟨y26, h⟩ := h
  obtain ⟨y27, h⟩ := h
  obtain ⟨y28, h⟩ := h
  obtain ⟨y29, h⟩ := h
  obtain ⟨y30, h⟩ := h
  obtain ⟨y31, h⟩ := h
  obtain ⟨y32, h⟩ := h
  obtain ⟨y33, h⟩ := h
  obtain ⟨y34, h⟩ := h
  obtain ⟨y35, h⟩ := h
  obtain ⟨h, rfl, hq⟩ := h
  subst h
  exact hend y17 y18 y19 y20 y21 y22 y23 y24 y25 y26 y27 y28 y29 y30 y31 y32 y33 y34 y35 w' hq
def sft3f_A : List (List Nat) := ([] :: [0] :: [] :: [1, 2, 0] :: [3, 1, 2, 0] :: [4, 3, 1, 2, 0] :: [4, 3, 1, 2, 0] :: [4, 3, 1, 2, 0] :: [6, 7, 4, 3, 1, 2, 0] :: (5 :: 8 :: 4 :: 3 :: 1 :: 2 :: 0 :: 6 :: 7 :: []) :: (9 :: 4 :: 5 :: 8 :: 3 :: 1 :: 2 :: 0 :: 6 :: 7 :: []) :: [4, 3, 1, 2, 0] :: [4, 3, 1, 2, 0] :: [4, 3, 1, 2, 0] :: [12, 13, 4, 3, 1, 2, 0] :: (14 :: 4 :: 12 :: 13 :: 3 :: 1 :: 2 :: 0 :: []) :: (11 :: 15 :: 4 :: 3 :: 1 :: 2 :: 0 :: 14 :: 12 :: 13 :: []) :: (16 :: 4 :: 11 :: 15 :: 3 :: 1 :: 2 :: 0 :: 14 :: 12 :: 13 :: []) :: (10 :: 17 :: 4 :: 9 :: 5 :: 8 :: 3 :: 1 :: 2 :: 0 :: 6 :: 7 :: 16 :: 11 :: 15 :: 14 :: 12 :: 13 :: []) :: (4 :: 18 :: 3 :: 1 :: 2 :: 0 :: 10 :: 17 :: 9 :: 5 :: 8 :: 6 :: 7 :: 16 :: 11 :: 15 :: 14 :: 12 :: 13 :: []) :: [])
def sft3f_kill : List (List Nat) := ([] :: [] :: [] :: [] :: [] :: [] :: [] :: [] :: [] :: [] :: [] :: [] :: [] :: [] :: [] :: [] :: [] :: [] :: [] :: [] :: [])
def sft3f_uses : List (List Nat) := ([] :: [] :: [] :: [] :: [] :: [] :: [] :: [] :: [] :: [] :: [] :: [] :: [] :: [] :: [] :: [] :: [] :: [] :: [] :: [] :: [])
noncomputable def sft3f_code : Code := ((Try.f77.body.bind (codeRegion 3)).getD .skip)
set_option maxRecDepth 100000 in
set_option maxHeartbeats 600000 in
theorem sft3f_in (B g c N : Nat) (f : Nat → Nat) (w0 : World) (n1 k : Nat) (hg : ¬ k + 1 < n1) (hk : k ≤ 100000)  (u1 u3 u4 u5 u6 u7 u8 u10 u11 u12 u13 u14 u15 u16 u17 u18 u19 u20 u21 u22 u23 u24 u25 u26 u27 u28 u29 u30 u31 u32 u33 u34 u35 u36 u37 u38 u39 u40 u41 u42 u43 u44 u45 u46 u47 u48 u49 u50 u51 u52 u53 u54 u55 u56 u57 u58 u59 u60 u61 u62 u63 u64 u65 u66 u67 u68 u69 u70 u71 u72 u73 u74 u75 : Value) (w : World) (hG : Rw B g c N f w0 w) :
    Code.wp Try.prog sft3f_code (fun e a w' => ∃ y17 y18 y19 y20 y21 y22 y23 y24 y25 y26 y27 y28 y29 y30 y31 y32 y33 y34 y35 : Value, a = ⟨(List.toArray (.slice (some ⟨g, 0, none⟩) N c :: u1 :: .int .i64 (n1 : Int) :: u3 :: u4 :: u5 :: u6 :: u7 :: u8 :: .int .i64 (k : Int) :: u10 :: u11 :: u12 :: u13 :: u14 :: u15 :: u16 :: y17 :: y18 :: y19 :: y20 :: y21 :: y22 :: y23 :: y24 :: y25 :: y26 :: y27 :: y28 :: y29 :: y30 :: y31 :: y32 :: y33 :: y34 :: y35 :: (.bool false) :: u37 :: u38 :: u39 :: u40 :: u41 :: u42 :: u43 :: u44 :: u45 :: u46 :: u47 :: u48 :: u49 :: u50 :: u51 :: u52 :: u53 :: u54 :: u55 :: u56 :: u57 :: u58 :: u59 :: u60 :: u61 :: u62 :: u63 :: u64 :: u65 :: u66 :: u67 :: u68 :: u69 :: u70 :: u71 :: u72 :: u73 :: u74 :: u75 :: [])), []⟩ ∧ e = .normal ∧ (Rw B g c N f w0 w')) ⟨(List.toArray (.slice (some ⟨g, 0, none⟩) N c :: u1 :: .int .i64 (n1 : Int) :: u3 :: u4 :: u5 :: u6 :: u7 :: u8 :: .int .i64 (k : Int) :: u10 :: u11 :: u12 :: u13 :: u14 :: u15 :: u16 :: u17 :: u18 :: u19 :: u20 :: u21 :: u22 :: u23 :: u24 :: u25 :: u26 :: u27 :: u28 :: u29 :: u30 :: u31 :: u32 :: u33 :: u34 :: u35 :: u36 :: u37 :: u38 :: u39 :: u40 :: u41 :: u42 :: u43 :: u44 :: u45 :: u46 :: u47 :: u48 :: u49 :: u50 :: u51 :: u52 :: u53 :: u54 :: u55 :: u56 :: u57 :: u58 :: u59 :: u60 :: u61 :: u62 :: u63 :: u64 :: u65 :: u66 :: u67 :: u68 :: u69 :: u70 :: u71 :: u72 :: u73 :: u74 :: u75 :: [])), []⟩ w := by
  conv => arg 2; whnf
  have hw0 : IntKind.i64.wrap ((k : Int) + 1) = (k : Int) + 1 := by rw [IntKind.wrap_i64]; omega
  refine wp_region_posts sft3f_A [] [] sft3f_kill sft3f_uses [] [] [] []
      (some ?v0 :: some ?v1 :: some ?v2 :: some (.bool false) :: some (.bool false) :: some undef :: some undef :: some undef :: some undef :: some undef :: some undef :: some undef :: some undef :: some undef :: some undef :: some undef :: some undef :: some undef :: some undef :: some ?v19 :: [])
      ?T (fun wx => Rw B g c N f w0 wx) ?W ?E (by kernel_rfl) (by kernel_rfl) (by kernel_rfl) (fun x => ?hT) ?hF ?hini (Reg.all_ops ?runs) ?pres ?fin
  case W => exact fun j x w' => True
  case E => exact fun i wx wy => True
  case hT =>
    simp only [Reg.fillV, Act.put, List.setIfInBounds_toArray, List.set_cons_zero, List.set_cons_succ]
    rfl
  case runs =>
    refine And.intro ?_ ?_
    · refine Reg.ob_pure (fun _ => rfl) rfl rfl rfl rfl (fun x w1 hF => ?_)
      have _h := hF
      go_simp
      with_reducible rfl
    refine And.intro ?_ ?_
    · refine Reg.ob_pure (fun _ => rfl) rfl rfl rfl rfl (fun x w1 hF => ?_)
      have _h := hF
      go_simp
      with_reducible rfl
    refine And.intro ?_ ?_
    · refine Reg.ob_pure (fun _ => rfl) rfl rfl rfl rfl (fun x w1 hF => ?_)
      have _h := hF
      go_simp
      with_reducible rfl
    refine And.intro ?_ ?_
    · refine Reg.ob_pure (fun _ => rfl) rfl rfl rfl rfl (fun x w1 hF => ?_)
      go_simp <;> omega
    refine And.intro ?_ ?_
    · refine Reg.ob_pure (fun _ => rfl) rfl rfl rfl rfl (fun x w1 hF => ?_)
      go_simp
    refine And.intro ?_ ?_
    · exact Reg.ob_skip (fun _ => rfl) rfl rfl rfl
    refine And.intro ?_ ?_
    · exact Reg.ob_skip (fun _ => rfl) rfl rfl rfl
    refine And.intro ?_ ?_
    · exact Reg.ob_skip (fun _ => rfl) rfl rfl rfl
    refine And.intro ?_ ?_
    · exact Reg.ob_skip (fun _ => rfl) rfl rfl rfl
    refine And.intro ?_ ?_
    · exact Reg.ob_skip (fun _ => rfl) rfl rfl rfl
    refine And.intro ?_ ?_
    · exact Reg.ob_skip (fun _ => rfl) rfl rfl rfl
    refine And.intro ?_ ?_
    · exact Reg.ob_skip (fun _ => rfl) rfl rfl rfl
    refine And.intro ?_ ?_
    · exact Reg.ob_skip (fun _ => rfl) rfl rfl rfl
    refine And.intro ?_ ?_
    · exact Reg.ob_skip (fun _ => rfl) rfl rfl rfl
    refine And.intro ?_ ?_
    · exact Reg.ob_skip (fun _ => rfl) rfl rfl rfl
    refine And.intro ?_ ?_
    · exact Reg.ob_skip (fun _ => rfl) rfl rfl rfl
    refine And.intro ?_ ?_
    · exact Reg.ob_skip (fun _ => rfl) rfl rfl rfl
    refine And.intro ?_ ?_
    · exact Reg.ob_skip (fun _ => rfl) rfl rfl rfl
    refine And.intro ?_ ?_
    · exact Reg.ob_skip (fun _ => rfl) rfl rfl rfl
    refine And.intro ?_ ?_
    · refine Reg.ob_pure (fun _ => rfl) rfl rfl rfl rfl (fun x w1 hF => ?_)
      have _h := hF
      go_simp
      with_reducible rfl
    exact trivial
  case hF =>
    exact hG.go ((Only.refl _ _).drewN 1)
  case hini =>
    exact trivial
  case pres =>
    intro i hi
    simp at hi
  case fin =>
    rintro x w9 hF hU
    repeat apply Exists.intro
    exact ⟨rfl, rfl, hF rfl⟩

set_option maxRecDepth 100000 in
set_option maxHeartbeats 600000 in
theorem sft3f (B g c N : Nat) (f : Nat → Nat) (w0 : World) (n1 k : Nat) (hg : ¬ k + 1 < n1) (hk : k ≤ 100000)  (u1 u3 u4 u5 u6 u7 u8 u10 u11 u12 u13 u14 u15 u16 u17 u18 u19 u20 u21 u22 u23 u24 u25 u26 u27 u28 u29 u30 u31 u32 u33 u34 u35 u36 u37 u38 u39 u40 u41 u42 u43 u44 u45 u46 u47 u48 u49 u50 u51 u52 u53 u54 u55 u56 u57 u58 u59 u60 u61 u62 u63 u64 u65 u66 u67 u68 u69 u70 u71 u72 u73 u74 u75 : Value) (Q : Exit → Act → World → Prop) (w : World) (hG : Rw B g c N f w0 w)
    (hend : ∀ (y17 y18 y19 y20 y21 y22 y23 y24 y25 y26 y27 y28 y29 y30 y31 y32 y33 y34 y35 : Value) (w' : World), (Rw B g c N f w0 w') → Q .normal ⟨(List.toArray (.slice (some ⟨g, 0, none⟩) N c :: u1 :: .int .i64 (n1 : Int) :: u3 :: u4 :: u5 :: u6 :: u7 :: u8 :: .int .i64 (k : Int) :: u10 :: u11 :: u12 :: u13 :: u14 :: u15 :: u16 :: y17 :: y18 :: y19 :: y20 :: y21 :: y22 :: y23 :: y24 :: y25 :: y26 :: y27 :: y28 :: y29 :: y30 :: y31 :: y32 :: y33 :: y34 :: y35 :: (.bool false) :: u37 :: u38 :: u39 :: u40 :: u41 :: u42 :: u43 :: u44 :: u45 :: u46 :: u47 :: u48 :: u49 :: u50 :: u51 :: u52 :: u53 :: u54 :: u55 :: u56 :: u57 :: u58 :: u59 :: u60 :: u61 :: u62 :: u63 :: u64 :: u65 :: u66 :: u67 :: u68 :: u69 :: u70 :: u71 :: u72 :: u73 :: u74 :: u75 :: [])), []⟩ w') :
    Code.wp Try.prog sft3f_code Q ⟨(List.toArray (.slice (some ⟨g, 0, none⟩) N c :: u1 :: .int .i64 (n1 : Int) :: u3 :: u4 :: u5 :: u6 :: u7 :: u8 :: .int .i64 (k : Int) :: u10 :: u11 :: u12 :: u13 :: u14 :: u15 :: u16 :: u17 :: u18 :: u19 :: u20 :: u21 :: u22 :: u23 :: u24 :: u25 :: u26 :: u27 :: u28 :: u29 :: u30 :: u31 :: u32 :: u33 :: u34 :: u35 :: u36 :: u37 :: u38 :: u39 :: u40 :: u41 :: u42 :: u43 :: u44 :: u45 :: u46 :: u47 :: u48 :: u49 :: u50 :: u51 :: u52 :: u53 :: u54 :: u55 :: u56 :: u57 :: u58 :: u59 :: u60 :: u61 :: u62 :: u63 :: u64 :: u65 :: u66 :: u67 :: u68 :: u69 :: u70 :: u71 :: u72 :: u73 :: u74 :: u75 :: [])), []⟩ w := by
  refine wp_mono (sft3f_in B g c N f w0 n1 k hg hk _ _ _ _ _ _ _ _ _ _ _ _ _ _ _ _ _ _ _ _ _ _ _ _ _ _ _ _ _ _ _ _ _ _ _ _ _ _ _ _ _ _ _ _ _ _ _ _ _ _ _ _ _ _ _ _ _ _ _ _ _ _ _ _ _ _ _ _ _ _ _ _ _ w hG) ?_
  rintro e a w' h
  obtain ⟨y17, h⟩ := h
  obtain ⟨y18, h⟩ := h
  obtain ⟨y19, h⟩ := h
  obtain ⟨y20, h⟩ := h
  obtain ⟨y21, h⟩ := h
  obtain ⟨y22, h⟩ := h
  obtain ⟨y23, h⟩ := h
  obtain ⟨y24, h⟩ := h
  obtain ⟨y25, h⟩ := h
  obtain ⟨y26, h⟩ := h
  obtain ⟨y27, h⟩ := h
  obtain ⟨y28, h⟩ := h
  obtain ⟨y29, h⟩ := h
  obtain ⟨y30, h⟩ := h
  obtain ⟨y31, h⟩ := h
  obtain ⟨y32, h⟩ := h
  obtain ⟨y33, h⟩ := h
  obtain ⟨y34, h⟩ := h
  obtain ⟨y35, h⟩ := h
  obtain ⟨h, rfl, hq⟩ := h
  subst h
  exact hend y17 y18 y19 y20 y21 y22 y23 y24 y25 y26 y27 y28 y29 y30 y31 y32 y33 y34 y35 w' hq
def sft5_A : List (List Nat) := ([] :: [] :: [] :: [1, 2] :: [0, 3, 1, 2] :: [4, 0, 3, 1, 2] :: [] :: [] :: [] :: [7, 8] :: [6, 9, 7, 8] :: [10, 6, 9, 7, 8] :: (5 :: 11 :: 4 :: 0 :: 3 :: 1 :: 2 :: 10 :: 6 :: 9 :: 7 :: 8 :: []) :: (12 :: 5 :: 11 :: 4 :: 0 :: 3 :: 1 :: 2 :: 10 :: 6 :: 9 :: 7 :: 8 :: []) :: [])
def sft5_kill : List (List Nat) := ([] :: [] :: [] :: [] :: [] :: [] :: [] :: [] :: [] :: [] :: [] :: [] :: [] :: [] :: [])
def sft5_uses : List (List Nat) := ([] :: [] :: [] :: [] :: [] :: [] :: [] :: [] :: [] :: [] :: [] :: [] :: [] :: [] :: [])
noncomputable def sft5_code : Code := ((Try.f77.body.bind (codeRegion 5)).getD .skip)
set_option maxRecDepth 100000 in
set_option maxHeartbeats 600000 in
theorem sft5_in (B g c N : Nat) (f : Nat → Nat) (w0 : World) (lo r k : Nat) (hX : lo + r < N) (hY : lo + k < N) (hN : N ≤ 1000)  (u1 u2 u4 u5 u6 u7 u10 u11 u12 u13 u14 u15 u16 u17 u18 u19 u20 u21 u22 u23 u24 u25 u26 u27 u28 u29 u30 u31 u32 u33 u34 u35 u36 u37 u38 u39 u40 u41 u42 u43 u44 u45 u46 u47 u48 u49 u50 u51 u52 u53 u54 u55 u56 u57 u58 u59 u60 u61 u62 u63 u64 u65 u66 u67 u68 u69 u70 u71 u72 u73 u74 u75 : Value) (w : World) (hG : Rw B g c N f w0 w) :
    Code.wp Try.prog sft5_code (fun e a w' => ∃ y39 y40 y41 y42 y43 y44 y45 y46 y47 y48 y49 y50 y51 : Value, a = ⟨(List.toArray (.slice (some ⟨g, 0, none⟩) N c :: u1 :: u2 :: .int .i64 (lo : Int) :: u4 :: u5 :: u6 :: u7 :: .int .i64 (r : Int) :: .int .i64 (k : Int) :: u10 :: u11 :: u12 :: u13 :: u14 :: u15 :: u16 :: u17 :: u18 :: u19 :: u20 :: u21 :: u22 :: u23 :: u24 :: u25 :: u26 :: u27 :: u28 :: u29 :: u30 :: u31 :: u32 :: u33 :: u34 :: u35 :: u36 :: u37 :: u38 :: y39 :: y40 :: y41 :: y42 :: y43 :: y44 :: y45 :: y46 :: y47 :: y48 :: y49 :: y50 :: y51 :: (.bool (!(decide (f (lo + r) < f (lo + k))))) :: u53 :: u54 :: u55 :: u56 :: u57 :: u58 :: u59 :: u60 :: u61 :: u62 :: u63 :: u64 :: u65 :: u66 :: u67 :: u68 :: u69 :: u70 :: u71 :: u72 :: u73 :: u74 :: u75 :: [])), []⟩ ∧ e = .normal ∧ (Rw B g c N f w0 w')) ⟨(List.toArray (.slice (some ⟨g, 0, none⟩) N c :: u1 :: u2 :: .int .i64 (lo : Int) :: u4 :: u5 :: u6 :: u7 :: .int .i64 (r : Int) :: .int .i64 (k : Int) :: u10 :: u11 :: u12 :: u13 :: u14 :: u15 :: u16 :: u17 :: u18 :: u19 :: u20 :: u21 :: u22 :: u23 :: u24 :: u25 :: u26 :: u27 :: u28 :: u29 :: u30 :: u31 :: u32 :: u33 :: u34 :: u35 :: u36 :: u37 :: u38 :: u39 :: u40 :: u41 :: u42 :: u43 :: u44 :: u45 :: u46 :: u47 :: u48 :: u49 :: u50 :: u51 :: u52 :: u53 :: u54 :: u55 :: u56 :: u57 :: u58 :: u59 :: u60 :: u61 :: u62 :: u63 :: u64 :: u65 :: u66 :: u67 :: u68 :: u69 :: u70 :: u71 :: u72 :: u73 :: u74 :: u75 :: [])), []⟩ w := by
  conv => arg 2; whnf
  have hI0 : (lo : Int) + (r : Int) < (N : Int) := by omega
  have hP0 : (0 : Int) ≤ (lo : Int) + (r : Int) := by omega
  have hV0 : IntKind.i64.wrap ((lo : Int) + (r : Int)) = (lo : Int) + (r : Int) := by rw [IntKind.wrap_i64]; omega
  have hT0 : ((lo : Int) + (r : Int)).toNat = lo + r := by omega
  have hI1 : (lo : Int) + (k : Int) < (N : Int) := by omega
  have hP1 : (0 : Int) ≤ (lo : Int) + (k : Int) := by omega
  have hV1 : IntKind.i64.wrap ((lo : Int) + (k : Int)) = (lo : Int) + (k : Int) := by rw [IntKind.wrap_i64]; omega
  have hT1 : ((lo : Int) + (k : Int)).toNat = lo + k := by omega
  have hw0 : IntKind.i64.wrap ((lo : Int) + (r : Int)) = (lo : Int) + (r : Int) := by rw [IntKind.wrap_i64]; omega
  have hw1 : IntKind.i64.wrap ((lo : Int) + (k : Int)) = (lo : Int) + (k : Int) := by rw [IntKind.wrap_i64]; omega
  refine wp_region_posts sft5_A [] [] sft5_kill sft5_uses [] [] [] []
      (some ?v0 :: some ?v1 :: some ?v2 :: some ?v3 :: some ?v4 :: some ?v5 :: some ?v6 :: some ?v7 :: some ?v8 :: some ?v9 :: some ?v10 :: some ?v11 :: some ((.bool (decide (f (lo + r) < f (lo + k))))) :: some ?v13 :: [])
      ?T (fun wx => Rw B g c N f w0 wx) ?W ?E (by kernel_rfl) (by kernel_rfl) (by kernel_rfl) (fun x => ?hT) ?hF ?hini (Reg.all_ops ?runs) ?pres ?fin
  case W => exact fun j x w' => True
  case E => exact fun i wx wy => True
  case hT =>
    simp only [Reg.fillV, Act.put, List.setIfInBounds_toArray, List.set_cons_zero, List.set_cons_succ]
    rfl
  case runs =>
    refine And.intro ?_ ?_
    · refine Reg.ob_pure (fun _ => rfl) rfl rfl rfl rfl (fun x w1 hF => ?_)
      have cX := hF.cell (lo + r) hX
      have cY := hF.cell (lo + k) hY
      go_simp
      with_reducible rfl
    refine And.intro ?_ ?_
    · refine Reg.ob_pure (fun _ => rfl) rfl rfl rfl rfl (fun x w1 hF => ?_)
      have cX := hF.cell (lo + r) hX
      have cY := hF.cell (lo + k) hY
      go_simp
      with_reducible rfl
    refine And.intro ?_ ?_
    · refine Reg.ob_pure (fun _ => rfl) rfl rfl rfl rfl (fun x w1 hF => ?_)
      have cX := hF.cell (lo + r) hX
      have cY := hF.cell (lo + k) hY
      go_simp
      with_reducible rfl
    refine And.intro ?_ ?_
    · refine Reg.ob_pure (fun _ => rfl) rfl rfl rfl rfl (fun x w1 hF => ?_)
      have cX := hF.cell (lo + r) hX
      have cY := hF.cell (lo + k) hY
      go_simp
      with_reducible rfl
    refine And.intro ?_ ?_
    · refine Reg.ob_pure (fun _ => rfl) rfl rfl rfl rfl (fun x w1 hF => ?_)
      have cX := hF.cell (lo + r) hX
      have cY := hF.cell (lo + k) hY
      go_simp
      with_reducible rfl
    refine And.intro ?_ ?_
    · refine Reg.ob_pure (fun _ => rfl) rfl rfl rfl rfl (fun x w1 hF => ?_)
      have cX := hF.cell (lo + r) hX
      have cY := hF.cell (lo + k) hY
      go_simp
      with_reducible rfl
    refine And.intro ?_ ?_
    · refine Reg.ob_pure (fun _ => rfl) rfl rfl rfl rfl (fun x w1 hF => ?_)
      have cX := hF.cell (lo + r) hX
      have cY := hF.cell (lo + k) hY
      go_simp
      with_reducible rfl
    refine And.intro ?_ ?_
    · refine Reg.ob_pure (fun _ => rfl) rfl rfl rfl rfl (fun x w1 hF => ?_)
      have cX := hF.cell (lo + r) hX
      have cY := hF.cell (lo + k) hY
      go_simp
      with_reducible rfl
    refine And.intro ?_ ?_
    · refine Reg.ob_pure (fun _ => rfl) rfl rfl rfl rfl (fun x w1 hF => ?_)
      have cX := hF.cell (lo + r) hX
      have cY := hF.cell (lo + k) hY
      go_simp
      with_reducible rfl
    refine And.intro ?_ ?_
    · refine Reg.ob_pure (fun _ => rfl) rfl rfl rfl rfl (fun x w1 hF => ?_)
      have cX := hF.cell (lo + r) hX
      have cY := hF.cell (lo + k) hY
      go_simp
      with_reducible rfl
    refine And.intro ?_ ?_
    · refine Reg.ob_pure (fun _ => rfl) rfl rfl rfl rfl (fun x w1 hF => ?_)
      have cX := hF.cell (lo + r) hX
      have cY := hF.cell (lo + k) hY
      go_simp
      with_reducible rfl
    refine And.intro ?_ ?_
    · refine Reg.ob_pure (fun _ => rfl) rfl rfl rfl rfl (fun x w1 hF => ?_)
      have cX := hF.cell (lo + r) hX
      have cY := hF.cell (lo + k) hY
      go_simp
      with_reducible rfl
    refine And.intro ?_ ?_
    · refine Reg.ob_known (fun _ => rfl) rfl rfl (fun x w1 hF hU K hK => ?_)
      replace hF := hF rfl
      go_simp
      refine (less_is (f (lo + r)) (f (lo + k)) w1).mono ?_
      rintro e w5 ⟨rfl, rfl⟩
      exact hK _ (fun _ _ _ => hF) rfl
    refine And.intro ?_ ?_
    · refine Reg.ob_pure (fun _ => rfl) rfl rfl rfl rfl (fun x w1 hF => ?_)
      have cX := hF.cell (lo + r) hX
      have cY := hF.cell (lo + k) hY
      go_simp
      with_reducible rfl
    exact trivial
  case hF =>
    exact hG.go ((Only.refl _ _).drewN 1)
  case hini =>
    exact trivial
  case pres =>
    intro i hi
    simp at hi
  case fin =>
    rintro x w9 hF hU
    repeat apply Exists.intro
    exact ⟨rfl, rfl, hF rfl⟩

set_option maxRecDepth 100000 in
set_option maxHeartbeats 600000 in
theorem sft5 (B g c N : Nat) (f : Nat → Nat) (w0 : World) (lo r k : Nat) (hX : lo + r < N) (hY : lo + k < N) (hN : N ≤ 1000)  (u1 u2 u4 u5 u6 u7 u10 u11 u12 u13 u14 u15 u16 u17 u18 u19 u20 u21 u22 u23 u24 u25 u26 u27 u28 u29 u30 u31 u32 u33 u34 u35 u36 u37 u38 u39 u40 u41 u42 u43 u44 u45 u46 u47 u48 u49 u50 u51 u52 u53 u54 u55 u56 u57 u58 u59 u60 u61 u62 u63 u64 u65 u66 u67 u68 u69 u70 u71 u72 u73 u74 u75 : Value) (Q : Exit → Act → World → Prop) (w : World) (hG : Rw B g c N f w0 w)
    (hend : ∀ (y39 y40 y41 y42 y43 y44 y45 y46 y47 y48 y49 y50 y51 : Value) (w' : World), (Rw B g c N f w0 w') → Q .normal ⟨(List.toArray (.slice (some ⟨g, 0, none⟩) N c :: u1 :: u2 :: .int .i64 (lo : Int) :: u4 :: u5 :: u6 :: u7 :: .int .i64 (r : Int) :: .int .i64 (k : Int) :: u10 :: u11 :: u12 :: u13 :: u14 :: u15 :: u16 :: u17 :: u18 :: u19 :: u20 :: u21 :: u22 :: u23 :: u24 :: u25 :: u26 :: u27 :: u28 :: u29 :: u30 :: u31 :: u32 :: u33 :: u34 :: u35 :: u36 :: u37 :: u38 :: y39 :: y40 :: y41 :: y42 :: y43 :: y44 :: y45 :: y46 :: y47 :: y48 :: y49 :: y50 :: y51 :: (.bool (!(decide (f (lo + r) < f (lo + k))))) :: u53 :: u54 :: u55 :: u56 :: u57 :: u58 :: u59 :: u60 :: u61 :: u62 :: u63 :: u64 :: u65 :: u66 :: u67 :: u68 :: u69 :: u70 :: u71 :: u72 :: u73 :: u74 :: u75 :: [])), []⟩ w') :
    Code.wp Try.prog sft5_code Q ⟨(List.toArray (.slice (some ⟨g, 0, none⟩) N c :: u1 :: u2 :: .int .i64 (lo : Int) :: u4 :: u5 :: u6 :: u7 :: .int .i64 (r : Int) :: .int .i64 (k : Int) :: u10 :: u11 :: u12 :: u13 :: u14 :: u15 :: u16 :: u17 :: u18 :: u19 :: u20 :: u21 :: u22 :: u23 :: u24 :: u25 :: u26 :: u27 :: u28 :: u29 :: u30 :: u31 :: u32 :: u33 :: u34 :: u35 :: u36 :: u37 :: u38 :: u39 :: u40 :: u41 :: u42 :: u43 :: u44 :: u45 :: u46 :: u47 :: u48 :: u49 :: u50 :: u51 :: u52 :: u53 :: u54 :: u55 :: u56 :: u57 :: u58 :: u59 :: u60 :: u61 :: u62 :: u63 :: u64 :: u65 :: u66 :: u67 :: u68 :: u69 :: u70 :: u71 :: u72 :: u73 :: u74 :: u75 :: [])), []⟩ w := by
  refine wp_mono (sft5_in B g c N f w0 lo r k hX hY hN _ _ _ _ _ _ _ _ _ _ _ _ _ _ _ _ _ _ _ _ _ _ _ _ _ _ _ _ _ _ _ _ _ _ _ _ _ _ _ _ _ _ _ _ _ _ _ _ _ _ _ _ _ _ _ _ _ _ _ _ _ _ _ _ _ _ _ _ _ _ _ _ w hG) ?_
  rintro e a w' h
  obtain ⟨y39, h⟩ := h
  obtain ⟨y40, h⟩ := h
  obtain ⟨y41, h⟩ := h
  obtain ⟨y42, h⟩ := h
  obtain ⟨y43, h⟩ := h
  obtain ⟨y44, h⟩ := h
  obtain ⟨y45, h⟩ := h
  obtain ⟨y46, h⟩ := h
  obtain ⟨y47, h⟩ := h
  obtain ⟨y48, h⟩ := h
  obtain ⟨y49, h⟩ := h
  obtain ⟨y50, h⟩ := h
  obtain ⟨y51, h⟩ := h
  obtain ⟨h, rfl, hq⟩ := h
  subst h
  exact hend y39 y40 y41 y42 y43 y44 y45 y46 y47 y48 y49 y50 y51 w' hq
def sft6_A : List (List Nat) := ([] :: [] :: [] :: [1, 2] :: [] :: [] :: [] :: [5, 6] :: [] :: [] :: [] :: [9, 10] :: [8, 11, 9, 10] :: [12, 8, 11, 9, 10] :: [] :: [] :: [] :: [15, 16] :: [14, 17, 15, 16] :: [18, 14, 17, 15, 16] :: (0 :: 3 :: 1 :: 2 :: 8 :: 9 :: 10 :: 11 :: 12 :: 13 :: 19 :: 18 :: 14 :: 17 :: 15 :: 16 :: []) :: (20 :: 13 :: 0 :: 1 :: 2 :: 3 :: 8 :: 9 :: 10 :: 11 :: 12 :: 19 :: 18 :: 14 :: 17 :: 15 :: 16 :: []) :: (4 :: 7 :: 0 :: 1 :: 2 :: 3 :: 5 :: 6 :: 8 :: 9 :: 10 :: 11 :: 12 :: 13 :: 14 :: 15 :: 16 :: 17 :: 18 :: 19 :: 20 :: 21 :: []) :: (22 :: 19 :: 21 :: 0 :: 1 :: 2 :: 3 :: 4 :: 5 :: 6 :: 7 :: 8 :: 9 :: 10 :: 11 :: 12 :: 13 :: 14 :: 15 :: 16 :: 17 :: 18 :: 20 :: []) :: [])
def sft6_kill : List (List Nat) := ([] :: [] :: [] :: [] :: [] :: [] :: [] :: [] :: [] :: [] :: [] :: [] :: [] :: [] :: [] :: [] :: [] :: [] :: [] :: [] :: [] :: [] :: [] :: [21] :: [])
def sft6_uses : List (List Nat) := ([] :: [] :: [] :: [] :: [] :: [] :: [] :: [] :: [] :: [] :: [] :: [] :: [] :: [] :: [] :: [] :: [] :: [] :: [] :: [] :: [] :: [] :: [] :: [21] :: [])
noncomputable def sft6_code : Code := ((Try.f77.body.bind (codeRegion 6)).getD .skip)
set_option maxRecDepth 100000 in
set_option maxHeartbeats 600000 in
theorem sft6_in (B g c N : Nat) (f : Nat → Nat) (w0 : World) (lo r k : Nat) (hX : lo + r < N) (hY : lo + k < N) (hN : N ≤ 1000)  (u1 u2 u4 u5 u6 u7 u10 u11 u12 u13 u14 u15 u16 u17 u18 u19 u20 u21 u22 u23 u24 u25 u26 u27 u28 u29 u30 u31 u32 u33 u34 u35 u36 u37 u38 u39 u40 u41 u42 u43 u44 u45 u46 u47 u48 u49 u50 u51 u52 u53 u54 u55 u56 u57 u58 u59 u60 u61 u62 u63 u64 u65 u66 u67 u68 u69 u70 u71 u72 u73 u74 u75 : Value) (w : World) (hG : Rw B g c N f w0 w) :
    Code.wp Try.prog sft6_code (fun e a w' => ∃ y53 y54 y55 y56 y57 y58 y59 y60 y61 y62 y63 y64 y65 y66 y67 y68 y69 y70 y71 y72 y73 y74 : Value, a = ⟨(List.toArray (.slice (some ⟨g, 0, none⟩) N c :: u1 :: u2 :: .int .i64 (lo : Int) :: u4 :: u5 :: u6 :: u7 :: .int .i64 (r : Int) :: .int .i64 (k : Int) :: u10 :: u11 :: u12 :: u13 :: u14 :: u15 :: u16 :: u17 :: u18 :: u19 :: u20 :: u21 :: u22 :: u23 :: u24 :: u25 :: u26 :: u27 :: u28 :: u29 :: u30 :: u31 :: u32 :: u33 :: u34 :: u35 :: u36 :: u37 :: u38 :: u39 :: u40 :: u41 :: u42 :: u43 :: u44 :: u45 :: u46 :: u47 :: u48 :: u49 :: u50 :: u51 :: u52 :: y53 :: y54 :: y55 :: y56 :: y57 :: y58 :: y59 :: y60 :: y61 :: y62 :: y63 :: y64 :: y65 :: y66 :: y67 :: y68 :: y69 :: y70 :: y71 :: y72 :: y73 :: y74 :: u75 :: [])), []⟩ ∧ e = .normal ∧ (Rw B g c N (swp f (lo + r) (lo + k)) w0 w')) ⟨(List.toArray (.slice (some ⟨g, 0, none⟩) N c :: u1 :: u2 :: .int .i64 (lo : Int) :: u4 :: u5 :: u6 :: u7 :: .int .i64 (r : Int) :: .int .i64 (k : Int) :: u10 :: u11 :: u12 :: u13 :: u14 :: u15 :: u16 :: u17 :: u18 :: u19 :: u20 :: u21 :: u22 :: u23 :: u24 :: u25 :: u26 :: u27 :: u28 :: u29 :: u30 :: u31 :: u32 :: u33 :: u34 :: u35 :: u36 :: u37 :: u38 :: u39 :: u40 :: u41 :: u42 :: u43 :: u44 :: u45 :: u46 :: u47 :: u48 :: u49 :: u50 :: u51 :: u52 :: u53 :: u54 :: u55 :: u56 :: u57 :: u58 :: u59 :: u60 :: u61 :: u62 :: u63 :: u64 :: u65 :: u66 :: u67 :: u68 :: u69 :: u70 :: u71 :: u72 :: u73 :: u74 :: u75 :: [])), []⟩ w := by
  conv => arg 2; whnf
  have hI0 : (lo : Int) + (r : Int) < (N : Int) := by omega
  have hP0 : (0 : Int) ≤ (lo : Int) + (r : Int) := by omega
  have hV0 : IntKind.i64.wrap ((lo : Int) + (r : Int)) = (lo : Int) + (r : Int) := by rw [IntKind.wrap_i64]; omega
  have hT0 : ((lo : Int) + (r : Int)).toNat = lo + r := by omega
  have hI1 : (lo : Int) + (k : Int) < (N : Int) := by omega
  have hP1 : (0 : Int) ≤ (lo : Int) + (k : Int) := by omega
  have hV1 : IntKind.i64.wrap ((lo : Int) + (k : Int)) = (lo : Int) + (k : Int) := by rw [IntKind.wrap_i64]; omega
  have hT1 : ((lo : Int) + (k : Int)).toNat = lo + k := by omega
  have hw0 : IntKind.i64.wrap ((lo : Int) + (r : Int)) = (lo : Int) + (r : Int) := by rw [IntKind.wrap_i64]; omega
  have hw1 : IntKind.i64.wrap ((lo : Int) + (k : Int)) = (lo : Int) + (k : Int) := by rw [IntKind.wrap_i64]; omega
  refine wp_region_posts sft6_A [21, 23] [21, 23] sft6_kill sft6_uses [23] [21, 23] [0, 1, 2, 3, 4, 5, 6, 7, 8, 9, 10, 11, 12, 14, 15, 16, 17, 18, 20, 22, 23] []
      (some ?v0 :: some ?v1 :: some ?v2 :: some ?v3 :: some ?v4 :: some ?v5 :: some ?v6 :: some ?v7 :: some ?v8 :: some ?v9 :: some ?v10 :: some ?v11 :: some ?v12 :: some ?v13 :: some ?v14 :: some ?v15 :: some ?v16 :: some ?v17 :: some ?v18 :: some ?v19 :: some ?v20 :: none :: some ?v22 :: none :: [])
      ?T (fun wx => Rw B g c N f w0 wx) ?W ?E (by kernel_rfl) (by kernel_rfl) (by kernel_rfl) (fun x => ?hT) ?hF ?hini (Reg.all_ops ?runs) ?pres ?fin
  case W => exact fun jj x w' => match jj with | 21 => Rw B g c N (updf f (lo + r) (f (lo + k))) w0 w' | 23 => Rw B g c N (swp f (lo + r) (lo + k)) w0 w' | _ => True
  case E => exact fun i wx wy => True
  case hT =>
    simp only [Reg.fillV, Act.put, List.setIfInBounds_toArray, List.set_cons_zero, List.set_cons_succ]
    rfl
  case runs =>
    refine And.intro ?_ ?_
    · refine Reg.ob_bare (fun _ => rfl) rfl rfl rfl (fun x w1 => ?_)
      go_simp
      with_reducible rfl
    refine And.intro ?_ ?_
    · refine Reg.ob_bare (fun _ => rfl) rfl rfl rfl (fun x w1 => ?_)
      go_simp
      with_reducible rfl
    refine And.intro ?_ ?_
    · refine Reg.ob_bare (fun _ => rfl) rfl rfl rfl (fun x w1 => ?_)
      go_simp
      with_reducible rfl
    refine And.intro ?_ ?_
    · refine Reg.ob_bare (fun _ => rfl) rfl rfl rfl (fun x w1 => ?_)
      go_simp
      with_reducible rfl
    refine And.intro ?_ ?_
    · refine Reg.ob_bare (fun _ => rfl) rfl rfl rfl (fun x w1 => ?_)
      go_simp
      with_reducible rfl
    refine And.intro ?_ ?_
    · refine Reg.ob_bare (fun _ => rfl) rfl rfl rfl (fun x w1 => ?_)
      go_simp
      with_reducible rfl
    refine And.intro ?_ ?_
    · refine Reg.ob_bare (fun _ => rfl) rfl rfl rfl (fun x w1 => ?_)
      go_simp
      with_reducible rfl
    refine And.intro ?_ ?_
    · refine Reg.ob_bare (fun _ => rfl) rfl rfl rfl (fun x w1 => ?_)
      go_simp
      with_reducible rfl
    refine And.intro ?_ ?_
    · refine Reg.ob_bare (fun _ => rfl) rfl rfl rfl (fun x w1 => ?_)
      go_simp
      with_reducible rfl
    refine And.intro ?_ ?_
    · refine Reg.ob_bare (fun _ => rfl) rfl rfl rfl (fun x w1 => ?_)
      go_simp
      with_reducible rfl
    refine And.intro ?_ ?_
    · refine Reg.ob_bare (fun _ => rfl) rfl rfl rfl (fun x w1 => ?_)
      go_simp
      with_reducible rfl
    refine And.intro ?_ ?_
    · refine Reg.ob_bare (fun _ => rfl) rfl rfl rfl (fun x w1 => ?_)
      go_simp
      with_reducible rfl
    refine And.intro ?_ ?_
    · refine Reg.ob_bare (fun _ => rfl) rfl rfl rfl (fun x w1 => ?_)
      go_simp
      with_reducible rfl
    refine And.intro ?_ ?_
    · refine Reg.ob_pure (fun _ => rfl) rfl rfl rfl rfl (fun x w1 hF => ?_)
      have cX := hF.cell (lo + r) hX
      have cY := hF.cell (lo + k) hY
      go_simp
      with_reducible rfl
    refine And.intro ?_ ?_
    · refine Reg.ob_bare (fun _ => rfl) rfl rfl rfl (fun x w1 => ?_)
      go_simp
      with_reducible rfl
    refine And.intro ?_ ?_
    · refine Reg.ob_bare (fun _ => rfl) rfl rfl rfl (fun x w1 => ?_)
      go_simp
      with_reducible rfl
    refine And.intro ?_ ?_
    · refine Reg.ob_bare (fun _ => rfl) rfl rfl rfl (fun x w1 => ?_)
      go_simp
      with_reducible rfl
    refine And.intro ?_ ?_
    · refine Reg.ob_bare (fun _ => rfl) rfl rfl rfl (fun x w1 => ?_)
      go_simp
      with_reducible rfl
    refine And.intro ?_ ?_
    · refine Reg.ob_bare (fun _ => rfl) rfl rfl rfl (fun x w1 => ?_)
      go_simp
      with_reducible rfl
    refine And.intro ?_ ?_
    · refine Reg.ob_pure (fun _ => rfl) rfl rfl rfl rfl (fun x w1 hF => ?_)
      have cX := hF.cell (lo + r) hX
      have cY := hF.cell (lo + k) hY
      go_simp
      with_reducible rfl
    refine And.intro ?_ ?_
    · refine Reg.ob_bare (fun _ => rfl) rfl rfl rfl (fun x w1 => ?_)
      go_simp
      with_reducible rfl
    refine And.intro ?_ ?_
    · refine Reg.ob_some (fun _ => rfl) rfl (fun x w1 hF hU K hK => ?_)
      replace hF := hF rfl
      have cX := hF.cell (lo + r) hX
      have fX := hF.free (lo + r)
      go_simp
      exact hK undef _ (fun _ h _ => by cases h) trivial (hF.put (lo + r) (f (lo + k)) hX)
    refine And.intro ?_ ?_
    · refine Reg.ob_bare (fun _ => rfl) rfl rfl rfl (fun x w1 => ?_)
      go_simp
      with_reducible rfl
    refine And.intro ?_ ?_
    · refine Reg.ob_some (fun _ => rfl) rfl (fun x w1 hF hU K hK => ?_)
      obtain ⟨hR, -⟩ := hU
      have hR : Rw B g c N (updf f (lo + r) (f (lo + k))) w0 w1 := hR
      have cY := hR.cell (lo + k) hY
      have fY := hR.free (lo + k)
      go_simp
      exact hK undef _ (fun _ h _ => by cases h) trivial (hR.put2 hY)
    exact trivial
  case hF =>
    exact hG.go ((Only.refl _ _).drewN 1)
  case hini =>
    exact trivial
  case pres =>
    intro i hi j hj hc x wx wy hF hE hW
    simp only [List.mem_cons, List.mem_nil_iff, or_false] at hi hj
    rcases hi with rfl | rfl <;> rcases hj with rfl | rfl
    all_goals (exfalso; revert hc; decide)
  case fin =>
    rintro x w9 hF hU
    obtain ⟨hQ, -⟩ := hU
    repeat apply Exists.intro
    exact ⟨rfl, rfl, hQ⟩

set_option maxRecDepth 100000 in
set_option maxHeartbeats 600000 in
theorem sft6 (B g c N : Nat) (f : Nat → Nat) (w0 : World) (lo r k : Nat) (hX : lo + r < N) (hY : lo + k < N) (hN : N ≤ 1000)  (u1 u2 u4 u5 u6 u7 u10 u11 u12 u13 u14 u15 u16 u17 u18 u19 u20 u21 u22 u23 u24 u25 u26 u27 u28 u29 u30 u31 u32 u33 u34 u35 u36 u37 u38 u39 u40 u41 u42 u43 u44 u45 u46 u47 u48 u49 u50 u51 u52 u53 u54 u55 u56 u57 u58 u59 u60 u61 u62 u63 u64 u65 u66 u67 u68 u69 u70 u71 u72 u73 u74 u75 : Value) (Q : Exit → Act → World → Prop) (w : World) (hG : Rw B g c N f w0 w)
    (hend : ∀ (y53 y54 y55 y56 y57 y58 y59 y60 y61 y62 y63 y64 y65 y66 y67 y68 y69 y70 y71 y72 y73 y74 : Value) (w' : World), (Rw B g c N (swp f (lo + r) (lo + k)) w0 w') → Q .normal ⟨(List.toArray (.slice (some ⟨g, 0, none⟩) N c :: u1 :: u2 :: .int .i64 (lo : Int) :: u4 :: u5 :: u6 :: u7 :: .int .i64 (r : Int) :: .int .i64 (k : Int) :: u10 :: u11 :: u12 :: u13 :: u14 :: u15 :: u16 :: u17 :: u18 :: u19 :: u20 :: u21 :: u22 :: u23 :: u24 :: u25 :: u26 :: u27 :: u28 :: u29 :: u30 :: u31 :: u32 :: u33 :: u34 :: u35 :: u36 :: u37 :: u38 :: u39 :: u40 :: u41 :: u42 :: u43 :: u44 :: u45 :: u46 :: u47 :: u48 :: u49 :: u50 :: u51 :: u52 :: y53 :: y54 :: y55 :: y56 :: y57 :: y58 :: y59 :: y60 :: y61 :: y62 :: y63 :: y64 :: y65 :: y66 :: y67 :: y68 :: y69 :: y70 :: y71 :: y72 :: y73 :: y74 :: u75 :: [])), []⟩ w') :
    Code.wp Try.prog sft6_code Q ⟨(List.toArray (.slice (some ⟨g, 0, none⟩) N c :: u1 :: u2 :: .int .i64 (lo : Int) :: u4 :: u5 :: u6 :: u7 :: .int .i64 (r : Int) :: .int .i64 (k : Int) :: u10 :: u11 :: u12 :: u13 :: u14 :: u15 :: u16 :: u17 :: u18 :: u19 :: u20 :: u21 :: u22 :: u23 :: u24 :: u25 :: u26 :: u27 :: u28 :: u29 :: u30 :: u31 :: u32 :: u33 :: u34 :: u35 :: u36 :: u37 :: u38 :: u39 :: u40 :: u41 :: u42 :: u43 :: u44 :: u45 :: u46 :: u47 :: u48 :: u49 :: u50 :: u51 :: u52 :: u53 :: u54 :: u55 :: u56 :: u57 :: u58 :: u59 :: u60 :: u61 :: u62 :: u63 :: u64 :: u65 :: u66 :: u67 :: u68 :: u69 :: u70 :: u71 :: u72 :: u73 :: u74 :: u75 :: [])), []⟩ w := by
  refine wp_mono (sft6_in B g c N f w0 lo r k hX hY hN _ _ _ _ _ _ _ _ _ _ _ _ _ _ _ _ _ _ _ _ _ _ _ _ _ _ _ _ _ _ _ _ _ _ _ _ _ _ _ _ _ _ _ _ _ _ _ _ _ _ _ _ _ _ _ _ _ _ _ _ _ _ _ _ _ _ _ _ _ _ _ _ w hG) ?_
  rintro e a w' h
  obtain ⟨y53, h⟩ := h
  obtain ⟨y54, h⟩ := h
  obtain ⟨y55, h⟩ := h
  obtain ⟨y56, h⟩ := h
  obtain ⟨y57, h⟩ := h
  obtain ⟨y58, h⟩ := h
  obtain ⟨y59, h⟩ := h
  obtain ⟨y60, h⟩ := h
  obtain ⟨y61, h⟩ := h
  obtain ⟨y62, h⟩ := h
  obtain ⟨y63, h⟩ := h
  obtain ⟨y64, h⟩ := h
  obtain ⟨y65, h⟩ := h
  obtain ⟨y66, h⟩ := h
  obtain ⟨y67, h⟩ := h
  obtain ⟨y68, h⟩ := h
  obtain ⟨y69, h⟩ := h
  obtain ⟨y70, h⟩ := h
  obtain ⟨y71, h⟩ := h
  obtain ⟨y72, h⟩ := h
  obtain ⟨y73, h⟩ := h
  obtain ⟨y74, h⟩ := h
  obtain ⟨h, rfl, hq⟩ := h
  subst h
  exact hend y53 y54 y55 y56 y57 y58 y59 y60 y61 y62 y63 y64 y65 y66 y67 y68 y69 y70 y71 y72 y73 y74 w' hq
def hps10_A : List (List Nat) := ([] :: [] :: [] :: [] :: [] :: [3, 4] :: [] :: [] :: [] :: [7, 8] :: [6, 9, 7, 8] :: [10, 6, 9, 7, 8] :: [] :: [] :: [12, 13] :: [14, 12, 13] :: (0 :: 1 :: 6 :: 7 :: 8 :: 9 :: 10 :: 11 :: 15 :: 14 :: 12 :: 13 :: []) :: (16 :: 11 :: 0 :: 1 :: 6 :: 7 :: 8 :: 9 :: 10 :: 15 :: 14 :: 12 :: 13 :: []) :: (2 :: 5 :: 0 :: 1 :: 3 :: 4 :: 6 :: 7 :: 8 :: 9 :: 10 :: 11 :: 12 :: 13 :: 14 :: 15 :: 16 :: 17 :: []) :: (18 :: 15 :: 17 :: 0 :: 1 :: 2 :: 3 :: 4 :: 5 :: 6 :: 7 :: 8 :: 9 :: 10 :: 11 :: 12 :: 13 :: 14 :: 16 :: []) :: [])
def hps10_kill : List (List Nat) := ([] :: [] :: [] :: [] :: [] :: [] :: [] :: [] :: [] :: [] :: [] :: [] :: [] :: [] :: [] :: [] :: [] :: [] :: [] :: [17] :: [])
def hps10_uses : List (List Nat) := ([] :: [] :: [] :: [] :: [] :: [] :: [] :: [] :: [] :: [] :: [] :: [] :: [] :: [] :: [] :: [] :: [] :: [] :: [] :: [17] :: [])
noncomputable def hps10_code : Code := ((Try.f67.body.bind (codeRegion 10)).getD .skip)
set_option maxRecDepth 100000 in
set_option maxHeartbeats 600000 in
theorem hps10_in (B g c N : Nat) (f : Nat → Nat) (w0 : World) (lo i : Nat) (hX : lo < N) (hY : lo + i < N) (hN : N ≤ 1000)  (u1 u2 u3 u4 u5 u7 u8 u9 u11 u12 u13 u14 u15 u16 u17 u18 u19 u20 u21 u22 u23 u24 u25 u26 u27 u28 u29 u30 u31 u32 u33 u34 u35 u36 u37 u38 u39 u40 u41 u42 u43 u44 u45 u46 u47 u48 u49 u50 u51 u52 u53 u54 u55 : Value) (w : World) (hG : Rw B g c N f w0 w) :
    Code.wp Try.prog hps10_code (fun e a w' => ∃ y33 y34 y35 y36 y37 y38 y39 y40 y41 y42 y43 y44 y45 y46 y47 y48 y49 y50 : Value, a = ⟨(List.toArray (.slice (some ⟨g, 0, none⟩) N c :: u1 :: u2 :: u3 :: u4 :: u5 :: .int .i64 (lo : Int) :: u7 :: u8 :: u9 :: .int .i64 (i : Int) :: u11 :: u12 :: u13 :: u14 :: u15 :: u16 :: u17 :: u18 :: u19 :: u20 :: u21 :: u22 :: u23 :: u24 :: u25 :: u26 :: u27 :: u28 :: u29 :: u30 :: u31 :: u32 :: y33 :: y34 :: y35 :: y36 :: y37 :: y38 :: y39 :: y40 :: y41 :: y42 :: y43 :: y44 :: y45 :: y46 :: y47 :: y48 :: y49 :: y50 :: u51 :: u52 :: u53 :: u54 :: u55 :: [])), []⟩ ∧ e = .normal ∧ (Rw B g c N (swp f (lo) (lo + i)) w0 w')) ⟨(List.toArray (.slice (some ⟨g, 0, none⟩) N c :: u1 :: u2 :: u3 :: u4 :: u5 :: .int .i64 (lo : Int) :: u7 :: u8 :: u9 :: .int .i64 (i : Int) :: u11 :: u12 :: u13 :: u14 :: u15 :: u16 :: u17 :: u18 :: u19 :: u20 :: u21 :: u22 :: u23 :: u24 :: u25 :: u26 :: u27 :: u28 :: u29 :: u30 :: u31 :: u32 :: u33 :: u34 :: u35 :: u36 :: u37 :: u38 :: u39 :: u40 :: u41 :: u42 :: u43 :: u44 :: u45 :: u46 :: u47 :: u48 :: u49 :: u50 :: u51 :: u52 :: u53 :: u54 :: u55 :: [])), []⟩ w := by
  conv => arg 2; whnf
  have hI0 : (lo : Int) < (N : Int) := by omega
  have hP0 : (0 : Int) ≤ (lo : Int) := by omega
  have hV0 : IntKind.i64.wrap ((lo : Int)) = (lo : Int) := by rw [IntKind.wrap_i64]; omega
  have hI1 : (lo : Int) + (i : Int) < (N : Int) := by omega
  have hP1 : (0 : Int) ≤ (lo : Int) + (i : Int) := by omega
  have hV1 : IntKind.i64.wrap ((lo : Int) + (i : Int)) = (lo : Int) + (i : Int) := by rw [IntKind.wrap_i64]; omega
  have hT1 : ((lo : Int) + (i : Int)).toNat = lo + i := by omega
  have hw0 : IntKind.i64.wrap ((lo : Int) + (i : Int)) = (lo : Int) + (i : Int) := by rw [IntKind.wrap_i64]; omega
  refine wp_region_posts hps10_A [17, 19] [17, 19] hps10_kill hps10_uses [19] [17, 19] [0, 1, 2, 3, 4, 5, 6, 7, 8, 9, 10, 12, 13, 14, 16, 18, 19] []
      (some ?v0 :: some ?v1 :: some ?v2 :: some ?v3 :: some ?v4 :: some ?v5 :: some ?v6 :: some ?v7 :: some ?v8 :: some ?v9 :: some ?v10 :: some ?v11 :: some ?v12 :: some ?v13 :: some ?v14 :: some ?v15 :: some ?v16 :: none :: some ?v18 :: none :: [])
      ?T (fun wx => Rw B g c N f w0 wx) ?W ?E (by kernel_rfl) (by kernel_rfl) (by kernel_rfl) (fun x => ?hT) ?hF ?hini (Reg.all_ops ?runs) ?pres ?fin
  case W => exact fun jj x w' => match jj with | 17 => Rw B g c N (updf f (lo) (f (lo + i))) w0 w' | 19 => Rw B g c N (swp f (lo) (lo + i)) w0 w' | _ => True
  case E => exact fun i wx wy => True
  case hT =>
    simp only [Reg.fillV, Act.put, List.setIfInBounds_toArray, List.set_cons_zero, List.set_cons_succ]
    rfl
  case runs =>
    refine And.intro ?_ ?_
    · refine Reg.ob_bare (fun _ => rfl) rfl rfl rfl (fun x w1 => ?_)
      go_simp
      with_reducible rfl
    refine And.intro ?_ ?_
    · refine Reg.ob_bare (fun _ => rfl) rfl rfl rfl (fun x w1 => ?_)
      go_simp
      with_reducible rfl
    refine And.intro ?_ ?_
    · refine Reg.ob_bare (fun _ => rfl) rfl rfl rfl (fun x w1 => ?_)
      go_simp
      with_reducible rfl
    refine And.intro ?_ ?_
    · refine Reg.ob_bare (fun _ => rfl) rfl rfl rfl (fun x w1 => ?_)
      go_simp
      with_reducible rfl
    refine And.intro ?_ ?_
    · refine Reg.ob_bare (fun _ => rfl) rfl rfl rfl (fun x w1 => ?_)
      go_simp
      with_reducible rfl
    refine And.intro ?_ ?_
    · refine Reg.ob_bare (fun _ => rfl) rfl rfl rfl (fun x w1 => ?_)
      go_simp
      with_reducible rfl
    refine And.intro ?_ ?_
    · refine Reg.ob_bare (fun _ => rfl) rfl rfl rfl (fun x w1 => ?_)
      go_simp
      with_reducible rfl
    refine And.intro ?_ ?_
    · refine Reg.ob_bare (fun _ => rfl) rfl rfl rfl (fun x w1 => ?_)
      go_simp
      with_reducible rfl
    refine And.intro ?_ ?_
    · refine Reg.ob_bare (fun _ => rfl) rfl rfl rfl (fun x w1 => ?_)
      go_simp
      with_reducible rfl
    refine And.intro ?_ ?_
    · refine Reg.ob_bare (fun _ => rfl) rfl rfl rfl (fun x w1 => ?_)
      go_simp
      with_reducible rfl
    refine And.intro ?_ ?_
    · refine Reg.ob_bare (fun _ => rfl) rfl rfl rfl (fun x w1 => ?_)
      go_simp
      with_reducible rfl
    refine And.intro ?_ ?_
    · refine Reg.ob_pure (fun _ => rfl) rfl rfl rfl rfl (fun x w1 hF => ?_)
      have cX := hF.cell (lo) hX
      have cY := hF.cell (lo + i) hY
      go_simp
      with_reducible rfl
    refine And.intro ?_ ?_
    · refine Reg.ob_bare (fun _ => rfl) rfl rfl rfl (fun x w1 => ?_)
      go_simp
      with_reducible rfl
    refine And.intro ?_ ?_
    · refine Reg.ob_bare (fun _ => rfl) rfl rfl rfl (fun x w1 => ?_)
      go_simp
      with_reducible rfl
    refine And.intro ?_ ?_
    · refine Reg.ob_bare (fun _ => rfl) rfl rfl rfl (fun x w1 => ?_)
      go_simp
      with_reducible rfl
    refine And.intro ?_ ?_
    · refine Reg.ob_pure (fun _ => rfl) rfl rfl rfl rfl (fun x w1 hF => ?_)
      have cX := hF.cell (lo) hX
      have cY := hF.cell (lo + i) hY
      go_simp
      with_reducible rfl
    refine And.intro ?_ ?_
    · refine Reg.ob_bare (fun _ => rfl) rfl rfl rfl (fun x w1 => ?_)
      go_simp
      with_reducible rfl
    refine And.intro ?_ ?_
    · refine Reg.ob_some (fun _ => rfl) rfl (fun x w1 hF hU K hK => ?_)
      replace hF := hF rfl
      have cX := hF.cell (lo) hX
      have fX := hF.free (lo)
      go_simp
      exact hK undef _ (fun _ h _ => by cases h) trivial (hF.put (lo) (f (lo + i)) hX)
    refine And.intro ?_ ?_
    · refine Reg.ob_bare (fun _ => rfl) rfl rfl rfl (fun x w1 => ?_)
      go_simp
      with_reducible rfl
    refine And.intro ?_ ?_
    · refine Reg.ob_some (fun _ => rfl) rfl (fun x w1 hF hU K hK => ?_)
      obtain ⟨hR, -⟩ := hU
      have hR : Rw B g c N (updf f (lo) (f (lo + i))) w0 w1 := hR
      have cY := hR.cell (lo + i) hY
      have fY := hR.free (lo + i)
      go_simp
      exact hK undef _ (fun _ h _ => by cases h) trivial (hR.put2 hY)
    exact trivial
  case hF =>
    exact hG.go ((Only.refl _ _).drewN 1)
  case hini =>
    exact trivial
  case pres =>
    intro i hi j hj hc x wx wy hF hE hW
    simp only [List.mem_cons, List.mem_nil_iff, or_false] at hi hj
    rcases hi with rfl | rfl <;> rcases hj with rfl | rfl
    all_goals (exfalso; revert hc; decide)
  case fin =>
    rintro x w9 hF hU
    obtain ⟨hQ, -⟩ := hU
    repeat apply Exists.intro
    exact ⟨rfl, rfl, hQ⟩

set_option maxRecDepth 100000 in
set_option maxHeartbeats 600000 in
theorem hps10 (B g c N : Nat) (f : Nat → Nat) (w0 : World) (lo i : Nat) (hX : lo < N) (hY : lo + i < N) (hN : N ≤ 1000)  (u1 u2 u3 u4 u5 u7 u8 u9 u11 u12 u13 u14 u15 u16 u17 u18 u19 u20 u21 u22 u23 u24 u25 u26 u27 u28 u29 u30 u31 u32 u33 u34 u35 u36 u37 u38 u39 u40 u41 u42 u43 u44 u45 u46 u47 u48 u49 u50 u51 u52 u53 u54 u55 : Value) (Q : Exit → Act → World → Prop) (w : World) (hG : Rw B g c N f w0 w)
    (hend : ∀ (y33 y34 y35 y36 y37 y38 y39 y40 y41 y42 y43 y44 y45 y46 y47 y48 y49 y50 : Value) (w' : World), (Rw B g c N (swp f (lo) (lo + i)) w0 w') → Q .normal ⟨(List.toArray (.slice (some ⟨g, 0, none⟩) N c :: u1 :: u2 :: u3 :: u4 :: u5 :: .int .i64 (lo : Int) :: u7 :: u8 :: u9 :: .int .i64 (i : Int) :: u11 :: u12 :: u13 :: u14 :: u15 :: u16 :: u17 :: u18 :: u19 :: u20 :: u21 :: u22 :: u23 :: u24 :: u25 :: u26 :: u27 :: u28 :: u29 :: u30 :: u31 :: u32 :: y33 :: y34 :: y35 :: y36 :: y37 :: y38 :: y39 :: y40 :: y41 :: y42 :: y43 :: y44 :: y45 :: y46 :: y47 :: y48 :: y49 :: y50 :: u51 :: u52 :: u53 :: u54 :: u55 :: [])), []⟩ w') :
    Code.wp Try.prog hps10_code Q ⟨(List.toArray (.slice (some ⟨g, 0, none⟩) N c :: u1 :: u2 :: u3 :: u4 :: u5 :: .int .i64 (lo : Int) :: u7 :: u8 :: u9 :: .int .i64 (i : Int) :: u11 :: u12 :: u13 :: u14 :: u15 :: u16 :: u17 :: u18 :: u19 :: u20 :: u21 :: u22 :: u23 :: u24 :: u25 :: u26 :: u27 :: u28 :: u29 :: u30 :: u31 :: u32 :: u33 :: u34 :: u35 :: u36 :: u37 :: u38 :: u39 :: u40 :: u41 :: u42 :: u43 :: u44 :: u45 :: u46 :: u47 :: u48 :: u49 :: u50 :: u51 :: u52 :: u53 :: u54 :: u55 :: [])), []⟩ w := by
  refine wp_mono (hps10_in B g c N f w0 lo i hX hY hN _ _ _ _ _ _ _ _ _ _ _ _ _ _ _ _ _ _ _ _ _ _ _ _ _ _ _ _ _ _ _ _ _ _ _ _ _ _ _ _ _ _ _ _ _ _ _ _ _ _ _ _ _ w hG) ?_
  rintro e a w' h
  obtain ⟨y33, h⟩ := h
  obtain ⟨y34, h⟩ := h
  obtain ⟨y35, h⟩ := h
  obtain ⟨y36, h⟩ := h
  obtain ⟨y37, h⟩ := h
  obtain ⟨y38, h⟩ := h
  obtain ⟨y39, h⟩ := h
  obtain ⟨y40, h⟩ := h
  obtain ⟨y41, h⟩ := h
  obtain ⟨y42, h⟩ := h
  obtain ⟨y43, h⟩ := h
  obtain ⟨y44, h⟩ := h
  obtain ⟨y45, h⟩ := h
  obtain ⟨y46, h⟩ := h
  obtain ⟨y47, h⟩ := h
  obtain ⟨y48, h⟩ := h
  obtain ⟨y49, h⟩ := h
  obtain ⟨y50, h⟩ := h
  obtain ⟨h, rfl, hq⟩ := h
  subst h
  exact hend y33 y34 y35 y36 y37 y38 y39 y40 y41 y42 y43 y44 y45 y46 y47 y48 y49 y50 w' hq
end Go.Proofs.Ytelfeedaadkhnaa
