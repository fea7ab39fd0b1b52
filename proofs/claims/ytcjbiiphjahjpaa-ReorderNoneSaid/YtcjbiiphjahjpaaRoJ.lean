/- reorder: Tick and Flush, down to the call of leave. Conditions: as each says. -/
import Derived.Test.YtcjbiiphjahjpaaRoI
set_option linter.unusedVariables false
set_option linter.unusedSimpArgs false
namespace Go.Proofs.Ytcjbiiphjahjpaa
open Go Go.RowKit

/-- Amid Tick. -/
structure Tk (b g L c hold k : Nat) (cs : List Value) (w0 wx : World) : Prop where
  list : wx.cell? ⟨b, 4, none⟩ = some (.slice (some ⟨g, 0, none⟩) L c)
  hold : wx.cell? ⟨b, 1, none⟩ = some (.int .u64 (hold : Int))
  ra : wx.rangeAt g (k * 13) cs
  bl : b < w0.heap.size
  gl : g < w0.heap.size
  pure : Only (fun _ => False) w0 wx
theorem Tk.go {b g L c hold k : Nat} {cs : List Value} {w0 wx wy : World} (h : Tk b g L c hold k cs w0 wx) (ho : Only (fun _ => False) wx wy) : Tk b g L c hold k cs w0 wy :=
  have hs := h.pure.size
  ⟨grown_cell ho h.list (Nat.lt_of_lt_of_le h.bl hs), grown_cell ho h.hold (Nat.lt_of_lt_of_le h.bl hs), fun j z hj => grown_cell ho (h.ra j z hj) (Nat.lt_of_lt_of_le h.gl hs), h.bl, h.gl, h.pure.trans ho (fun _ _ e => e)⟩
/-- How many must go. -/
def mustGo (f : Nat → Bool) : Nat → Nat
  | 0 => 0
  | k + 1 => if f k then mustGo f k else k + 1
def rj4_A : List (List Nat) := ([] :: [0] :: [1, 0] :: [2, 1, 0] :: [3, 2, 1, 0] :: [4, 2, 3, 1, 0] :: [5, 2, 4, 3, 1, 0] :: [2, 1, 0] :: [7, 2, 1, 0] :: (6 :: 8 :: 2 :: 5 :: 4 :: 3 :: 1 :: 0 :: 7 :: []) :: (9 :: 2 :: 6 :: 8 :: 5 :: 4 :: 3 :: 1 :: 0 :: 7 :: []) :: [2, 1, 0] :: (10 :: 11 :: 2 :: 9 :: 6 :: 8 :: 5 :: 4 :: 3 :: 1 :: 0 :: 7 :: []) :: [2, 1, 0] :: [13, 2, 1, 0] :: [14, 2, 13, 1, 0] :: [15, 2, 14, 13, 1, 0] :: (12 :: 16 :: 2 :: 10 :: 11 :: 9 :: 6 :: 8 :: 5 :: 4 :: 3 :: 1 :: 0 :: 7 :: 15 :: 14 :: 13 :: []) :: (2 :: 17 :: 1 :: 0 :: 12 :: 16 :: 10 :: 11 :: 9 :: 6 :: 8 :: 5 :: 4 :: 3 :: 7 :: 15 :: 14 :: 13 :: []) :: [])
def rj4_kill : List (List Nat) := ([] :: [] :: [] :: [] :: [] :: [] :: [] :: [] :: [] :: [] :: [] :: [] :: [] :: [] :: [] :: [] :: [] :: [] :: [] :: [])
def rj4_uses : List (List Nat) := ([] :: [] :: [] :: [] :: [] :: [] :: [] :: [] :: [] :: [] :: [] :: [] :: [] :: [] :: [] :: [] :: [] :: [] :: [] :: [])
noncomputable def rj4_code : Code := ((Try.f13.body.bind (codeRegion 4)).getD .skip)
set_option maxRecDepth 100000 in
set_option maxHeartbeats 4000000 in
theorem rj4_in (b g L c hold k now wv : Nat) (z : Int) (hz : z = (k : Int) + 1) (cs : List Value) (w0 : World) (hk : k < L) (hL : L ≤ 300) (hsz : (Try.prog.info? 79).map (·.size) = some cs.length) (hwt : ∀ w1, Calls Try.prog 30 #[.agg cs.toArray, .int .u64 (now : Int)] w1 (SaysO (.int .u64 (wv : Int)) w1)) (u2 u3 u4 u6 u7 u8 u9 u10 u11 u12 u13 u14 u15 u16 u17 u18 u19 u20 u21 u22 u23 u24 u25 u26 u27 u28 u29 u30 u31 u32 u33 u34 u35 u36 u37 : Value) (w : World) (hG : Tk b g L c hold k cs w0 w) :
    Code.wp Try.prog rj4_code (fun e a w' => ∃ y14 y15 y16 y17 y18 y19 y20 y21 y22 y23 y24 y25 y26 y27 y28 y29 y30 y31 : Value, a = ⟨(List.toArray (.pointer (some ⟨b, 0, none⟩) :: .int .u64 (now : Int) :: u2 :: u3 :: u4 :: .int .i64 z :: u6 :: u7 :: u8 :: u9 :: u10 :: u11 :: u12 :: u13 :: y14 :: y15 :: y16 :: y17 :: y18 :: y19 :: y20 :: y21 :: y22 :: y23 :: y24 :: y25 :: y26 :: y27 :: y28 :: y29 :: y30 :: y31 :: (.bool (decide (wv < hold))) :: u33 :: u34 :: u35 :: u36 :: u37 :: [])), []⟩ ∧ e = .normal ∧ (Tk b g L c hold k cs w0 w')) ⟨(List.toArray (.pointer (some ⟨b, 0, none⟩) :: .int .u64 (now : Int) :: u2 :: u3 :: u4 :: .int .i64 z :: u6 :: u7 :: u8 :: u9 :: u10 :: u11 :: u12 :: u13 :: u14 :: u15 :: u16 :: u17 :: u18 :: u19 :: u20 :: u21 :: u22 :: u23 :: u24 :: u25 :: u26 :: u27 :: u28 :: u29 :: u30 :: u31 :: u32 :: u33 :: u34 :: u35 :: u36 :: u37 :: [])), []⟩ w := by
  conv => arg 2; whnf
  subst hz
  have HWT := Lib.hid hwt
  clear hwt
  have hkI : (k : Int) < (L : Int) := by omega
  have hk0 : (0 : Int) < (k : Int) + 1 := by omega
  have hwk : IntKind.i64.wrap (k : Int) = (k : Int) := by rw [IntKind.wrap_i64]; omega
  have hkp : (0 : Int) ≤ (k : Int) := by omega
  refine wp_region_posts rj4_A [12] [] rj4_kill rj4_uses [] [] [] []
      (some ?v0 :: some (.bool true) :: some (.bool true) :: some ?v3 :: some ?v4 :: some ?v5 :: some ?v6 :: some ?v7 :: some (.int .i64 (k : Int)) :: some ?v9 :: some ((.agg cs.toArray)) :: some ?v11 :: some (.int .u64 (wv : Int)) :: some ?v13 :: some ?v14 :: some ?v15 :: some ?v16 :: some ?v17 :: some ?v18 :: [])
      ?T (fun wx => Tk b g L c hold k cs w0 wx) ?W ?E (by kernel_rfl) (by kernel_rfl) (by kernel_rfl) (fun x => ?hT) ?hF ?hini (Reg.all_ops ?runs) ?pres ?fin
  case W => exact fun j x w' => True
  case E => exact fun i wx wy => Only (fun _ => False) wx wy
  case hT =>
    simp only [Reg.fillV, Act.put, List.setIfInBounds_toArray, List.set_cons_zero, List.set_cons_succ]
    rfl
  case runs =>
    refine And.intro ?_ ?_
    · refine Reg.ob_pure (fun _ => rfl) rfl rfl rfl rfl (fun x w1 hF => ?_)
      have c4 := hF.list
      have c1 := hF.hold
      go_simp
      with_reducible rfl
    refine And.intro ?_ ?_
    · refine Reg.ob_pure (fun _ => rfl) rfl rfl rfl rfl (fun x w1 hF => ?_)
      go_simp
    refine And.intro ?_ ?_
    · refine Reg.ob_pure (fun _ => rfl) rfl rfl rfl rfl (fun x w1 hF => ?_)
      go_simp
    refine And.intro ?_ ?_
    · refine Reg.ob_pure (fun _ => rfl) rfl rfl rfl rfl (fun x w1 hF => ?_)
      have c4 := hF.list
      have c1 := hF.hold
      go_simp
      with_reducible rfl
    refine And.intro ?_ ?_
    · refine Reg.ob_pure (fun _ => rfl) rfl rfl rfl rfl (fun x w1 hF => ?_)
      have c4 := hF.list
      have c1 := hF.hold
      go_simp
      with_reducible rfl
    refine And.intro ?_ ?_
    · refine Reg.ob_pure (fun _ => rfl) rfl rfl rfl rfl (fun x w1 hF => ?_)
      have c4 := hF.list
      have c1 := hF.hold
      go_simp
      with_reducible rfl
    refine And.intro ?_ ?_
    · refine Reg.ob_pure (fun _ => rfl) rfl rfl rfl rfl (fun x w1 hF => ?_)
      have c4 := hF.list
      have c1 := hF.hold
      go_simp
      with_reducible rfl
    refine And.intro ?_ ?_
    · refine Reg.ob_pure (fun _ => rfl) rfl rfl rfl rfl (fun x w1 hF => ?_)
      have c4 := hF.list
      have c1 := hF.hold
      go_simp
      with_reducible rfl
    refine And.intro ?_ ?_
    · refine Reg.ob_pure (fun _ => rfl) rfl rfl rfl rfl (fun x w1 hF => ?_)
      go_simp
    refine And.intro ?_ ?_
    · refine Reg.ob_pure (fun _ => rfl) rfl rfl rfl rfl (fun x w1 hF => ?_)
      have c4 := hF.list
      have c1 := hF.hold
      go_simp
      with_reducible rfl
    refine And.intro ?_ ?_
    · refine Reg.ob_known (fun _ => rfl) rfl rfl (fun x w1 hF hU K hK => ?_)
      refine wp_load_mid 79 _ rfl g (k * 13) rfl cs _ (hF rfl).ra Try.underlying79 rfl hsz ?_
      exact hK w1 (fun h _ _ => absurd h (by decide)) rfl
    refine And.intro ?_ ?_
    · refine Reg.ob_pure (fun _ => rfl) rfl rfl rfl rfl (fun x w1 hF => ?_)
      have c4 := hF.list
      have c1 := hF.hold
      go_simp
      with_reducible rfl
    refine And.intro ?_ ?_
    · refine Reg.ob_known (fun _ => rfl) rfl rfl (fun x w1 hF hU K hK => ?_)
      replace hF := hF rfl
      go_simp
      refine (HWT.out w1).mono ?_
      rintro e w5 ⟨rfl, ho⟩
      exact hK w5 (fun _ _ _ => hF.go ho) ho
    refine And.intro ?_ ?_
    · refine Reg.ob_pure (fun _ => rfl) rfl rfl rfl rfl (fun x w1 hF => ?_)
      have c4 := hF.list
      have c1 := hF.hold
      go_simp
      with_reducible rfl
    refine And.intro ?_ ?_
    · refine Reg.ob_pure (fun _ => rfl) rfl rfl rfl rfl (fun x w1 hF => ?_)
      have c4 := hF.list
      have c1 := hF.hold
      go_simp
      with_reducible rfl
    refine And.intro ?_ ?_
    · refine Reg.ob_pure (fun _ => rfl) rfl rfl rfl rfl (fun x w1 hF => ?_)
      have c4 := hF.list
      have c1 := hF.hold
      go_simp
      with_reducible rfl
    refine And.intro ?_ ?_
    · refine Reg.ob_pure (fun _ => rfl) rfl rfl rfl rfl (fun x w1 hF => ?_)
      have c4 := hF.list
      have c1 := hF.hold
      go_simp
      with_reducible rfl
    refine And.intro ?_ ?_
    · refine Reg.ob_pure (fun _ => rfl) rfl rfl rfl rfl (fun x w1 hF => ?_)
      have c4 := hF.list
      have c1 := hF.hold
      go_simp
      with_reducible rfl
    refine And.intro ?_ ?_
    · refine Reg.ob_pure (fun _ => rfl) rfl rfl rfl rfl (fun x w1 hF => ?_)
      have c4 := hF.list
      have c1 := hF.hold
      go_simp
      with_reducible rfl
    exact trivial
  case hF =>
    exact hG.go ((Only.refl _ _).drewN 1)
  case hini =>
    exact trivial
  case pres =>
    intro i hi j hj
    simp at hj
  case fin =>
    rintro x w9 hF hU
    repeat apply Exists.intro
    exact ⟨rfl, rfl, hF rfl⟩

set_option maxRecDepth 100000 in
set_option maxHeartbeats 4000000 in
theorem rj4 (b g L c hold k now wv : Nat) (z : Int) (hz : z = (k : Int) + 1) (cs : List Value) (w0 : World) (hk : k < L) (hL : L ≤ 300) (hsz : (Try.prog.info? 79).map (·.size) = some cs.length) (hwt : ∀ w1, Calls Try.prog 30 #[.agg cs.toArray, .int .u64 (now : Int)] w1 (SaysO (.int .u64 (wv : Int)) w1)) (u2 u3 u4 u6 u7 u8 u9 u10 u11 u12 u13 u14 u15 u16 u17 u18 u19 u20 u21 u22 u23 u24 u25 u26 u27 u28 u29 u30 u31 u32 u33 u34 u35 u36 u37 : Value) (Q : Exit → Act → World → Prop) (w : World) (hG : Tk b g L c hold k cs w0 w)
    (hend : ∀ (y14 y15 y16 y17 y18 y19 y20 y21 y22 y23 y24 y25 y26 y27 y28 y29 y30 y31 : Value) (w' : World), (Tk b g L c hold k cs w0 w') → Q .normal ⟨(List.toArray (.pointer (some ⟨b, 0, none⟩) :: .int .u64 (now : Int) :: u2 :: u3 :: u4 :: .int .i64 z :: u6 :: u7 :: u8 :: u9 :: u10 :: u11 :: u12 :: u13 :: y14 :: y15 :: y16 :: y17 :: y18 :: y19 :: y20 :: y21 :: y22 :: y23 :: y24 :: y25 :: y26 :: y27 :: y28 :: y29 :: y30 :: y31 :: (.bool (decide (wv < hold))) :: u33 :: u34 :: u35 :: u36 :: u37 :: [])), []⟩ w') :
    Code.wp Try.prog rj4_code Q ⟨(List.toArray (.pointer (some ⟨b, 0, none⟩) :: .int .u64 (now : Int) :: u2 :: u3 :: u4 :: .int .i64 z :: u6 :: u7 :: u8 :: u9 :: u10 :: u11 :: u12 :: u13 :: u14 :: u15 :: u16 :: u17 :: u18 :: u19 :: u20 :: u21 :: u22 :: u23 :: u24 :: u25 :: u26 :: u27 :: u28 :: u29 :: u30 :: u31 :: u32 :: u33 :: u34 :: u35 :: u36 :: u37 :: [])), []⟩ w := by
  refine wp_mono (rj4_in b g L c hold k now wv z hz cs w0 hk hL hsz hwt _ _ _ _ _ _ _ _ _ _ _ _ _ _ _ _ _ _ _ _ _ _ _ _ _ _ _ _ _ _ _ _ _ _ _ w hG) ?_
  rintro e a w' h
  obtain ⟨y14, h⟩ := h
  obtain ⟨y15, h⟩ := h
  obtain ⟨y16, h⟩ := h
  obtain ⟨y17, h⟩ := h
  obtain ⟨y18, h⟩ := h
  obtain ⟨y19, h⟩ := h
  obtain ⟨y20, h⟩ := h
  obtain ⟨y21, h⟩ := h
  obtain ⟨y22, h⟩ := h
  obtain ⟨y23, h⟩ := h
  obtain ⟨y24, h⟩ := h
  obtain ⟨y25, h⟩ := h
  obtain ⟨y26, h⟩ := h
  obtain ⟨y27, h⟩ := h
  obtain ⟨y28, h⟩ := h
  obtain ⟨y29, h⟩ := h
  obtain ⟨y30, h⟩ := h
  obtain ⟨y31, h⟩ := h
  obtain ⟨h, rfl, hq⟩ := h
  subst h
  exact hend y14 y15 y16 y17 y18 y19 y20 y21 y22 y23 y24 y25 y26 y27 y28 y29 y30 y31 w' hq
def rj0_A : List (List Nat) := ([] :: [0] :: [1, 0] :: [2, 1, 0] :: [3, 2, 1, 0] :: [4, 2, 3, 1, 0] :: [5, 2, 4, 3, 1, 0] :: [2, 1, 0] :: [7, 2, 1, 0] :: (6 :: 8 :: 2 :: 5 :: 4 :: 3 :: 1 :: 0 :: 7 :: []) :: (9 :: 2 :: 6 :: 8 :: 5 :: 4 :: 3 :: 1 :: 0 :: 7 :: []) :: [2, 1, 0] :: (10 :: 11 :: 2 :: 9 :: 6 :: 8 :: 5 :: 4 :: 3 :: 1 :: 0 :: 7 :: []) :: [2, 1, 0] :: [13, 2, 1, 0] :: [14, 2, 13, 1, 0] :: [15, 2, 14, 13, 1, 0] :: (12 :: 16 :: 2 :: 10 :: 11 :: 9 :: 6 :: 8 :: 5 :: 4 :: 3 :: 1 :: 0 :: 7 :: 15 :: 14 :: 13 :: []) :: (2 :: 17 :: 1 :: 0 :: 12 :: 16 :: 10 :: 11 :: 9 :: 6 :: 8 :: 5 :: 4 :: 3 :: 7 :: 15 :: 14 :: 13 :: []) :: [])
def rj0_kill : List (List Nat) := ([] :: [] :: [] :: [] :: [] :: [] :: [] :: [] :: [] :: [] :: [] :: [] :: [] :: [] :: [] :: [] :: [] :: [] :: [] :: [])
def rj0_uses : List (List Nat) := ([] :: [] :: [] :: [] :: [] :: [] :: [] :: [] :: [] :: [] :: [] :: [] :: [] :: [] :: [] :: [] :: [] :: [] :: [] :: [])
noncomputable def rj0_code : Code := ((Try.f13.body.bind (codeRegion 4)).getD .skip)
set_option maxRecDepth 100000 in
set_option maxHeartbeats 4000000 in
theorem rj0_in (w0 : World) (k : Nat) (hz : (k : Int) ≤ 0) (u0 u1 u2 u3 u4 u6 u7 u8 u9 u10 u11 u12 u13 u14 u15 u16 u17 u18 u19 u20 u21 u22 u23 u24 u25 u26 u27 u28 u29 u30 u31 u32 u33 u34 u35 u36 u37 : Value) (w : World) (hG : Only (fun _ => False) w0 w) :
    Code.wp Try.prog rj0_code (fun e a w' => ∃ y14 y15 y16 y17 y18 y19 y20 y21 y22 y23 y24 y25 y26 y27 y28 y29 y30 y31 : Value, a = ⟨(List.toArray (u0 :: u1 :: u2 :: u3 :: u4 :: .int .i64 (k : Int) :: u6 :: u7 :: u8 :: u9 :: u10 :: u11 :: u12 :: u13 :: y14 :: y15 :: y16 :: y17 :: y18 :: y19 :: y20 :: y21 :: y22 :: y23 :: y24 :: y25 :: y26 :: y27 :: y28 :: y29 :: y30 :: y31 :: (.bool false) :: u33 :: u34 :: u35 :: u36 :: u37 :: [])), []⟩ ∧ e = .normal ∧ (Only (fun _ => False) w0 w')) ⟨(List.toArray (u0 :: u1 :: u2 :: u3 :: u4 :: .int .i64 (k : Int) :: u6 :: u7 :: u8 :: u9 :: u10 :: u11 :: u12 :: u13 :: u14 :: u15 :: u16 :: u17 :: u18 :: u19 :: u20 :: u21 :: u22 :: u23 :: u24 :: u25 :: u26 :: u27 :: u28 :: u29 :: u30 :: u31 :: u32 :: u33 :: u34 :: u35 :: u36 :: u37 :: [])), []⟩ w := by
  conv => arg 2; whnf
  refine wp_region_posts rj0_A [] [] rj0_kill rj0_uses [] [] [] []
      (some ?v0 :: some (.bool false) :: some (.bool false) :: some undef :: some undef :: some undef :: some undef :: some undef :: some undef :: some undef :: some undef :: some undef :: some undef :: some undef :: some undef :: some undef :: some undef :: some undef :: some ?v18 :: [])
      ?T (fun wx => Only (fun _ => False) w0 wx) ?W ?E (by kernel_rfl) (by kernel_rfl) (by kernel_rfl) (fun x => ?hT) ?hF ?hini (Reg.all_ops ?runs) ?pres ?fin
  case W => exact fun j x w' => True
  case E => exact fun i wx wy => True
  case hT =>
    simp only [Reg.fillV, Act.put, List.setIfInBounds_toArray, List.set_cons_zero, List.set_cons_succ]
    rfl
  case runs =>
    refine And.intro ?_ ?_
    · refine Reg.ob_pure (fun _ => rfl) rfl rfl rfl rfl (fun x w1 hF => ?_)
      go_simp
      with_reducible rfl
    refine And.intro ?_ ?_
    · refine Reg.ob_pure (fun _ => rfl) rfl rfl rfl rfl (fun x w1 hF => ?_)
      go_simp
      omega
    refine And.intro ?_ ?_
    · refine Reg.ob_pure (fun _ => rfl) rfl rfl rfl rfl (fun x w1 hF => ?_)
      go_simp
    refine And.intro ?_ ?_
    · exact Reg.ob_skip (fun _ => rfl) rfl rfl rfl
    refine And.intro ?_ ?_
    · exact Reg.ob_skip (fun _ => rfl) rfl rfl rfl
    refine And.intro ?_ ?_
    · exact Reg.ob_skip (fun _ => rfl) rfl rfl rfl
    refine And.intro ?_ ?_
    · exact Reg.ob_skip (fun _ => rfl) rfl rfl rfl
    refine And.intro ?_ ?_
    · exact Reg.ob_skip (fun _ => rfl) rfl rfl rfl
    refine And.intro ?_ ?_
    · exact Reg.ob_skip (fun _ => rfl) rfl rfl rfl
    refine And.intro ?_ ?_
    · exact Reg.ob_skip (fun _ => rfl) rfl rfl rfl
    refine And.intro ?_ ?_
    · exact Reg.ob_skip (fun _ => rfl) rfl rfl rfl
    refine And.intro ?_ ?_
    · exact Reg.ob_skip (fun _ => rfl) rfl rfl rfl
    refine And.intro ?_ ?_
    · exact Reg.ob_skip (fun _ => rfl) rfl rfl rfl
    refine And.intro ?_ ?_
    · exact Reg.ob_skip (fun _ => rfl) rfl rfl rfl
    refine And.intro ?_ ?_
    · exact Reg.ob_skip (fun _ => rfl) rfl rfl rfl
    refine And.intro ?_ ?_
    · exact Reg.ob_skip (fun _ => rfl) rfl rfl rfl
    refine And.intro ?_ ?_
    · exact Reg.ob_skip (fun _ => rfl) rfl rfl rfl
    refine And.intro ?_ ?_
    · exact Reg.ob_skip (fun _ => rfl) rfl rfl rfl
    refine And.intro ?_ ?_
    · refine Reg.ob_pure (fun _ => rfl) rfl rfl rfl rfl (fun x w1 hF => ?_)
      go_simp
      with_reducible rfl
    exact trivial
  case hF =>
    exact hG.drewN 1
  case hini =>
    exact trivial
  case pres =>
    intro i hi
    simp at hi
  case fin =>
    rintro x w9 hF hU
    repeat apply Exists.intro
    exact ⟨rfl, rfl, hF rfl⟩

set_option maxRecDepth 100000 in
set_option maxHeartbeats 4000000 in
theorem rj0 (w0 : World) (k : Nat) (hz : (k : Int) ≤ 0) (u0 u1 u2 u3 u4 u6 u7 u8 u9 u10 u11 u12 u13 u14 u15 u16 u17 u18 u19 u20 u21 u22 u23 u24 u25 u26 u27 u28 u29 u30 u31 u32 u33 u34 u35 u36 u37 : Value) (Q : Exit → Act → World → Prop) (w : World) (hG : Only (fun _ => False) w0 w)
    (hend : ∀ (y14 y15 y16 y17 y18 y19 y20 y21 y22 y23 y24 y25 y26 y27 y28 y29 y30 y31 : Value) (w' : World), (Only (fun _ => False) w0 w') → Q .normal ⟨(List.toArray (u0 :: u1 :: u2 :: u3 :: u4 :: .int .i64 (k : Int) :: u6 :: u7 :: u8 :: u9 :: u10 :: u11 :: u12 :: u13 :: y14 :: y15 :: y16 :: y17 :: y18 :: y19 :: y20 :: y21 :: y22 :: y23 :: y24 :: y25 :: y26 :: y27 :: y28 :: y29 :: y30 :: y31 :: (.bool false) :: u33 :: u34 :: u35 :: u36 :: u37 :: [])), []⟩ w') :
    Code.wp Try.prog rj0_code Q ⟨(List.toArray (u0 :: u1 :: u2 :: u3 :: u4 :: .int .i64 (k : Int) :: u6 :: u7 :: u8 :: u9 :: u10 :: u11 :: u12 :: u13 :: u14 :: u15 :: u16 :: u17 :: u18 :: u19 :: u20 :: u21 :: u22 :: u23 :: u24 :: u25 :: u26 :: u27 :: u28 :: u29 :: u30 :: u31 :: u32 :: u33 :: u34 :: u35 :: u36 :: u37 :: [])), []⟩ w := by
  refine wp_mono (rj0_in w0 k hz _ _ _ _ _ _ _ _ _ _ _ _ _ _ _ _ _ _ _ _ _ _ _ _ _ _ _ _ _ _ _ _ _ _ _ _ _ w hG) ?_
  rintro e a w' h
  obtain ⟨y14, h⟩ := h
  obtain ⟨y15, h⟩ := h
  obtain ⟨y16, h⟩ := h
  obtain ⟨y17, h⟩ := h
  obtain ⟨y18, h⟩ := h
  obtain ⟨y19, h⟩ := h
  obtain ⟨y20, h⟩ := h
  obtain ⟨y21, h⟩ := h
  obtain ⟨y22, h⟩ := h
  obtain ⟨y23, h⟩ := h
  obtain ⟨y24, h⟩ := h
  obtain ⟨y25, h⟩ := h
  obtain ⟨y26, h⟩ := h
  obtain ⟨y27, h⟩ := h
  obtain ⟨y28, h⟩ := h
  obtain ⟨y29, h⟩ := h
  obtain ⟨y30, h⟩ := h
  obtain ⟨y31, h⟩ := h
  obtain ⟨h, rfl, hq⟩ := h
  subst h
  exact hend y14 y15 y16 y17 y18 y19 y20 y21 y22 y23 y24 y25 y26 y27 y28 y29 y30 y31 w' hq
end Go.Proofs.Ytcjbiiphjahjpaa
