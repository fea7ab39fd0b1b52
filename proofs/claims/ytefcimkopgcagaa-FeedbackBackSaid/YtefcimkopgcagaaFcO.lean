/- easelref07.Put. Conditions: as each says. -/
import Derived.Test.YtefcimkopgcagaaFcN
import Derived.Test.YtefcimkopgcagaaRcFk
import Derived.Test.YtefcimkopgcagaaBase
set_option linter.unusedVariables false
set_option linter.unusedSimpArgs false
namespace Go.Proofs.Ytefcimkopgcagaa
open Go.RowKit

/-- What is answered of a struct and one more. -/
theorem res_cell1p {P : Program} {fn : Func} {p q : Tmp} {ty : TypeId} (h : fn.results = #[.cell p ty, .tmp q]) (tmps : Array Value) (w : World) (g : Nat) (t : TypeId) (cs : Array Value) (d : TypeDesc) (x : Value)
    (hp : tmps.getD p undef = .pointer (some ⟨g, 0, none⟩)) (hq : tmps.getD q undef = x) (hg : Is w g t cs)
    (hu : P.underlying ty = some d) (hd : (match d with | .struct _ | .array _ _ => true | _ => false) = true) (hi : (P.info? ty).map (·.size) = some cs.size) :
    (results fn tmps).run P w = .ok (.tuple #[.agg cs, x]) w := by
  have hp' : tmps[p]?.getD undef = .pointer (some ⟨g, 0, none⟩) := by simpa using hp
  have hq' : tmps[q]?.getD undef = x := by simpa using hq
  simp [results, h, hp', hq', asAddr, run_loadVar_row w g t ty cs (0, 0) d hg hu hd hi]
def rput5_A : List (List Nat) := ([] :: [] :: [1] :: [0, 2, 1] :: [3, 0, 2, 1] :: [] :: [] :: [6] :: [5, 7, 6] :: [8, 5, 7, 6] :: [] :: [10] :: (4 :: 9 :: 11 :: 3 :: 0 :: 2 :: 1 :: 8 :: 5 :: 7 :: 6 :: 10 :: []) :: (12 :: 11 :: 0 :: 1 :: 2 :: 3 :: 4 :: 5 :: 6 :: 7 :: 8 :: 9 :: 10 :: []) :: (13 :: 0 :: 1 :: 2 :: 3 :: 4 :: 5 :: 6 :: 7 :: 8 :: 9 :: 10 :: 11 :: 12 :: []) :: [])
def rput5_kill : List (List Nat) := ([] :: [] :: [] :: [] :: [] :: [] :: [] :: [] :: [] :: [] :: [] :: [] :: [] :: [11, 12] :: [] :: [])
def rput5_uses : List (List Nat) := ([] :: [] :: [] :: [] :: [] :: [] :: [] :: [] :: [] :: [] :: [] :: [] :: [11] :: [12] :: [] :: [])
noncomputable def rput5_code : Code := ((Try.f11.body.bind (codeRegion 5)).getD .skip)
set_option maxRecDepth 100000 in
set_option maxHeartbeats 4000000 in
theorem rput5_in (m : Ms) (p1 o1 s1 : Value) (p q gk gc : Nat) (bs : List Nat) (hbs : bodyB m = bs) (hl : m.pairs.length ≤ 1000 ∧ m.orders.length ≤ 1000 ∧ m.srcs.length ≤ 1000) (hf : MFit m) (hr4 : m.sort = 4 → m.srcs.length ≤ 255 ∧ m.exp ≤ 63 ∧ m.mant < 262144) (hs : m.sort < 5) (u0 u3 u6 u7 u8 u9 u10 u11 u12 u13 u14 u15 u16 u17 u18 u19 u20 u21 u22 u23 u24 : Value) (w0 : World) (hP : Is w0 p 33 (m.cls p1 o1 s1)) (hQ : Is w0 q 37 pktZ) (hKc : w0.cell? ⟨gk, m.sort, none⟩ = some (.int .u8 (kdOf m.sort : Nat))) (hCc : w0.cell? ⟨gc, m.sort, none⟩ = some (.int .u8 (ctOf m.sort : Nat))) (hgk : gk < w0.heap.size) (hgc : gc < w0.heap.size) (hRD : RdM m p1 o1 s1 w0) :
    Code.wp Try.prog rput5_code (fun e a w' => ∃ y12 y13 y14 y15 y16 y17 y18 y19 y20 y21 y22 y23 y24 : Value, a = ⟨(List.toArray (u0 :: .pointer (some ⟨p, 0, none⟩) :: .pointer (some ⟨q, 0, none⟩) :: .int .i64 0 :: .slice (some ⟨gk, 0, none⟩) 5 5 :: .slice (some ⟨gc, 0, none⟩) 5 5 :: u6 :: u7 :: u8 :: u9 :: u10 :: u11 :: y12 :: y13 :: y14 :: y15 :: y16 :: y17 :: y18 :: y19 :: y20 :: y21 :: y22 :: y23 :: y24 :: [])), []⟩ ∧ e = .normal ∧ (∃ B A c, Is w' q 37 (pktC (ctOf m.sort) (kdOf m.sort) (.slice A bs.length c)) ∧ w'.ownsRow B 5 1 (.slice A bs.length c) bs.length (cellsOf bs) ∧ Only (fun j => j = q) w0 w')) ⟨(List.toArray (u0 :: .pointer (some ⟨p, 0, none⟩) :: .pointer (some ⟨q, 0, none⟩) :: u3 :: .slice (some ⟨gk, 0, none⟩) 5 5 :: .slice (some ⟨gc, 0, none⟩) 5 5 :: u6 :: u7 :: u8 :: u9 :: u10 :: u11 :: u12 :: u13 :: u14 :: u15 :: u16 :: u17 :: u18 :: u19 :: u20 :: u21 :: u22 :: u23 :: u24 :: [])), []⟩ w0 := by
  conv => arg 2; whnf
  have HB := Lib.hid (fun (wx : World) (h : RdM m p1 o1 s1 wx) => by
    have := rbody_is m p1 o1 s1 wx h hl hf hr4
    rwa [hbs] at this)
  have hsI : (m.sort : Int) < 5 := by omega
  clear hbs hl hf hr4
  refine wp_region_posts rput5_A [11, 13] [11, 12, 13] rput5_kill rput5_uses [13] [13] [14] []
      (some ?v0 :: some ?v1 :: some ?v2 :: some ?v3 :: some ?v4 :: some ?v5 :: some ?v6 :: some ?v7 :: some ?v8 :: some ?v9 :: some ?v10 :: none :: none :: none :: some ?v14 :: [])
      ?T (fun wx => Only (fun _ => False) w0 wx) ?W ?E (by kernel_rfl) (by kernel_rfl) (by kernel_rfl) (fun x => ?hT) ?hF ?hini (Reg.all_ops ?runs) ?pres ?fin
  case W => exact fun j x wz => match j with | 11 => ∃ B A c, x 11 = .slice A bs.length c ∧ wz.ownsRow B 5 1 (.slice A bs.length c) bs.length (cellsOf bs) | 12 => ∃ B A c, x 12 = .agg (pktC (ctOf m.sort) (kdOf m.sort) (.slice A bs.length c)) ∧ wz.ownsRow B 5 1 (.slice A bs.length c) bs.length (cellsOf bs) | 13 => ∃ B A c, Is wz q 37 (pktC (ctOf m.sort) (kdOf m.sort) (.slice A bs.length c)) ∧ wz.ownsRow B 5 1 (.slice A bs.length c) bs.length (cellsOf bs) ∧ Only (fun j => j = q) w0 wz | _ => True
  case E => exact fun i wx wy => match i with | 11 => Only (fun _ => False) wx wy | _ => True
  case hT =>
    simp only [Reg.fillV, Act.put, List.setIfInBounds_toArray, List.set_cons_zero, List.set_cons_succ]
    rfl
  case runs =>
    refine And.intro ?_ ?_
    · refine Reg.ob_pure (fun _ => rfl) rfl rfl rfl rfl (fun x w1 hF => ?_)
      go_simp
      with_reducible rfl
    refine And.intro ?_ ?_
    · refine Reg.ob_pure (fun _ => rfl) rfl rfl rfl rfl (fun x w1 hF => ?_)
      go_simp
      with_reducible rfl
    refine And.intro ?_ ?_
    · refine Reg.ob_pure (fun _ => rfl) rfl rfl rfl rfl (fun x w1 hF => ?_)
      have c0 : w1.cell? ⟨p, 0, none⟩ = some (.int .u8 (m.sort : Nat)) := (hP.only hF (by simp)).cell 0
      go_simp
      with_reducible rfl
    refine And.intro ?_ ?_
    · refine Reg.ob_pure (fun _ => rfl) rfl rfl rfl rfl (fun x w1 hF => ?_)
      go_simp
      with_reducible rfl
    refine And.intro ?_ ?_
    · refine Reg.ob_pure (fun _ => rfl) rfl rfl rfl rfl (fun x w1 hF => ?_)
      have ck := (hF.cell (p := ⟨gk, m.sort, none⟩) hgk (by simp)).trans hKc
      go_simp
      with_reducible rfl
    refine And.intro ?_ ?_
    · refine Reg.ob_pure (fun _ => rfl) rfl rfl rfl rfl (fun x w1 hF => ?_)
      go_simp
      with_reducible rfl
    refine And.intro ?_ ?_
    · refine Reg.ob_pure (fun _ => rfl) rfl rfl rfl rfl (fun x w1 hF => ?_)
      go_simp
      with_reducible rfl
    refine And.intro ?_ ?_
    · refine Reg.ob_pure (fun _ => rfl) rfl rfl rfl rfl (fun x w1 hF => ?_)
      have c0 : w1.cell? ⟨p, 0, none⟩ = some (.int .u8 (m.sort : Nat)) := (hP.only hF (by simp)).cell 0
      go_simp
      with_reducible rfl
    refine And.intro ?_ ?_
    · refine Reg.ob_pure (fun _ => rfl) rfl rfl rfl rfl (fun x w1 hF => ?_)
      go_simp
      with_reducible rfl
    refine And.intro ?_ ?_
    · refine Reg.ob_pure (fun _ => rfl) rfl rfl rfl rfl (fun x w1 hF => ?_)
      have cc := (hF.cell (p := ⟨gc, m.sort, none⟩) hgc (by simp)).trans hCc
      go_simp
      with_reducible rfl
    refine And.intro ?_ ?_
    · refine Reg.ob_pure (fun _ => rfl) rfl rfl rfl rfl (fun x w1 hF => ?_)
      obtain ⟨m0, m1, m2, m3, m4, m5, m6, m7⟩ := cls_cells (hP.only hF (by simp))
      go_simp
      with_reducible rfl
    refine And.intro ?_ ?_
    · refine Reg.ob_some (fun _ => rfl) rfl (fun x w1 hF hU K hK => ?_)
      have hF := hF rfl
      go_simp
      refine (HB.out w1 (hRD.only hF)).mono ?_
      rintro e w5 ⟨v, rfl, hacc⟩
      obtain ⟨A, c, rfl⟩ := hacc.slice
      exact hK _ w5 (fun _ _ _ => hF.trans hacc.pure (fun _ _ e => e)) hacc.pure ⟨_, A, c, rfl, hacc.own⟩
    refine And.intro ?_ ?_
    · refine Reg.ob_some (fun _ => rfl) rfl (fun x w1 hF hU K hK => ?_)
      obtain ⟨⟨B, A, c, h11, hu⟩, -⟩ := hU
      have h11 : x 11 = .slice A bs.length c := h11
      revert hK
      simp only [Nat.reduceAdd, h11]
      intro hK
      go_simp
      exact hK _ _ (fun h => by cases h) rfl ⟨B, A, c, rfl, hu⟩
    refine And.intro ?_ ?_
    · refine Reg.ob_some (fun _ => rfl) rfl (fun x w1 hF hU K hK => ?_)
      have hF := hF rfl
      obtain ⟨⟨B, A, c, h12, hu⟩, -⟩ := hU
      have h12 : x 12 = .agg (pktC (ctOf m.sort) (kdOf m.sort) (.slice A bs.length c)) := h12
      have h2 := hQ.only hF (by simp)
      refine wp_store_row 37 _ _ rfl q (pktC (ctOf m.sort) (kdOf m.sort) (.slice A bs.length c)) rfl (by simpa [Act.eval] using h12) 37 pktZ h2 Try.sizeRq rfl (by simp [pktC, Value.oneCell']) ?_
      have ho : Only (fun j => j = q) w1 (w1.setRow q (pktC (ctOf m.sort) (kdOf m.sort) (.slice A bs.length c))) := Only.setRow (S := fun j => j = q) (Only.refl _ w1) (fun _ => rfl) _
      exact hK undef _ (fun _ h _ => by cases h) trivial ⟨B, A, c, h2.setRow _, owned_only hu ho (fun k hk e => owned_off hu h2 (by decide) (by rw [hk, e])), (hF.mono (fun _ _ e => e.elim)).trans ho (fun _ _ e => e)⟩
    refine And.intro ?_ ?_
    · refine Reg.ob_bare (fun _ => rfl) rfl rfl rfl (fun x w1 => ?_)
      go_simp
      with_reducible rfl
    exact trivial
  case hF =>
    exact (Only.refl _ w0).drewN 1
  case hini =>
    exact trivial
  case pres =>
    intro i hi j hj hc x wx wy hF hE hW
    simp only [List.mem_cons, List.mem_nil_iff, or_false] at hi hj
    rcases hi with rfl | rfl <;> rcases hj with rfl | rfl | rfl
    all_goals (exfalso; revert hc; decide)
  case fin =>
    rintro x w9 hF hU
    obtain ⟨hQ, -⟩ := hU
    repeat apply Exists.intro
    exact ⟨rfl, rfl, hQ⟩

set_option maxRecDepth 100000 in
set_option maxHeartbeats 4000000 in
theorem rput5 (m : Ms) (p1 o1 s1 : Value) (p q gk gc : Nat) (bs : List Nat) (hbs : bodyB m = bs) (hl : m.pairs.length ≤ 1000 ∧ m.orders.length ≤ 1000 ∧ m.srcs.length ≤ 1000) (hf : MFit m) (hr4 : m.sort = 4 → m.srcs.length ≤ 255 ∧ m.exp ≤ 63 ∧ m.mant < 262144) (hs : m.sort < 5) (u0 u3 u6 u7 u8 u9 u10 u11 u12 u13 u14 u15 u16 u17 u18 u19 u20 u21 u22 u23 u24 : Value) (Q : Exit → Act → World → Prop) (w0 : World) (hP : Is w0 p 33 (m.cls p1 o1 s1)) (hQ : Is w0 q 37 pktZ) (hKc : w0.cell? ⟨gk, m.sort, none⟩ = some (.int .u8 (kdOf m.sort : Nat))) (hCc : w0.cell? ⟨gc, m.sort, none⟩ = some (.int .u8 (ctOf m.sort : Nat))) (hgk : gk < w0.heap.size) (hgc : gc < w0.heap.size) (hRD : RdM m p1 o1 s1 w0)
    (hend : ∀ (y12 y13 y14 y15 y16 y17 y18 y19 y20 y21 y22 y23 y24 : Value) (w' : World), (∃ B A c, Is w' q 37 (pktC (ctOf m.sort) (kdOf m.sort) (.slice A bs.length c)) ∧ w'.ownsRow B 5 1 (.slice A bs.length c) bs.length (cellsOf bs) ∧ Only (fun j => j = q) w0 w') → Q .normal ⟨(List.toArray (u0 :: .pointer (some ⟨p, 0, none⟩) :: .pointer (some ⟨q, 0, none⟩) :: .int .i64 0 :: .slice (some ⟨gk, 0, none⟩) 5 5 :: .slice (some ⟨gc, 0, none⟩) 5 5 :: u6 :: u7 :: u8 :: u9 :: u10 :: u11 :: y12 :: y13 :: y14 :: y15 :: y16 :: y17 :: y18 :: y19 :: y20 :: y21 :: y22 :: y23 :: y24 :: [])), []⟩ w') :
    Code.wp Try.prog rput5_code Q ⟨(List.toArray (u0 :: .pointer (some ⟨p, 0, none⟩) :: .pointer (some ⟨q, 0, none⟩) :: u3 :: .slice (some ⟨gk, 0, none⟩) 5 5 :: .slice (some ⟨gc, 0, none⟩) 5 5 :: u6 :: u7 :: u8 :: u9 :: u10 :: u11 :: u12 :: u13 :: u14 :: u15 :: u16 :: u17 :: u18 :: u19 :: u20 :: u21 :: u22 :: u23 :: u24 :: [])), []⟩ w0 := by
  refine wp_mono (rput5_in m p1 o1 s1 p q gk gc bs hbs hl hf hr4 hs _ _ _ _ _ _ _ _ _ _ _ _ _ _ _ _ _ _ _ _ _ w0 hP hQ hKc hCc hgk hgc hRD) ?_
  rintro e a w' h
  obtain ⟨y12, h⟩ := h
  obtain ⟨y13, h⟩ := h
  obtain ⟨y14, h⟩ := h
  obtain ⟨y15, h⟩ := h
  obtain ⟨y16, h⟩ := h
  obtain ⟨y17, h⟩ := h
  obtain ⟨y18, h⟩ := h
  obtain ⟨y19, h⟩ := h
  obtain ⟨y20, h⟩ := h
  obtain ⟨y21, h⟩ := h
  obtain ⟨y22, h⟩ := h
  obtain ⟨y23, h⟩ := h
  obtain ⟨y24, h⟩ := h
  obtain ⟨h, rfl, hq⟩ := h
  subst h
  exact hend y12 y13 y14 y15 y16 y17 y18 y19 y20 y21 y22 y23 y24 w' hq

/-- The reference puts a message. -/
def RPut (m : Ms) (w : World) (e : Ending) (w' : World) : Prop := ∃ B A c, e = .returned (.tuple #[.agg (pktC (ctOf m.sort) (kdOf m.sort) (.slice A (bodyB m).length c)), .int .i64 0]) ∧ w'.ownsRow B 5 1 (.slice A (bodyB m).length c) (bodyB m).length (cellsOf (bodyB m)) ∧ Only (fun _ => False) w w'
theorem right_sort {m : Ms} (h : rightMs m = true) : 1 ≤ m.sort ∧ m.sort < 5 ∧ (m.sort = 4 → m.srcs.length ≤ 255 ∧ m.exp ≤ 63 ∧ m.mant < 262144) := by
  unfold rightMs okMs at h
  have := of_decide_eq_true h
  omega
set_option maxRecDepth 100000 in
set_option maxHeartbeats 4000000 in
theorem rput_yes (m : Ms) (p1 o1 s1 : Value) (w : World) (h1 : RdM m p1 o1 s1 w) (hl : m.pairs.length ≤ 1000 ∧ m.orders.length ≤ 1000 ∧ m.srcs.length ≤ 1000) (hf : MFit m) (hok : rightMs m = true) :
    Calls Try.prog 11 #[.agg (m.cls p1 o1 s1)] w (RPut m w) := by
  have HRI := Lib.hid (fun wx (h : RdM m p1 o1 s1 wx) => by have := rright_is m p1 o1 s1 wx h (by omega); rwa [hok] at this)
  have HRD := Lib.hid h1
  obtain ⟨hs1, hs5, hr4⟩ := right_sort hok
  unfold RPut
  clear h1 hok
  go_enter Try.func11, Try.ntmps11
  go_upto_region 1 with (fail)
  obtain ⟨p, hp⟩ : ∃ p, w.heap.size = p := ⟨_, rfl⟩
  obtain ⟨q, hq⟩ : ∃ q, w.heap.size + 1 = q := ⟨_, rfl⟩
  generalize hw2 : World.alloc (World.alloc w _) _ = w2
  have I1 := Lib.hid (show Is w2 p 33 (m.cls p1 o1 s1) from by rw [← hw2, ← hp]; exact (Is.made w _ _).alloc _)
  have I2 := Lib.hid (show Is w2 q 37 pktZ from by
    have e : (w.alloc (.cells (m.cls p1 o1 s1) 33)).heap.size = w.heap.size + 1 := by simp
    rw [← hw2, ← hq, ← e]
    exact Is.made _ _ _)
  have O2 := Lib.hid (show Only (fun _ => False) w w2 from by rw [← hw2]; exact ((Only.refl _ w).alloc _).alloc _)
  rw [hq, hp]
  have HWQ := Lib.hid (show w.heap.size ≤ q from by omega)
  clear hw2 hp hq
  go_wp2_with (refine wpList_load_want (o := ⟨some 6, _, _, _, _, _⟩) rfl _ _ rfl p rfl _ _ _ I1.out Try.underlying33 rfl Try.sizeRme ?_)
  refine (HRI.out _ (HRD.out.only O2.out)).mono ?_
  rintro e w3 ⟨rfl, ho⟩
  have J1 := Lib.hid (I1.out.only ho (by simp))
  have J2 := Lib.hid (I2.out.only ho (by simp))
  have O3 := Lib.hid (O2.out.trans ho (fun _ _ e => e))
  clear ho I1 I2 O2 HRI
  go_upto_region 5 with (fail)
  obtain ⟨gk, hgk⟩ : ∃ p, w3.heap.size = p := ⟨_, rfl⟩
  obtain ⟨gc, hgc⟩ : ∃ q, w3.heap.size + 1 = q := ⟨_, rfl⟩
  generalize hw4 : World.alloc (World.alloc w3 _) _ = w4
  have IK : Is w4 gk 5 #[.int .u8 0, .int .u8 205, .int .u8 206, .int .u8 206, .int .u8 206] := by rw [← hw4, ← hgk]; exact (Is.made w3 _ _).alloc _
  have IC : Is w4 gc 5 #[.int .u8 0, .int .u8 1, .int .u8 1, .int .u8 4, .int .u8 15] := by
    have e : (w3.alloc (.cells #[.int .u8 0, .int .u8 205, .int .u8 206, .int .u8 206, .int .u8 206] 5)).heap.size = w3.heap.size + 1 := by simp
    rw [← hw4, ← hgc, ← e]
    exact Is.made _ _ _
  have O34 : Only (fun _ => False) w3 w4 := by rw [← hw4]; exact ((Only.refl _ w3).alloc _).alloc _
  rw [hgc, hgk]
  clear hw4 hgk hgc
  have hsc : m.sort = 1 ∨ m.sort = 2 ∨ m.sort = 3 ∨ m.sort = 4 := by omega
  have hKc : w4.cell? ⟨gk, m.sort, none⟩ = some (.int .u8 (kdOf m.sort : Nat)) := by
    rw [IK.cell]
    rcases hsc with h | h | h | h <;> rw [h] <;> rfl
  have hCc : w4.cell? ⟨gc, m.sort, none⟩ = some (.int .u8 (ctOf m.sort : Nat)) := by
    rw [IC.cell]
    rcases hsc with h | h | h | h <;> rw [h] <;> rfl
  refine rput5 m p1 o1 s1 p q gk gc (bodyB m) rfl hl hf hr4 hs5 _ _ _ _ _ _ _ _ _ _ _ _ _ _ _ _ _ _ _ _ _ _ w4 (J1.out.only O34 (by simp)) (J2.out.only O34 (by simp)) hKc hCc IK.lt IC.lt (HRD.out.only (O3.out.trans O34 (fun _ _ e => e))) ?_
  rintro y12 y13 y14 y15 y16 y17 y18 y19 y20 y21 y22 y23 y24 w6 ⟨B, A, c, hi6, hown6, ho6⟩
  have O6 := Lib.hid (show Only (fun _ => False) w w6 from (O3.out.trans O34 (fun _ _ e => e)).trans ho6 (fun i hi e => by have := HWQ.out; omega))
  go_wp2
  refine bodyPost_ret (res_cell1p Try.results11 _ w6 q 37 _ _ _ rfl rfl hi6 Try.underlying37 rfl Try.sizeRq) rfl ?_
  exact ⟨B, A, c, rfl, hown6, O6.out⟩
set_option maxRecDepth 100000 in
set_option maxHeartbeats 4000000 in
theorem rput_no (m : Ms) (p1 o1 s1 : Value) (w : World) (h1 : RdM m p1 o1 s1 w) (hl : m.pairs.length ≤ 1000 ∧ m.orders.length ≤ 1000 ∧ m.srcs.length ≤ 1000) (hok : rightMs m = false) :
    Calls Try.prog 11 #[.agg (m.cls p1 o1 s1)] w fun e w' => e = .returned (.tuple #[.agg pktZ, .int .i64 2]) ∧ Only (fun _ => False) w w' := by
  have HRI := Lib.hid (fun wx (h : RdM m p1 o1 s1 wx) => by have := rright_is m p1 o1 s1 wx h (by omega); rwa [hok] at this)
  have HRD := Lib.hid h1
  clear h1 hok
  go_enter Try.func11, Try.ntmps11
  go_upto_region 1 with (fail)
  obtain ⟨p, hp⟩ : ∃ p, w.heap.size = p := ⟨_, rfl⟩
  obtain ⟨q, hq⟩ : ∃ q, w.heap.size + 1 = q := ⟨_, rfl⟩
  generalize hw2 : World.alloc (World.alloc w _) _ = w2
  have I1 := Lib.hid (show Is w2 p 33 (m.cls p1 o1 s1) from by rw [← hw2, ← hp]; exact (Is.made w _ _).alloc _)
  have I2 := Lib.hid (show Is w2 q 37 pktZ from by
    have e : (w.alloc (.cells (m.cls p1 o1 s1) 33)).heap.size = w.heap.size + 1 := by simp
    rw [← hw2, ← hq, ← e]
    exact Is.made _ _ _)
  have O2 := Lib.hid (show Only (fun _ => False) w w2 from by rw [← hw2]; exact ((Only.refl _ w).alloc _).alloc _)
  rw [hq, hp]
  have HWQ := Lib.hid (show w.heap.size ≤ q from by omega)
  clear hw2 hp hq
  go_wp2_with (refine wpList_load_want (o := ⟨some 6, _, _, _, _, _⟩) rfl _ _ rfl p rfl _ _ _ I1.out Try.underlying33 rfl Try.sizeRme ?_)
  refine (HRI.out _ (HRD.out.only O2.out)).mono ?_
  rintro e w3 ⟨rfl, ho⟩
  have J1 := Lib.hid (I1.out.only ho (by simp))
  have J2 := Lib.hid (I2.out.only ho (by simp))
  have O3 := Lib.hid (O2.out.trans ho (fun _ _ e => e))
  clear ho I1 I2 O2 HRI
  go_wp2_with (refine wpList_store_is rfl 37 _ _ rfl q pktZ rfl rfl 37 _ J2.out Try.sizeRq rfl (by simp [pktZ, Value.oneCell']) ?_; intro w6 hi6 ho6)
  refine bodyPost_ret (res_cell1p Try.results11 _ w6 q 37 _ _ _ rfl rfl hi6 Try.underlying37 rfl Try.sizeRq) rfl ?_
  exact ⟨rfl, O3.out.trans ho6 (fun i hi e => by have := HWQ.out; omega)⟩
end Go.Proofs.Ytefcimkopgcagaa
