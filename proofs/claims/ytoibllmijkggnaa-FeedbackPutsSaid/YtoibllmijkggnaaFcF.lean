/- What a message's parts put into a writer. Conditions: as each says. -/
import Derived.Test.YtoibllmijkggnaaFcC
import Derived.Test.YtoibllmijkggnaaFbN
import Derived.Test.YtoibllmijkggnaaBase
set_option linter.unusedVariables false
namespace Go.Proofs.Ytoibllmijkggnaa
open Go.RowKit

/-- What is neither a writer nor bytes stays. -/
def FarW (w w1 : World) : Prop := ∀ ob t cs, t ≠ 123 → t ≠ 5 → Is w ob t cs → Is w1 ob t cs
theorem FarW.trans {w w1 w2 : World} (h : FarW w w1) (k : FarW w1 w2) : FarW w w2 := fun ob t cs h1 h2 hi => k ob t cs h1 h2 (h ob t cs h1 h2 hi)
theorem FarW.of {w w1 : World} (h : Only (fun _ => False) w w1) : FarW w w1 := fun ob t cs _ _ hi => hi.only h (by simp)
/-- A writer to which the digits d were put: its blocks are of B on; what lay below is as it was. -/
structure Pw (b B : Nat) (d : List Nat) (w0 wB wx : World) : Prop where
  wr : ∃ bs v, Wr wx b d bs v B
  far : FarW w0 wx
  old : Only (fun k => B ≤ k) wB wx
  size : B ≤ wx.heap.size
theorem Pw.go {b B : Nat} {d : List Nat} {w0 wB wx wy : World} (h : Pw b B d w0 wB wx) (ho : Only (fun _ => False) wx wy) : Pw b B d w0 wB wy := by
  obtain ⟨bs, v, hw⟩ := h.wr
  exact ⟨⟨bs, v, fw_wr hw ho⟩, h.far.trans (FarW.of ho), h.old.trans ho (fun _ _ e => e.elim), Nat.le_trans h.size ho.size⟩
theorem Pw.from_ {b B : Nat} {d : List Nat} {w0 w1 wB wx : World} (h : Pw b B d w1 wB wx) (hf : FarW w0 w1) : Pw b B d w0 wB wx := ⟨h.wr, hf.trans h.far, h.old, h.size⟩
theorem Pw.here {b B : Nat} {d : List Nat} {w0 wB wx : World} (h : Pw b B d w0 wB wx) : Pw b B d wx wB wx := ⟨h.wr, fun _ _ _ _ _ h => h, h.old, h.size⟩
theorem pw_put {b B x : Nat} {d : List Nat} {w0 wB w : World} (dg : Int) (h : Pw b B d w0 wB w) (hx : x < 18446744073709551616) (hs : d.length ≤ 1000000000) :
    Calls Try.prog 45 #[ptr b, .int .u64 x, .int .i64 dg] w fun e w' => e = .returned (ptr b) ∧ Pw b B (d ++ digs (clamp dg) x) w0 wB w' := by
  obtain ⟨bs, v, hw⟩ := h.wr
  refine (put_is b B x dg d bs v w hw h.size hx (by omega)).mono ?_
  rintro e w' ⟨rfl, bs', v', hw', -, ho⟩
  refine ⟨rfl, ⟨bs', v', hw'⟩, h.far.trans (fun ob t cs h1 h2 hi => fw_is hi hw h1 h2 ho), h.old.trans ho (fun i hi e => ?_), Nat.le_trans h.size ho.size⟩
  rcases e with rfl | e
  · exact hw.base
  · exact (hw.row.lt i e).1
def pairD (p : Pr) : List Nat := digs 16 p.pid ++ digs 16 p.blp
def orderD (p : Od) : List Nat := digs 32 p.ssrc ++ (digs 8 p.no ++ digs 24 0)
theorem pairsD_len : ∀ (l : List Pr), (l.flatMap pairD).length = 32 * l.length
  | [] => rfl
  | p :: l => by rw [List.flatMap_cons, List.length_append, pairsD_len l, List.length_cons]; unfold pairD; rw [List.length_append, digs_length, digs_length]; omega
theorem ordersD_len : ∀ (l : List Od), (l.flatMap orderD).length = 64 * l.length
  | [] => rfl
  | p :: l => by rw [List.flatMap_cons, List.length_append, ordersD_len l, List.length_cons]; unfold orderD; rw [List.length_append, List.length_append, digs_length, digs_length, digs_length]; omega
theorem srcsD_len : ∀ (l : List Nat), (l.flatMap (digs 32)).length = 32 * l.length
  | [] => rfl
  | p :: l => by rw [List.flatMap_cons, List.length_append, srcsD_len l, List.length_cons, digs_length]; omega
theorem flat_take {α : Type} (f : α → List Nat) (l : List α) (k : Nat) (p : α) (h : l[k]? = some p) : (l.take (k + 1)).flatMap f = (l.take k).flatMap f ++ f p := by
  rw [List.take_add_one, h]
  simp
def putp4_A : List (List Nat) := ([] :: [] :: [1] :: [2, 1] :: [0, 3, 2, 1] :: [] :: [5] :: [6, 5] :: (4 :: 7 :: 0 :: 3 :: 2 :: 1 :: 6 :: 5 :: []) :: [])
def putp4_kill : List (List Nat) := ([] :: [] :: [] :: [] :: [9] :: [] :: [] :: [] :: [9, 4] :: [])
def putp4_uses : List (List Nat) := ([] :: [] :: [] :: [] :: [9] :: [] :: [] :: [] :: [4] :: [])
noncomputable def putp4_code : Code := ((Try.f69.body.bind (codeRegion 4)).getD .skip)
set_option maxRecDepth 100000 in
set_option maxHeartbeats 4000000 in
theorem putp4_in (b B eb : Nat) (d : List Nat) (wB : World) (p : Pr) (hp : p.Fit) (hd : d.length ≤ 100000000) (u0 u2 u3 u4 u6 u7 u8 u9 u10 u11 u12 u13 u14 u15 u16 u17 u18 u19 u20 u21 u22 : Value) (w0 : World) (hE : Is w0 eb 82 #[.int .u16 (p.pid : Nat), .int .u16 (p.blp : Nat)]) (hP : Pw b B d w0 wB w0) :
    Code.wp Try.prog putp4_code (fun e a w' => ∃ y13 y14 y15 y16 y17 y18 y19 y20 y21 : Value, a = ⟨(List.toArray (u0 :: ptr b :: u2 :: u3 :: u4 :: .pointer (some ⟨eb, 0, none⟩) :: u6 :: u7 :: u8 :: u9 :: u10 :: u11 :: u12 :: y13 :: y14 :: y15 :: y16 :: y17 :: y18 :: y19 :: y20 :: y21 :: u22 :: [])), []⟩ ∧ e = .normal ∧ Pw b B ((d ++ digs 16 p.pid) ++ digs 16 p.blp) w0 wB w') ⟨(List.toArray (u0 :: ptr b :: u2 :: u3 :: u4 :: .pointer (some ⟨eb, 0, none⟩) :: u6 :: u7 :: u8 :: u9 :: u10 :: u11 :: u12 :: u13 :: u14 :: u15 :: u16 :: u17 :: u18 :: u19 :: u20 :: u21 :: u22 :: [])), []⟩ w0 := by
  conv => arg 2; whnf
  have HX0 := Lib.hid (show p.pid < 18446744073709551616 from by have := hp.1; omega)
  have HX1 := Lib.hid (show p.blp < 18446744073709551616 from by have := hp.2; omega)
  have zp : (p.pid : Int) < 65536 := by have := hp.1; omega
  have zb : (p.blp : Int) < 65536 := by have := hp.2; omega
  have zp0 : p.pid < 65536 := hp.1
  have zb0 : p.blp < 65536 := hp.2
  have wx0 : IntKind.u64.wrap (p.pid : Int) = (p.pid : Int) := by rw [IntKind.wrap_u64]; omega
  have wx1 : IntKind.u64.wrap (p.blp : Int) = (p.blp : Int) := by rw [IntKind.wrap_u64]; omega
  clear zp zb
  have HD := Lib.hid hd
  have HE := Lib.hid hE
  clear hE hd hp
  refine wp_region_posts putp4_A [4, 8] [4, 8, 9] putp4_kill putp4_uses [8] [] [] [9]
      (some ?v0 :: some ?v1 :: some ?v2 :: some ?v3 :: some (ptr b) :: some ?v5 :: some ?v6 :: some ?v7 :: some (ptr b) :: [])
      ?T (fun wx => Is wx eb 82 #[.int .u16 (p.pid : Nat), .int .u16 (p.blp : Nat)]) ?W ?E (by kernel_rfl) (by kernel_rfl) (by kernel_rfl) (fun x => ?hT) ?hF ?hini (Reg.all_ops ?runs) ?pres ?fin
  case W => exact fun j x w' => match j with | 4 => Pw b B (d ++ digs 16 p.pid) w0 wB w' | 8 => Pw b B ((d ++ digs 16 p.pid) ++ digs 16 p.blp) w0 wB w' | 9 => Pw b B d w0 wB w' | _ => True
  case E => exact fun i w' w'' => True
  case hT =>
    simp only [Reg.fillV, Act.put, List.setIfInBounds_toArray, List.set_cons_zero, List.set_cons_succ]
    rfl
  case runs =>
    refine And.intro ?_ ?_
    · refine Reg.ob_pure (fun _ => rfl) rfl rfl rfl rfl (fun x w1 hF => ?_)
      have c0 := hF.cell 0
      have c1 := hF.cell 1
      simp at c0 c1
      go_simp
      with_reducible rfl
    refine And.intro ?_ ?_
    · refine Reg.ob_pure (fun _ => rfl) rfl rfl rfl rfl (fun x w1 hF => ?_)
      have c0 := hF.cell 0
      have c1 := hF.cell 1
      simp at c0 c1
      go_simp
      with_reducible rfl
    refine And.intro ?_ ?_
    · refine Reg.ob_pure (fun _ => rfl) rfl rfl rfl rfl (fun x w1 hF => ?_)
      have c0 := hF.cell 0
      have c1 := hF.cell 1
      simp at c0 c1
      go_simp
      with_reducible rfl
    refine And.intro ?_ ?_
    · refine Reg.ob_pure (fun _ => rfl) rfl rfl rfl rfl (fun x w1 hF => ?_)
      have c0 := hF.cell 0
      have c1 := hF.cell 1
      simp at c0 c1
      go_simp
      with_reducible rfl
    refine And.intro ?_ ?_
    · refine Reg.ob_told (fun _ => rfl) rfl (fun x w1 hF hU K hK => ?_)
      replace hF := hF rfl
      obtain ⟨hW, -⟩ := hU
      have hW : Pw b B d w0 wB w1 := hW
      unfold ptr at *
      go_simp
      refine (pw_put 16 hW HX0.out (by have := HD.out; (try simp only [List.length_append, digs_length]); omega)).mono ?_
      rintro e w5 ⟨rfl, hw5⟩
      exact hK w5 (fun _ _ _ => hw5.far _ _ _ (by decide) (by decide) HE.out) trivial hw5
    refine And.intro ?_ ?_
    · refine Reg.ob_pure (fun _ => rfl) rfl rfl rfl rfl (fun x w1 hF => ?_)
      have c0 := hF.cell 0
      have c1 := hF.cell 1
      simp at c0 c1
      go_simp
      with_reducible rfl
    refine And.intro ?_ ?_
    · refine Reg.ob_pure (fun _ => rfl) rfl rfl rfl rfl (fun x w1 hF => ?_)
      have c0 := hF.cell 0
      have c1 := hF.cell 1
      simp at c0 c1
      go_simp
      with_reducible rfl
    refine And.intro ?_ ?_
    · refine Reg.ob_pure (fun _ => rfl) rfl rfl rfl rfl (fun x w1 hF => ?_)
      have c0 := hF.cell 0
      have c1 := hF.cell 1
      simp at c0 c1
      go_simp
      with_reducible rfl
    refine And.intro ?_ ?_
    · refine Reg.ob_told (fun _ => rfl) rfl (fun x w1 hF hU K hK => ?_)
      replace hF := hF rfl
      obtain ⟨hW, -⟩ := hU
      have hW : Pw b B (d ++ digs 16 p.pid) w0 wB w1 := hW
      unfold ptr at *
      go_simp
      refine (pw_put 16 hW HX1.out (by have := HD.out; (try simp only [List.length_append, digs_length]); omega)).mono ?_
      rintro e w5 ⟨rfl, hw5⟩
      exact hK w5 (fun _ _ _ => hw5.far _ _ _ (by decide) (by decide) HE.out) trivial hw5
    exact trivial
  case hF =>
    exact HE.out
  case hini =>
    exact ⟨fun x => hP.go (only_drewN _ 1), trivial⟩
  case pres =>
    intro i hi j hj hc x wx wy hF hE hW
    simp only [List.mem_cons, List.mem_nil_iff, or_false] at hi hj
    rcases hi with rfl | rfl <;> rcases hj with rfl | rfl | rfl
    all_goals (exfalso; revert hc; decide)
  case fin =>
    rintro x w9 hF hU
    obtain ⟨hQ, -⟩ := hU
    repeat apply Exists.intro
    exact ⟨rfl, rfl, hQ⟩

set_option maxRecDepth 100000 in
set_option maxHeartbeats 4000000 in
theorem putp4 (b B eb : Nat) (d : List Nat) (wB : World) (p : Pr) (hp : p.Fit) (hd : d.length ≤ 100000000) (u0 u2 u3 u4 u6 u7 u8 u9 u10 u11 u12 u13 u14 u15 u16 u17 u18 u19 u20 u21 u22 : Value) (Q : Exit → Act → World → Prop) (w0 : World) (hE : Is w0 eb 82 #[.int .u16 (p.pid : Nat), .int .u16 (p.blp : Nat)]) (hP : Pw b B d w0 wB w0)
    (hend : ∀ (y13 y14 y15 y16 y17 y18 y19 y20 y21 : Value) (w' : World), Pw b B ((d ++ digs 16 p.pid) ++ digs 16 p.blp) w0 wB w' → Q .normal ⟨(List.toArray (u0 :: ptr b :: u2 :: u3 :: u4 :: .pointer (some ⟨eb, 0, none⟩) :: u6 :: u7 :: u8 :: u9 :: u10 :: u11 :: u12 :: y13 :: y14 :: y15 :: y16 :: y17 :: y18 :: y19 :: y20 :: y21 :: u22 :: [])), []⟩ w') :
    Code.wp Try.prog putp4_code Q ⟨(List.toArray (u0 :: ptr b :: u2 :: u3 :: u4 :: .pointer (some ⟨eb, 0, none⟩) :: u6 :: u7 :: u8 :: u9 :: u10 :: u11 :: u12 :: u13 :: u14 :: u15 :: u16 :: u17 :: u18 :: u19 :: u20 :: u21 :: u22 :: [])), []⟩ w0 := by
  refine wp_mono (putp4_in b B eb d wB p hp hd _ _ _ _ _ _ _ _ _ _ _ _ _ _ _ _ _ _ _ _ _ w0 hE hP) ?_
  rintro e a w' h
  obtain ⟨y13, h⟩ := h
  obtain ⟨y14, h⟩ := h
  obtain ⟨y15, h⟩ := h
  obtain ⟨y16, h⟩ := h
  obtain ⟨y17, h⟩ := h
  obtain ⟨y18, h⟩ := h
  obtain ⟨y19, h⟩ := h
  obtain ⟨y20, h⟩ := h
  obtain ⟨y21, h⟩ := h
  obtain ⟨h, rfl, hq⟩ := h
  subst h
  exact hend y13 y14 y15 y16 y17 y18 y19 y20 y21 w' hq
def puto4_A : List (List Nat) := ([] :: [] :: [1] :: [2, 1] :: [0, 3, 2, 1] :: [] :: [5] :: [6, 5] :: (4 :: 7 :: 0 :: 3 :: 2 :: 1 :: 6 :: 5 :: []) :: (8 :: 4 :: 7 :: 0 :: 3 :: 2 :: 1 :: 6 :: 5 :: []) :: [])
def puto4_kill : List (List Nat) := ([] :: [] :: [] :: [] :: [10] :: [] :: [] :: [] :: [10, 4] :: [10, 4, 8] :: [])
def puto4_uses : List (List Nat) := ([] :: [] :: [] :: [] :: [10] :: [] :: [] :: [] :: [4] :: [8] :: [])
noncomputable def puto4_code : Code := ((Try.f73.body.bind (codeRegion 4)).getD .skip)
set_option maxRecDepth 100000 in
set_option maxHeartbeats 4000000 in
theorem puto4_in (b B eb : Nat) (d : List Nat) (wB : World) (p : Od) (hp : p.Fit) (hd : d.length ≤ 100000000) (u0 u2 u3 u4 u6 u7 u8 u9 u10 u11 u12 u13 u14 u15 u16 u17 u18 u19 u20 u21 u22 u23 : Value) (w0 : World) (hE : Is w0 eb 85 #[.int .u32 (p.ssrc : Nat), .int .u8 (p.no : Nat)]) (hP : Pw b B d w0 wB w0) :
    Code.wp Try.prog puto4_code (fun e a w' => ∃ y13 y14 y15 y16 y17 y18 y19 y20 y21 y22 : Value, a = ⟨(List.toArray (u0 :: ptr b :: u2 :: u3 :: u4 :: .pointer (some ⟨eb, 0, none⟩) :: u6 :: u7 :: u8 :: u9 :: u10 :: u11 :: u12 :: y13 :: y14 :: y15 :: y16 :: y17 :: y18 :: y19 :: y20 :: y21 :: y22 :: u23 :: [])), []⟩ ∧ e = .normal ∧ Pw b B (((d ++ digs 32 p.ssrc) ++ digs 8 p.no) ++ digs 24 0) w0 wB w') ⟨(List.toArray (u0 :: ptr b :: u2 :: u3 :: u4 :: .pointer (some ⟨eb, 0, none⟩) :: u6 :: u7 :: u8 :: u9 :: u10 :: u11 :: u12 :: u13 :: u14 :: u15 :: u16 :: u17 :: u18 :: u19 :: u20 :: u21 :: u22 :: u23 :: [])), []⟩ w0 := by
  conv => arg 2; whnf
  have HX0 := Lib.hid (show p.ssrc < 18446744073709551616 from by have := hp.1; omega)
  have HX1 := Lib.hid (show p.no < 18446744073709551616 from by have := hp.2; omega)
  have HX2 := Lib.hid (show 0 < 18446744073709551616 from by omega)
  have zp0 : p.ssrc < 4294967296 := hp.1
  have zb0 : p.no < 256 := hp.2
  have wx0 : IntKind.u64.wrap (p.ssrc : Int) = (p.ssrc : Int) := by rw [IntKind.wrap_u64]; omega
  have wx1 : IntKind.u64.wrap (p.no : Int) = (p.no : Int) := by rw [IntKind.wrap_u64]; omega
  have HD := Lib.hid hd
  have HE := Lib.hid hE
  clear hE hd hp
  refine wp_region_posts puto4_A [4, 8, 9] [4, 8, 9, 10] puto4_kill puto4_uses [9] [] [] [10]
      (some ?v0 :: some ?v1 :: some ?v2 :: some ?v3 :: some (ptr b) :: some ?v5 :: some ?v6 :: some ?v7 :: some (ptr b) :: some (ptr b) :: [])
      ?T (fun wx => Is wx eb 85 #[.int .u32 (p.ssrc : Nat), .int .u8 (p.no : Nat)]) ?W ?E (by kernel_rfl) (by kernel_rfl) (by kernel_rfl) (fun x => ?hT) ?hF ?hini (Reg.all_ops ?runs) ?pres ?fin
  case W => exact fun j x w' => match j with | 4 => Pw b B (d ++ digs 32 p.ssrc) w0 wB w' | 8 => Pw b B ((d ++ digs 32 p.ssrc) ++ digs 8 p.no) w0 wB w' | 9 => Pw b B (((d ++ digs 32 p.ssrc) ++ digs 8 p.no) ++ digs 24 0) w0 wB w' | 10 => Pw b B d w0 wB w' | _ => True
  case E => exact fun i w' w'' => True
  case hT =>
    simp only [Reg.fillV, Act.put, List.setIfInBounds_toArray, List.set_cons_zero, List.set_cons_succ]
    rfl
  case runs =>
    refine And.intro ?_ ?_
    · refine Reg.ob_pure (fun _ => rfl) rfl rfl rfl rfl (fun x w1 hF => ?_)
      have c0 := hF.cell 0
      have c1 := hF.cell 1
      simp at c0 c1
      go_simp
      with_reducible rfl
    refine And.intro ?_ ?_
    · refine Reg.ob_pure (fun _ => rfl) rfl rfl rfl rfl (fun x w1 hF => ?_)
      have c0 := hF.cell 0
      have c1 := hF.cell 1
      simp at c0 c1
      go_simp
      with_reducible rfl
    refine And.intro ?_ ?_
    · refine Reg.ob_pure (fun _ => rfl) rfl rfl rfl rfl (fun x w1 hF => ?_)
      have c0 := hF.cell 0
      have c1 := hF.cell 1
      simp at c0 c1
      go_simp
      with_reducible rfl
    refine And.intro ?_ ?_
    · refine Reg.ob_pure (fun _ => rfl) rfl rfl rfl rfl (fun x w1 hF => ?_)
      have c0 := hF.cell 0
      have c1 := hF.cell 1
      simp at c0 c1
      go_simp
      with_reducible rfl
    refine And.intro ?_ ?_
    · refine Reg.ob_told (fun _ => rfl) rfl (fun x w1 hF hU K hK => ?_)
      replace hF := hF rfl
      obtain ⟨hW, -⟩ := hU
      have hW : Pw b B d w0 wB w1 := hW
      unfold ptr at *
      go_simp
      refine (pw_put 32 hW HX0.out (by have := HD.out; (try simp only [List.length_append, digs_length]); omega)).mono ?_
      rintro e w5 ⟨rfl, hw5⟩
      exact hK w5 (fun _ _ _ => hw5.far _ _ _ (by decide) (by decide) HE.out) trivial hw5
    refine And.intro ?_ ?_
    · refine Reg.ob_pure (fun _ => rfl) rfl rfl rfl rfl (fun x w1 hF => ?_)
      have c0 := hF.cell 0
      have c1 := hF.cell 1
      simp at c0 c1
      go_simp
      with_reducible rfl
    refine And.intro ?_ ?_
    · refine Reg.ob_pure (fun _ => rfl) rfl rfl rfl rfl (fun x w1 hF => ?_)
      have c0 := hF.cell 0
      have c1 := hF.cell 1
      simp at c0 c1
      go_simp
      with_reducible rfl
    refine And.intro ?_ ?_
    · refine Reg.ob_pure (fun _ => rfl) rfl rfl rfl rfl (fun x w1 hF => ?_)
      have c0 := hF.cell 0
      have c1 := hF.cell 1
      simp at c0 c1
      go_simp
      with_reducible rfl
    refine And.intro ?_ ?_
    · refine Reg.ob_told (fun _ => rfl) rfl (fun x w1 hF hU K hK => ?_)
      replace hF := hF rfl
      obtain ⟨hW, -⟩ := hU
      have hW : Pw b B (d ++ digs 32 p.ssrc) w0 wB w1 := hW
      unfold ptr at *
      go_simp
      refine (pw_put 8 hW HX1.out (by have := HD.out; (try simp only [List.length_append, digs_length]); omega)).mono ?_
      rintro e w5 ⟨rfl, hw5⟩
      exact hK w5 (fun _ _ _ => hw5.far _ _ _ (by decide) (by decide) HE.out) trivial hw5
    refine And.intro ?_ ?_
    · refine Reg.ob_told (fun _ => rfl) rfl (fun x w1 hF hU K hK => ?_)
      replace hF := hF rfl
      obtain ⟨hW, -⟩ := hU
      have hW : Pw b B ((d ++ digs 32 p.ssrc) ++ digs 8 p.no) w0 wB w1 := hW
      unfold ptr at *
      go_simp
      refine (pw_put 24 hW HX2.out (by have := HD.out; (try simp only [List.length_append, digs_length]); omega)).mono ?_
      rintro e w5 ⟨rfl, hw5⟩
      exact hK w5 (fun _ _ _ => hw5.far _ _ _ (by decide) (by decide) HE.out) trivial hw5
    exact trivial
  case hF =>
    exact HE.out
  case hini =>
    exact ⟨fun x => hP.go (only_drewN _ 1), trivial⟩
  case pres =>
    intro i hi j hj hc x wx wy hF hE hW
    simp only [List.mem_cons, List.mem_nil_iff, or_false] at hi hj
    rcases hi with rfl | rfl | rfl <;> rcases hj with rfl | rfl | rfl | rfl
    all_goals (exfalso; revert hc; decide)
  case fin =>
    rintro x w9 hF hU
    obtain ⟨hQ, -⟩ := hU
    repeat apply Exists.intro
    exact ⟨rfl, rfl, hQ⟩

set_option maxRecDepth 100000 in
set_option maxHeartbeats 4000000 in
theorem puto4 (b B eb : Nat) (d : List Nat) (wB : World) (p : Od) (hp : p.Fit) (hd : d.length ≤ 100000000) (u0 u2 u3 u4 u6 u7 u8 u9 u10 u11 u12 u13 u14 u15 u16 u17 u18 u19 u20 u21 u22 u23 : Value) (Q : Exit → Act → World → Prop) (w0 : World) (hE : Is w0 eb 85 #[.int .u32 (p.ssrc : Nat), .int .u8 (p.no : Nat)]) (hP : Pw b B d w0 wB w0)
    (hend : ∀ (y13 y14 y15 y16 y17 y18 y19 y20 y21 y22 : Value) (w' : World), Pw b B (((d ++ digs 32 p.ssrc) ++ digs 8 p.no) ++ digs 24 0) w0 wB w' → Q .normal ⟨(List.toArray (u0 :: ptr b :: u2 :: u3 :: u4 :: .pointer (some ⟨eb, 0, none⟩) :: u6 :: u7 :: u8 :: u9 :: u10 :: u11 :: u12 :: y13 :: y14 :: y15 :: y16 :: y17 :: y18 :: y19 :: y20 :: y21 :: y22 :: u23 :: [])), []⟩ w') :
    Code.wp Try.prog puto4_code Q ⟨(List.toArray (u0 :: ptr b :: u2 :: u3 :: u4 :: .pointer (some ⟨eb, 0, none⟩) :: u6 :: u7 :: u8 :: u9 :: u10 :: u11 :: u12 :: u13 :: u14 :: u15 :: u16 :: u17 :: u18 :: u19 :: u20 :: u21 :: u22 :: u23 :: [])), []⟩ w0 := by
  refine wp_mono (puto4_in b B eb d wB p hp hd _ _ _ _ _ _ _ _ _ _ _ _ _ _ _ _ _ _ _ _ _ _ w0 hE hP) ?_
  rintro e a w' h
  obtain ⟨y13, h⟩ := h
  obtain ⟨y14, h⟩ := h
  obtain ⟨y15, h⟩ := h
  obtain ⟨y16, h⟩ := h
  obtain ⟨y17, h⟩ := h
  obtain ⟨y18, h⟩ := h
  obtain ⟨y19, h⟩ := h
  obtain ⟨y20, h⟩ := h
  obtain ⟨y21, h⟩ := h
  obtain ⟨y22, h⟩ := h
  obtain ⟨h, rfl, hq⟩ := h
  subst h
  exact hend y13 y14 y15 y16 y17 y18 y19 y20 y21 y22 w' hq
end Go.Proofs.Ytoibllmijkggnaa
