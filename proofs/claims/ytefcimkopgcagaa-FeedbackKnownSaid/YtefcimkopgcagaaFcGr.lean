/- Merged of FcF FcG FcH FcI FcJ FcK FcL. Conditions: as each says. -/
import Derived.Test.YtefcimkopgcagaaFbGr
import Derived.Test.YtefcimkopgcagaaFbN
import Derived.Test.YtefcimkopgcagaaBase
import Derived.Laws.IdiomStrings
/- What a message's parts put into a writer. Conditions: as each says. -/
set_option linter.unusedVariables false
namespace Go.Proofs.Ytefcimkopgcagaa
open Go.RowKit

/-- What is neither a writer nor bytes stays. -/
def FarW (w w1 : World) : Prop := ∀ ob t cs, t ≠ 123 → t ≠ 5 → Is w ob t cs → Is w1 ob t cs
theorem FarW.trans {w w1 w2 : World} (h : FarW w w1) (k : FarW w1 w2) : FarW w w2 := fun ob t cs h1 h2 hi => k ob t cs h1 h2 (h ob t cs h1 h2 hi)
theorem FarW.of {w w1 : World} (h : Only (fun _ => False) w w1) : FarW w w1 := fun ob t cs _ _ hi => hi.only h (by simp)
/-- A writer to which the digits d were put: its blocks are of B on; what lay below is as it was. -/
structure Pw (b B : Nat) (d : List Nat) (w0 wB wx : World) : Prop where
  wr : ∃ bs v, Wr wx b d bs v B
  far : FarW w0 wx
  old : Only (fun k => B ≤ k) wB wx
  size : B ≤ wx.heap.size
theorem Pw.go {b B : Nat} {d : List Nat} {w0 wB wx wy : World} (h : Pw b B d w0 wB wx) (ho : Only (fun _ => False) wx wy) : Pw b B d w0 wB wy := by
  obtain ⟨bs, v, hw⟩ := h.wr
  exact ⟨⟨bs, v, fw_wr hw ho⟩, h.far.trans (FarW.of ho), h.old.trans ho (fun _ _ e => e.elim), Nat.le_trans h.size ho.size⟩
theorem Pw.from_ {b B : Nat} {d : List Nat} {w0 w1 wB wx : World} (h : Pw b B d w1 wB wx) (hf : FarW w0 w1) : Pw b B d w0 wB wx := ⟨h.wr, hf.trans h.far, h.old, h.size⟩
theorem Pw.here {b B : Nat} {d : List Nat} {w0 wB wx : World} (h : Pw b B d w0 wB wx) : Pw b B d wx wB wx := ⟨h.wr, fun _ _ _ _ _ h => h, h.old, h.size⟩
theorem pw_put {b B x : Nat} {d : List Nat} {w0 wB w : World} (dg : Int) (h : Pw b B d w0 wB w) (hx : x < 18446744073709551616) (hs : d.length ≤ 1000000000) :
    Calls Try.prog 45 #[ptr b, .int .u64 x, .int .i64 dg] w fun e w' => e = .returned (ptr b) ∧ Pw b B (d ++ digs (clamp dg) x) w0 wB w' := by
  obtain ⟨bs, v, hw⟩ := h.wr
  refine (put_is b B x dg d bs v w hw h.size hx (by omega)).mono ?_
  rintro e w' ⟨rfl, bs', v', hw', -, ho⟩
  refine ⟨rfl, ⟨bs', v', hw'⟩, h.far.trans (fun ob t cs h1 h2 hi => fw_is hi hw h1 h2 ho), h.old.trans ho (fun i hi e => ?_), Nat.le_trans h.size ho.size⟩
  rcases e with rfl | e
  · exact hw.base
  · exact (hw.row.lt i e).1
def pairD (p : Pr) : List Nat := digs 16 p.pid ++ digs 16 p.blp
def orderD (p : Od) : List Nat := digs 32 p.ssrc ++ (digs 8 p.no ++ digs 24 0)
theorem pairsD_len : ∀ (l : List Pr), (l.flatMap pairD).length = 32 * l.length
  | [] => rfl
  | p :: l => by rw [List.flatMap_cons, List.length_append, pairsD_len l, List.length_cons]; unfold pairD; rw [List.length_append, digs_length, digs_length]; omega
theorem ordersD_len : ∀ (l : List Od), (l.flatMap orderD).length = 64 * l.length
  | [] => rfl
  | p :: l => by rw [List.flatMap_cons, List.length_append, ordersD_len l, List.length_cons]; unfold orderD; rw [List.length_append, List.length_append, digs_length, digs_length, digs_length]; omega
theorem srcsD_len : ∀ (l : List Nat), (l.flatMap (digs 32)).length = 32 * l.length
  | [] => rfl
  | p :: l => by rw [List.flatMap_cons, List.length_append, srcsD_len l, List.length_cons, digs_length]; omega
theorem flat_take {α : Type} (f : α → List Nat) (l : List α) (k : Nat) (p : α) (h : l[k]? = some p) : (l.take (k + 1)).flatMap f = (l.take k).flatMap f ++ f p := by
  rw [List.take_add_one, h]
  simp
def putp4_A : List (List Nat) := ([] :: [] :: [1] :: [2, 1] :: [0, 3, 2, 1] :: [] :: [5] :: [6, 5] :: (4 :: 7 :: 0 :: 3 :: 2 :: 1 :: 6 :: 5 :: []) :: [])
def putp4_kill : List (List Nat) := ([] :: [] :: [] :: [] :: [9] :: [] :: [] :: [] :: [9, 4] :: [])
def putp4_uses : List (List Nat) := ([] :: [] :: [] :: [] :: [9] :: [] :: [] :: [] :: [4] :: [])
noncomputable def putp4_code : Code := ((Try.f69.body.bind (codeRegion 4)).getD .skip)
set_option maxRecDepth 100000 in
set_option maxHeartbeats 4000000 in
theorem putp4_in (b B eb : Nat) (d : List Nat) (wB : World) (p : Pr) (hp : p.Fit) (hd : d.length ≤ 100000000) (u0 u2 u3 u4 u6 u7 u8 u9 u10 u11 u12 u13 u14 u15 u16 u17 u18 u19 u20 u21 u22 : Value) (w0 : World) (hE : Is w0 eb 82 #[.int .u16 (p.pid : Nat), .int .u16 (p.blp : Nat)]) (hP : Pw b B d w0 wB w0) :
    Code.wp Try.prog putp4_code (fun e a w' => ∃ y13 y14 y15 y16 y17 y18 y19 y20 y21 : Value, a = ⟨(List.toArray (u0 :: ptr b :: u2 :: u3 :: u4 :: .pointer (some ⟨eb, 0, none⟩) :: u6 :: u7 :: u8 :: u9 :: u10 :: u11 :: u12 :: y13 :: y14 :: y15 :: y16 :: y17 :: y18 :: y19 :: y20 :: y21 :: u22 :: [])), []⟩ ∧ e = .normal ∧ Pw b B ((d ++ digs 16 p.pid) ++ digs 16 p.blp) w0 wB w') ⟨(List.toArray (u0 :: ptr b :: u2 :: u3 :: u4 :: .pointer (some ⟨eb, 0, none⟩) :: u6 :: u7 :: u8 :: u9 :: u10 :: u11 :: u12 :: u13 :: u14 :: u15 :: u16 :: u17 :: u18 :: u19 :: u20 :: u21 :: u22 :: [])), []⟩ w0 := by
  conv => arg 2; whnf
  have HX0 := Lib.hid (show p.pid < 18446744073709551616 from by have := hp.1; omega)
  have HX1 := Lib.hid (show p.blp < 18446744073709551616 from by have := hp.2; omega)
  have zp : (p.pid : Int) < 65536 := by have := hp.1; omega
  have zb : (p.blp : Int) < 65536 := by have := hp.2; omega
  have zp0 : p.pid < 65536 := hp.1
  have zb0 : p.blp < 65536 := hp.2
  have wx0 : IntKind.u64.wrap (p.pid : Int) = (p.pid : Int) := by rw [IntKind.wrap_u64]; omega
  have wx1 : IntKind.u64.wrap (p.blp : Int) = (p.blp : Int) := by rw [IntKind.wrap_u64]; omega
  clear zp zb
  have HD := Lib.hid hd
  have HE := Lib.hid hE
  clear hE hd hp
  refine wp_region_posts putp4_A [4, 8] [4, 8, 9] putp4_kill putp4_uses [8] [] [] [9]
      (some ?v0 :: some ?v1 :: some ?v2 :: some ?v3 :: some (ptr b) :: some ?v5 :: some ?v6 :: some ?v7 :: some (ptr b) :: [])
      ?T (fun wx => Is wx eb 82 #[.int .u16 (p.pid : Nat), .int .u16 (p.blp : Nat)]) ?W ?E (by kernel_rfl) (by kernel_rfl) (by kernel_rfl) (fun x => ?hT) ?hF ?hini (Reg.all_ops ?runs) ?pres ?fin
  case W => exact fun j x w' => match j with | 4 => Pw b B (d ++ digs 16 p.pid) w0 wB w' | 8 => Pw b B ((d ++ digs 16 p.pid) ++ digs 16 p.blp) w0 wB w' | 9 => Pw b B d w0 wB w' | _ => True
  case E => exact fun i w' w'' => True
  case hT =>
    simp only [Reg.fillV, Act.put, List.setIfInBounds_toArray, List.set_cons_zero, List.set_cons_succ]
    rfl
  case runs =>
    refine And.intro ?_ ?_
    · refine Reg.ob_pure (fun _ => rfl) rfl rfl rfl rfl (fun x w1 hF => ?_)
      have c0 := hF.cell 0
      have c1 := hF.cell 1
      simp at c0 c1
      go_simp
      with_reducible rfl
    refine And.intro ?_ ?_
    · refine Reg.ob_pure (fun _ => rfl) rfl rfl rfl rfl (fun x w1 hF => ?_)
      have c0 := hF.cell 0
      have c1 := hF.cell 1
      simp at c0 c1
      go_simp
      with_reducible rfl
    refine And.intro ?_ ?_
    · refine Reg.ob_pure (fun _ => rfl) rfl rfl rfl rfl (fun x w1 hF => ?_)
      have c0 := hF.cell 0
      have c1 := hF.cell 1
      simp at c0 c1
      go_simp
      with_reducible rfl
    refine And.intro ?_ ?_
    · refine Reg.ob_pure (fun _ => rfl) rfl rfl rfl rfl (fun x w1 hF => ?_)
      have c0 := hF.cell 0
      have c1 := hF.cell 1
      simp at c0 c1
      go_simp
      with_reducible rfl
    refine And.intro ?_ ?_
    · refine Reg.ob_told (fun _ => rfl) rfl (fun x w1 hF hU K hK => ?_)
      replace hF := hF rfl
      obtain ⟨hW, -⟩ := hU
      have hW : Pw b B d w0 wB w1 := hW
      unfold ptr at *
      go_simp
      refine (pw_put 16 hW HX0.out (by have := HD.out; (try simp only [List.length_append, digs_length]); omega)).mono ?_
      rintro e w5 ⟨rfl, hw5⟩
      exact hK w5 (fun _ _ _ => hw5.far _ _ _ (by decide) (by decide) HE.out) trivial hw5
    refine And.intro ?_ ?_
    · refine Reg.ob_pure (fun _ => rfl) rfl rfl rfl rfl (fun x w1 hF => ?_)
      have c0 := hF.cell 0
      have c1 := hF.cell 1
      simp at c0 c1
      go_simp
      with_reducible rfl
    refine And.intro ?_ ?_
    · refine Reg.ob_pure (fun _ => rfl) rfl rfl rfl rfl (fun x w1 hF => ?_)
      have c0 := hF.cell 0
      have c1 := hF.cell 1
      simp at c0 c1
      go_simp
      with_reducible rfl
    refine And.intro ?_ ?_
    · refine Reg.ob_pure (fun _ => rfl) rfl rfl rfl rfl (fun x w1 hF => ?_)
      have c0 := hF.cell 0
      have c1 := hF.cell 1
      simp at c0 c1
      go_simp
      with_reducible rfl
    refine And.intro ?_ ?_
    · refine Reg.ob_told (fun _ => rfl) rfl (fun x w1 hF hU K hK => ?_)
      replace hF := hF rfl
      obtain ⟨hW, -⟩ := hU
      have hW : Pw b B (d ++ digs 16 p.pid) w0 wB w1 := hW
      unfold ptr at *
      go_simp
      refine (pw_put 16 hW HX1.out (by have := HD.out; (try simp only [List.length_append, digs_length]); omega)).mono ?_
      rintro e w5 ⟨rfl, hw5⟩
      exact hK w5 (fun _ _ _ => hw5.far _ _ _ (by decide) (by decide) HE.out) trivial hw5
    exact trivial
  case hF =>
    exact HE.out
  case hini =>
    exact ⟨fun x => hP.go (only_drewN _ 1), trivial⟩
  case pres =>
    intro i hi j hj hc x wx wy hF hE hW
    simp only [List.mem_cons, List.mem_nil_iff, or_false] at hi hj
    rcases hi with rfl | rfl <;> rcases hj with rfl | rfl | rfl
    all_goals (exfalso; revert hc; decide)
  case fin =>
    rintro x w9 hF hU
    obtain ⟨hQ, -⟩ := hU
    repeat apply Exists.intro
    exact ⟨rfl, rfl, hQ⟩

set_option maxRecDepth 100000 in
set_option maxHeartbeats 4000000 in
theorem putp4 (b B eb : Nat) (d : List Nat) (wB : World) (p : Pr) (hp : p.Fit) (hd : d.length ≤ 100000000) (u0 u2 u3 u4 u6 u7 u8 u9 u10 u11 u12 u13 u14 u15 u16 u17 u18 u19 u20 u21 u22 : Value) (Q : Exit → Act → World → Prop) (w0 : World) (hE : Is w0 eb 82 #[.int .u16 (p.pid : Nat), .int .u16 (p.blp : Nat)]) (hP : Pw b B d w0 wB w0)
    (hend : ∀ (y13 y14 y15 y16 y17 y18 y19 y20 y21 : Value) (w' : World), Pw b B ((d ++ digs 16 p.pid) ++ digs 16 p.blp) w0 wB w' → Q .normal ⟨(List.toArray (u0 :: ptr b :: u2 :: u3 :: u4 :: .pointer (some ⟨eb, 0, none⟩) :: u6 :: u7 :: u8 :: u9 :: u10 :: u11 :: u12 :: y13 :: y14 :: y15 :: y16 :: y17 :: y18 :: y19 :: y20 :: y21 :: u22 :: [])), []⟩ w') :
    Code.wp Try.prog putp4_code Q ⟨(List.toArray (u0 :: ptr b :: u2 :: u3 :: u4 :: .pointer (some ⟨eb, 0, none⟩) :: u6 :: u7 :: u8 :: u9 :: u10 :: u11 :: u12 :: u13 :: u14 :: u15 :: u16 :: u17 :: u18 :: u19 :: u20 :: u21 :: u22 :: [])), []⟩ w0 := by
  refine wp_mono (putp4_in b B eb d wB p hp hd _ _ _ _ _ _ _ _ _ _ _ _ _ _ _ _ _ _ _ _ _ w0 hE hP) ?_
  rintro e a w' h
  obtain ⟨y13, h⟩ := h
  obtain ⟨y14, h⟩ := h
  obtain ⟨y15, h⟩ := h
  obtain ⟨y16, h⟩ := h
  obtain ⟨y17, h⟩ := h
  obtain ⟨y18, h⟩ := h
  obtain ⟨y19, h⟩ := h
  obtain ⟨y20, h⟩ := h
  obtain ⟨y21, h⟩ := h
  obtain ⟨h, rfl, hq⟩ := h
  subst h
  exact hend y13 y14 y15 y16 y17 y18 y19 y20 y21 w' hq
def puto4_A : List (List Nat) := ([] :: [] :: [1] :: [2, 1] :: [0, 3, 2, 1] :: [] :: [5] :: [6, 5] :: (4 :: 7 :: 0 :: 3 :: 2 :: 1 :: 6 :: 5 :: []) :: (8 :: 4 :: 7 :: 0 :: 3 :: 2 :: 1 :: 6 :: 5 :: []) :: [])
def puto4_kill : List (List Nat) := ([] :: [] :: [] :: [] :: [10] :: [] :: [] :: [] :: [10, 4] :: [10, 4, 8] :: [])
def puto4_uses : List (List Nat) := ([] :: [] :: [] :: [] :: [10] :: [] :: [] :: [] :: [4] :: [8] :: [])
noncomputable def puto4_code : Code := ((Try.f73.body.bind (codeRegion 4)).getD .skip)
set_option maxRecDepth 100000 in
set_option maxHeartbeats 4000000 in
theorem puto4_in (b B eb : Nat) (d : List Nat) (wB : World) (p : Od) (hp : p.Fit) (hd : d.length ≤ 100000000) (u0 u2 u3 u4 u6 u7 u8 u9 u10 u11 u12 u13 u14 u15 u16 u17 u18 u19 u20 u21 u22 u23 : Value) (w0 : World) (hE : Is w0 eb 85 #[.int .u32 (p.ssrc : Nat), .int .u8 (p.no : Nat)]) (hP : Pw b B d w0 wB w0) :
    Code.wp Try.prog puto4_code (fun e a w' => ∃ y13 y14 y15 y16 y17 y18 y19 y20 y21 y22 : Value, a = ⟨(List.toArray (u0 :: ptr b :: u2 :: u3 :: u4 :: .pointer (some ⟨eb, 0, none⟩) :: u6 :: u7 :: u8 :: u9 :: u10 :: u11 :: u12 :: y13 :: y14 :: y15 :: y16 :: y17 :: y18 :: y19 :: y20 :: y21 :: y22 :: u23 :: [])), []⟩ ∧ e = .normal ∧ Pw b B (((d ++ digs 32 p.ssrc) ++ digs 8 p.no) ++ digs 24 0) w0 wB w') ⟨(List.toArray (u0 :: ptr b :: u2 :: u3 :: u4 :: .pointer (some ⟨eb, 0, none⟩) :: u6 :: u7 :: u8 :: u9 :: u10 :: u11 :: u12 :: u13 :: u14 :: u15 :: u16 :: u17 :: u18 :: u19 :: u20 :: u21 :: u22 :: u23 :: [])), []⟩ w0 := by
  conv => arg 2; whnf
  have HX0 := Lib.hid (show p.ssrc < 18446744073709551616 from by have := hp.1; omega)
  have HX1 := Lib.hid (show p.no < 18446744073709551616 from by have := hp.2; omega)
  have HX2 := Lib.hid (show 0 < 18446744073709551616 from by omega)
  have zp0 : p.ssrc < 4294967296 := hp.1
  have zb0 : p.no < 256 := hp.2
  have wx0 : IntKind.u64.wrap (p.ssrc : Int) = (p.ssrc : Int) := by rw [IntKind.wrap_u64]; omega
  have wx1 : IntKind.u64.wrap (p.no : Int) = (p.no : Int) := by rw [IntKind.wrap_u64]; omega
  have HD := Lib.hid hd
  have HE := Lib.hid hE
  clear hE hd hp
  refine wp_region_posts puto4_A [4, 8, 9] [4, 8, 9, 10] puto4_kill puto4_uses [9] [] [] [10]
      (some ?v0 :: some ?v1 :: some ?v2 :: some ?v3 :: some (ptr b) :: some ?v5 :: some ?v6 :: some ?v7 :: some (ptr b) :: some (ptr b) :: [])
      ?T (fun wx => Is wx eb 85 #[.int .u32 (p.ssrc : Nat), .int .u8 (p.no : Nat)]) ?W ?E (by kernel_rfl) (by kernel_rfl) (by kernel_rfl) (fun x => ?hT) ?hF ?hini (Reg.all_ops ?runs) ?pres ?fin
  case W => exact fun j x w' => match j with | 4 => Pw b B (d ++ digs 32 p.ssrc) w0 wB w' | 8 => Pw b B ((d ++ digs 32 p.ssrc) ++ digs 8 p.no) w0 wB w' | 9 => Pw b B (((d ++ digs 32 p.ssrc) ++ digs 8 p.no) ++ digs 24 0) w0 wB w' | 10 => Pw b B d w0 wB w' | _ => True
  case E => exact fun i w' w'' => True
  case hT =>
    simp only [Reg.fillV, Act.put, List.setIfInBounds_toArray, List.set_cons_zero, List.set_cons_succ]
    rfl
  case runs =>
    refine And.intro ?_ ?_
    · refine Reg.ob_pure (fun _ => rfl) rfl rfl rfl rfl (fun x w1 hF => ?_)
      have c0 := hF.cell 0
      have c1 := hF.cell 1
      simp at c0 c1
      go_simp
      with_reducible rfl
    refine And.intro ?_ ?_
    · refine Reg.ob_pure (fun _ => rfl) rfl rfl rfl rfl (fun x w1 hF => ?_)
      have c0 := hF.cell 0
      have c1 := hF.cell 1
      simp at c0 c1
      go_simp
      with_reducible rfl
    refine And.intro ?_ ?_
    · refine Reg.ob_pure (fun _ => rfl) rfl rfl rfl rfl (fun x w1 hF => ?_)
      have c0 := hF.cell 0
      have c1 := hF.cell 1
      simp at c0 c1
      go_simp
      with_reducible rfl
    refine And.intro ?_ ?_
    · refine Reg.ob_pure (fun _ => rfl) rfl rfl rfl rfl (fun x w1 hF => ?_)
      have c0 := hF.cell 0
      have c1 := hF.cell 1
      simp at c0 c1
      go_simp
      with_reducible rfl
    refine And.intro ?_ ?_
    · refine Reg.ob_told (fun _ => rfl) rfl (fun x w1 hF hU K hK => ?_)
      replace hF := hF rfl
      obtain ⟨hW, -⟩ := hU
      have hW : Pw b B d w0 wB w1 := hW
      unfold ptr at *
      go_simp
      refine (pw_put 32 hW HX0.out (by have := HD.out; (try simp only [List.length_append, digs_length]); omega)).mono ?_
      rintro e w5 ⟨rfl, hw5⟩
      exact hK w5 (fun _ _ _ => hw5.far _ _ _ (by decide) (by decide) HE.out) trivial hw5
    refine And.intro ?_ ?_
    · refine Reg.ob_pure (fun _ => rfl) rfl rfl rfl rfl (fun x w1 hF => ?_)
      have c0 := hF.cell 0
      have c1 := hF.cell 1
      simp at c0 c1
      go_simp
      with_reducible rfl
    refine And.intro ?_ ?_
    · refine Reg.ob_pure (fun _ => rfl) rfl rfl rfl rfl (fun x w1 hF => ?_)
      have c0 := hF.cell 0
      have c1 := hF.cell 1
      simp at c0 c1
      go_simp
      with_reducible rfl
    refine And.intro ?_ ?_
    · refine Reg.ob_pure (fun _ => rfl) rfl rfl rfl rfl (fun x w1 hF => ?_)
      have c0 := hF.cell 0
      have c1 := hF.cell 1
      simp at c0 c1
      go_simp
      with_reducible rfl
    refine And.intro ?_ ?_
    · refine Reg.ob_told (fun _ => rfl) rfl (fun x w1 hF hU K hK => ?_)
      replace hF := hF rfl
      obtain ⟨hW, -⟩ := hU
      have hW : Pw b B (d ++ digs 32 p.ssrc) w0 wB w1 := hW
      unfold ptr at *
      go_simp
      refine (pw_put 8 hW HX1.out (by have := HD.out; (try simp only [List.length_append, digs_length]); omega)).mono ?_
      rintro e w5 ⟨rfl, hw5⟩
      exact hK w5 (fun _ _ _ => hw5.far _ _ _ (by decide) (by decide) HE.out) trivial hw5
    refine And.intro ?_ ?_
    · refine Reg.ob_told (fun _ => rfl) rfl (fun x w1 hF hU K hK => ?_)
      replace hF := hF rfl
      obtain ⟨hW, -⟩ := hU
      have hW : Pw b B ((d ++ digs 32 p.ssrc) ++ digs 8 p.no) w0 wB w1 := hW
      unfold ptr at *
      go_simp
      refine (pw_put 24 hW HX2.out (by have := HD.out; (try simp only [List.length_append, digs_length]); omega)).mono ?_
      rintro e w5 ⟨rfl, hw5⟩
      exact hK w5 (fun _ _ _ => hw5.far _ _ _ (by decide) (by decide) HE.out) trivial hw5
    exact trivial
  case hF =>
    exact HE.out
  case hini =>
    exact ⟨fun x => hP.go (only_drewN _ 1), trivial⟩
  case pres =>
    intro i hi j hj hc x wx wy hF hE hW
    simp only [List.mem_cons, List.mem_nil_iff, or_false] at hi hj
    rcases hi with rfl | rfl | rfl <;> rcases hj with rfl | rfl | rfl | rfl
    all_goals (exfalso; revert hc; decide)
  case fin =>
    rintro x w9 hF hU
    obtain ⟨hQ, -⟩ := hU
    repeat apply Exists.intro
    exact ⟨rfl, rfl, hQ⟩

set_option maxRecDepth 100000 in
set_option maxHeartbeats 4000000 in
theorem puto4 (b B eb : Nat) (d : List Nat) (wB : World) (p : Od) (hp : p.Fit) (hd : d.length ≤ 100000000) (u0 u2 u3 u4 u6 u7 u8 u9 u10 u11 u12 u13 u14 u15 u16 u17 u18 u19 u20 u21 u22 u23 : Value) (Q : Exit → Act → World → Prop) (w0 : World) (hE : Is w0 eb 85 #[.int .u32 (p.ssrc : Nat), .int .u8 (p.no : Nat)]) (hP : Pw b B d w0 wB w0)
    (hend : ∀ (y13 y14 y15 y16 y17 y18 y19 y20 y21 y22 : Value) (w' : World), Pw b B (((d ++ digs 32 p.ssrc) ++ digs 8 p.no) ++ digs 24 0) w0 wB w' → Q .normal ⟨(List.toArray (u0 :: ptr b :: u2 :: u3 :: u4 :: .pointer (some ⟨eb, 0, none⟩) :: u6 :: u7 :: u8 :: u9 :: u10 :: u11 :: u12 :: y13 :: y14 :: y15 :: y16 :: y17 :: y18 :: y19 :: y20 :: y21 :: y22 :: u23 :: [])), []⟩ w') :
    Code.wp Try.prog puto4_code Q ⟨(List.toArray (u0 :: ptr b :: u2 :: u3 :: u4 :: .pointer (some ⟨eb, 0, none⟩) :: u6 :: u7 :: u8 :: u9 :: u10 :: u11 :: u12 :: u13 :: u14 :: u15 :: u16 :: u17 :: u18 :: u19 :: u20 :: u21 :: u22 :: u23 :: [])), []⟩ w0 := by
  refine wp_mono (puto4_in b B eb d wB p hp hd _ _ _ _ _ _ _ _ _ _ _ _ _ _ _ _ _ _ _ _ _ _ w0 hE hP) ?_
  rintro e a w' h
  obtain ⟨y13, h⟩ := h
  obtain ⟨y14, h⟩ := h
  obtain ⟨y15, h⟩ := h
  obtain ⟨y16, h⟩ := h
  obtain ⟨y17, h⟩ := h
  obtain ⟨y18, h⟩ := h
  obtain ⟨y19, h⟩ := h
  obtain ⟨y20, h⟩ := h
  obtain ⟨y21, h⟩ := h
  obtain ⟨y22, h⟩ := h
  obtain ⟨h, rfl, hq⟩ := h
  subst h
  exact hend y13 y14 y15 y16 y17 y18 y19 y20 y21 y22 w' hq
end Go.Proofs.Ytefcimkopgcagaa

/- What putPairs, putOrders, putRate put. Conditions: as each says. -/
set_option linter.unusedVariables false
namespace Go.Proofs.Ytefcimkopgcagaa
open Go.RowKit

def putr1_A : List (List Nat) := ([] :: [] :: [1] :: [2, 1] :: [3, 2, 1] :: [0, 4, 3, 2, 1] :: [] :: [6] :: [7, 6] :: (5 :: 8 :: 0 :: 4 :: 3 :: 2 :: 1 :: 7 :: 6 :: []) :: [] :: [10] :: [11, 10] :: (9 :: 12 :: 5 :: 8 :: 0 :: 4 :: 3 :: 2 :: 1 :: 7 :: 6 :: 11 :: 10 :: []) :: [])
def putr1_kill : List (List Nat) := ([] :: [] :: [] :: [] :: [] :: [14] :: [] :: [] :: [] :: [14, 5] :: [] :: [] :: [] :: [14, 5, 9] :: [])
def putr1_uses : List (List Nat) := ([] :: [] :: [] :: [] :: [] :: [14] :: [] :: [] :: [] :: [5] :: [] :: [] :: [] :: [9] :: [])
noncomputable def putr1_code : Code := ((Try.f75.body.bind (codeRegion 1)).getD .skip)
set_option maxRecDepth 100000 in
set_option maxHeartbeats 4000000 in
theorem putr1_in (b B mb : Nat) (d : List Nat) (wB : World) (m : Ms) (p1 o1 : Value) (S1 : Option Addr) (f1 : Nat) (hx : m.exp < 256 ∧ m.mant < 4294967296 ∧ m.srcs.length ≤ 100000) (hd : d.length ≤ 100000000) (u0 u3 u4 u5 u6 u7 u8 u9 u10 u11 u12 u13 u14 u15 u16 u17 u18 u19 u20 u21 u22 u23 u24 u25 u26 u27 u28 u29 u30 u31 : Value) (w0 : World) (hE : Is w0 mb 27 (m.cls p1 o1 (.slice S1 m.srcs.length f1))) (hP : Pw b B d w0 wB w0) :
    Code.wp Try.prog putr1_code (fun e a w' => ∃ y6 y7 y8 y9 y10 y11 y12 y13 y14 y15 y16 y17 y18 y19 : Value, a = ⟨(List.toArray (u0 :: ptr b :: .pointer (some ⟨mb, 0, none⟩) :: u3 :: u4 :: u5 :: y6 :: y7 :: y8 :: y9 :: y10 :: y11 :: y12 :: y13 :: y14 :: y15 :: y16 :: y17 :: y18 :: y19 :: u20 :: u21 :: u22 :: u23 :: u24 :: u25 :: u26 :: u27 :: u28 :: u29 :: u30 :: u31 :: [])), []⟩ ∧ e = .normal ∧ Pw b B (((d ++ digs 8 m.srcs.length) ++ digs 6 m.exp) ++ digs 18 m.mant) w0 wB w') ⟨(List.toArray (u0 :: ptr b :: .pointer (some ⟨mb, 0, none⟩) :: u3 :: u4 :: u5 :: u6 :: u7 :: u8 :: u9 :: u10 :: u11 :: u12 :: u13 :: u14 :: u15 :: u16 :: u17 :: u18 :: u19 :: u20 :: u21 :: u22 :: u23 :: u24 :: u25 :: u26 :: u27 :: u28 :: u29 :: u30 :: u31 :: [])), []⟩ w0 := by
  conv => arg 2; whnf
  have HX0 := Lib.hid (show m.srcs.length < 18446744073709551616 from by have := hx.2.2; omega)
  have HX1 := Lib.hid (show m.exp < 18446744073709551616 from by have := hx.1; omega)
  have HX2 := Lib.hid (show m.mant < 18446744073709551616 from by have := hx.2.1; omega)
  have z0 : m.exp < 256 := hx.1
  have z1 : m.mant < 4294967296 := hx.2.1
  have z2 : m.srcs.length ≤ 100000 := hx.2.2
  have wx0 : IntKind.u64.wrap (m.srcs.length : Int) = (m.srcs.length : Int) := by rw [IntKind.wrap_u64]; omega
  have wx1 : IntKind.u64.wrap (m.exp : Int) = (m.exp : Int) := by rw [IntKind.wrap_u64]; omega
  have wx2 : IntKind.u64.wrap (m.mant : Int) = (m.mant : Int) := by rw [IntKind.wrap_u64]; omega
  have HD := Lib.hid hd
  have HE := Lib.hid hE
  clear hE hd hx
  refine wp_region_posts putr1_A [5, 9, 13] [5, 9, 13, 14] putr1_kill putr1_uses [13] [] [] [14]
      (some ?v0 :: some ?v1 :: some ?v2 :: some ?v3 :: some ?v4 :: some (ptr b) :: some ?v6 :: some ?v7 :: some ?v8 :: some (ptr b) :: some ?v10 :: some ?v11 :: some ?v12 :: some (ptr b) :: [])
      ?T (fun wx => Is wx mb 27 (m.cls p1 o1 (.slice S1 m.srcs.length f1))) ?W ?E (by kernel_rfl) (by kernel_rfl) (by kernel_rfl) (fun x => ?hT) ?hF ?hini (Reg.all_ops ?runs) ?pres ?fin
  case W => exact fun j x w' => match j with | 5 => Pw b B (d ++ digs 8 m.srcs.length) w0 wB w' | 9 => Pw b B ((d ++ digs 8 m.srcs.length) ++ digs 6 m.exp) w0 wB w' | 13 => Pw b B (((d ++ digs 8 m.srcs.length) ++ digs 6 m.exp) ++ digs 18 m.mant) w0 wB w' | 14 => Pw b B d w0 wB w' | _ => True
  case E => exact fun i w' w'' => True
  case hT =>
    simp only [Reg.fillV, Act.put, List.setIfInBounds_toArray, List.set_cons_zero, List.set_cons_succ]
    rfl
  case runs =>
    refine And.intro ?_ ?_
    · refine Reg.ob_pure (fun _ => rfl) rfl rfl rfl rfl (fun x w1 hF => ?_)
      obtain ⟨m0, m1, m2, m3, m4, m5, m6, m7⟩ := cls_cells hF
      go_simp
      with_reducible rfl
    refine And.intro ?_ ?_
    · refine Reg.ob_pure (fun _ => rfl) rfl rfl rfl rfl (fun x w1 hF => ?_)
      obtain ⟨m0, m1, m2, m3, m4, m5, m6, m7⟩ := cls_cells hF
      go_simp
      with_reducible rfl
    refine And.intro ?_ ?_
    · refine Reg.ob_pure (fun _ => rfl) rfl rfl rfl rfl (fun x w1 hF => ?_)
      obtain ⟨m0, m1, m2, m3, m4, m5, m6, m7⟩ := cls_cells hF
      go_simp
      with_reducible rfl
    refine And.intro ?_ ?_
    · refine Reg.ob_pure (fun _ => rfl) rfl rfl rfl rfl (fun x w1 hF => ?_)
      obtain ⟨m0, m1, m2, m3, m4, m5, m6, m7⟩ := cls_cells hF
      go_simp
      with_reducible rfl
    refine And.intro ?_ ?_
    · refine Reg.ob_pure (fun _ => rfl) rfl rfl rfl rfl (fun x w1 hF => ?_)
      obtain ⟨m0, m1, m2, m3, m4, m5, m6, m7⟩ := cls_cells hF
      go_simp
      with_reducible rfl
    refine And.intro ?_ ?_
    · refine Reg.ob_told (fun _ => rfl) rfl (fun x w1 hF hU K hK => ?_)
      replace hF := hF rfl
      obtain ⟨hW, -⟩ := hU
      have hW : Pw b B d w0 wB w1 := hW
      unfold ptr at *
      go_simp
      refine (pw_put 8 hW HX0.out (by have := HD.out; (try simp only [List.length_append, digs_length]); omega)).mono ?_
      rintro e w5 ⟨rfl, hw5⟩
      exact hK w5 (fun _ _ _ => hw5.far _ _ _ (by decide) (by decide) HE.out) trivial hw5
    refine And.intro ?_ ?_
    · refine Reg.ob_pure (fun _ => rfl) rfl rfl rfl rfl (fun x w1 hF => ?_)
      obtain ⟨m0, m1, m2, m3, m4, m5, m6, m7⟩ := cls_cells hF
      go_simp
      with_reducible rfl
    refine And.intro ?_ ?_
    · refine Reg.ob_pure (fun _ => rfl) rfl rfl rfl rfl (fun x w1 hF => ?_)
      obtain ⟨m0, m1, m2, m3, m4, m5, m6, m7⟩ := cls_cells hF
      go_simp
      with_reducible rfl
    refine And.intro ?_ ?_
    · refine Reg.ob_pure (fun _ => rfl) rfl rfl rfl rfl (fun x w1 hF => ?_)
      obtain ⟨m0, m1, m2, m3, m4, m5, m6, m7⟩ := cls_cells hF
      go_simp
      with_reducible rfl
    refine And.intro ?_ ?_
    · refine Reg.ob_told (fun _ => rfl) rfl (fun x w1 hF hU K hK => ?_)
      replace hF := hF rfl
      obtain ⟨hW, -⟩ := hU
      have hW : Pw b B (d ++ digs 8 m.srcs.length) w0 wB w1 := hW
      unfold ptr at *
      go_simp
      refine (pw_put 6 hW HX1.out (by have := HD.out; (try simp only [List.length_append, digs_length]); omega)).mono ?_
      rintro e w5 ⟨rfl, hw5⟩
      exact hK w5 (fun _ _ _ => hw5.far _ _ _ (by decide) (by decide) HE.out) trivial hw5
    refine And.intro ?_ ?_
    · refine Reg.ob_pure (fun _ => rfl) rfl rfl rfl rfl (fun x w1 hF => ?_)
      obtain ⟨m0, m1, m2, m3, m4, m5, m6, m7⟩ := cls_cells hF
      go_simp
      with_reducible rfl
    refine And.intro ?_ ?_
    · refine Reg.ob_pure (fun _ => rfl) rfl rfl rfl rfl (fun x w1 hF => ?_)
      obtain ⟨m0, m1, m2, m3, m4, m5, m6, m7⟩ := cls_cells hF
      go_simp
      with_reducible rfl
    refine And.intro ?_ ?_
    · refine Reg.ob_pure (fun _ => rfl) rfl rfl rfl rfl (fun x w1 hF => ?_)
      obtain ⟨m0, m1, m2, m3, m4, m5, m6, m7⟩ := cls_cells hF
      go_simp
      with_reducible rfl
    refine And.intro ?_ ?_
    · refine Reg.ob_told (fun _ => rfl) rfl (fun x w1 hF hU K hK => ?_)
      replace hF := hF rfl
      obtain ⟨hW, -⟩ := hU
      have hW : Pw b B ((d ++ digs 8 m.srcs.length) ++ digs 6 m.exp) w0 wB w1 := hW
      unfold ptr at *
      go_simp
      refine (pw_put 18 hW HX2.out (by have := HD.out; (try simp only [List.length_append, digs_length]); omega)).mono ?_
      rintro e w5 ⟨rfl, hw5⟩
      exact hK w5 (fun _ _ _ => hw5.far _ _ _ (by decide) (by decide) HE.out) trivial hw5
    exact trivial
  case hF =>
    exact HE.out
  case hini =>
    exact ⟨fun x => hP.go (only_drewN _ 1), trivial⟩
  case pres =>
    intro i hi j hj hc x wx wy hF hE hW
    simp only [List.mem_cons, List.mem_nil_iff, or_false] at hi hj
    rcases hi with rfl | rfl | rfl <;> rcases hj with rfl | rfl | rfl | rfl
    all_goals (exfalso; revert hc; decide)
  case fin =>
    rintro x w9 hF hU
    obtain ⟨hQ, -⟩ := hU
    repeat apply Exists.intro
    exact ⟨rfl, rfl, hQ⟩

set_option maxRecDepth 100000 in
set_option maxHeartbeats 4000000 in
theorem putr1 (b B mb : Nat) (d : List Nat) (wB : World) (m : Ms) (p1 o1 : Value) (S1 : Option Addr) (f1 : Nat) (hx : m.exp < 256 ∧ m.mant < 4294967296 ∧ m.srcs.length ≤ 100000) (hd : d.length ≤ 100000000) (u0 u3 u4 u5 u6 u7 u8 u9 u10 u11 u12 u13 u14 u15 u16 u17 u18 u19 u20 u21 u22 u23 u24 u25 u26 u27 u28 u29 u30 u31 : Value) (Q : Exit → Act → World → Prop) (w0 : World) (hE : Is w0 mb 27 (m.cls p1 o1 (.slice S1 m.srcs.length f1))) (hP : Pw b B d w0 wB w0)
    (hend : ∀ (y6 y7 y8 y9 y10 y11 y12 y13 y14 y15 y16 y17 y18 y19 : Value) (w' : World), Pw b B (((d ++ digs 8 m.srcs.length) ++ digs 6 m.exp) ++ digs 18 m.mant) w0 wB w' → Q .normal ⟨(List.toArray (u0 :: ptr b :: .pointer (some ⟨mb, 0, none⟩) :: u3 :: u4 :: u5 :: y6 :: y7 :: y8 :: y9 :: y10 :: y11 :: y12 :: y13 :: y14 :: y15 :: y16 :: y17 :: y18 :: y19 :: u20 :: u21 :: u22 :: u23 :: u24 :: u25 :: u26 :: u27 :: u28 :: u29 :: u30 :: u31 :: [])), []⟩ w') :
    Code.wp Try.prog putr1_code Q ⟨(List.toArray (u0 :: ptr b :: .pointer (some ⟨mb, 0, none⟩) :: u3 :: u4 :: u5 :: u6 :: u7 :: u8 :: u9 :: u10 :: u11 :: u12 :: u13 :: u14 :: u15 :: u16 :: u17 :: u18 :: u19 :: u20 :: u21 :: u22 :: u23 :: u24 :: u25 :: u26 :: u27 :: u28 :: u29 :: u30 :: u31 :: [])), []⟩ w0 := by
  refine wp_mono (putr1_in b B mb d wB m p1 o1 S1 f1 hx hd _ _ _ _ _ _ _ _ _ _ _ _ _ _ _ _ _ _ _ _ _ _ _ _ _ _ _ _ _ _ w0 hE hP) ?_
  rintro e a w' h
  obtain ⟨y6, h⟩ := h
  obtain ⟨y7, h⟩ := h
  obtain ⟨y8, h⟩ := h
  obtain ⟨y9, h⟩ := h
  obtain ⟨y10, h⟩ := h
  obtain ⟨y11, h⟩ := h
  obtain ⟨y12, h⟩ := h
  obtain ⟨y13, h⟩ := h
  obtain ⟨y14, h⟩ := h
  obtain ⟨y15, h⟩ := h
  obtain ⟨y16, h⟩ := h
  obtain ⟨y17, h⟩ := h
  obtain ⟨y18, h⟩ := h
  obtain ⟨y19, h⟩ := h
  obtain ⟨h, rfl, hq⟩ := h
  subst h
  exact hend y6 y7 y8 y9 y10 y11 y12 y13 y14 y15 y16 y17 y18 y19 w' hq

set_option maxRecDepth 100000 in
set_option maxHeartbeats 4000000 in
theorem putpairs_is (m : Ms) (p1 o1 s1 : Value) (b B : Nat) (d : List Nat) (wB w : World) (hP : Pw b B d w wB w) (hr : RdP wB p1 m.pairs) (hBw : wB.heap.size ≤ B) (hf : ∀ p ∈ m.pairs, p.Fit) (hl : m.pairs.length ≤ 100000) (hd : d.length ≤ 1000) :
    Calls Try.prog 69 #[.agg (m.cls p1 o1 s1), ptr b] w fun e w' => e = .returned (.tuple #[]) ∧ Pw b B (d ++ m.pairs.flatMap pairD) w wB w' := by
  obtain ⟨A1, c1, ha, hc, hh⟩ := hr
  have HHH := Lib.hid hh
  have HFF := Lib.hid hf
  have HP := Lib.hid hP
  obtain ⟨L, hL⟩ : ∃ n, m.pairs.length = n := ⟨_, rfl⟩
  have HL := Lib.hid hL
  have HAA := Lib.hid ha
  have HD := Lib.hid hd
  rw [hL] at hl hc
  obtain ⟨A, hA⟩ : ∃ a, m.cls p1 o1 s1 = a := ⟨_, rfl⟩
  have HA := Lib.hid hA
  rw [hA]
  clear hh hf hP hL hA ha hd
  go_enter Try.func69, Try.ntmps69
  go_upto_region 1 with (fail)
  generalize hw1 : World.alloc _ _ = w1
  have I1 := Lib.hid (show Is w1 w.heap.size 27 (m.cls p1 o1 s1) from by rw [← hw1, HA.out]; exact Is.made _ _ _)
  have P1 := Lib.hid (show Pw b B d w wB w1 from by rw [← hw1]; exact HP.out.go ((Only.refl _ _).alloc _))
  clear hw1
  obtain ⟨m0, m1, m2, m3, m4, m5, m6, m7⟩ := cls_cells I1.out
  rw [HAA.out, HL.out] at m3
  go_wp2
  go_loopw [9] (fun i wx => ∃ k : Nat, k ≤ L ∧ i = .int .i64 k ∧ Pw b B (d ++ (m.pairs.take k).flatMap pairD) w wB wx) (fun i _ => L - (intOf i).toNat)
  case atStart => exact ⟨0, by omega, rfl, by simpa using P1.out⟩
  case round =>
    obtain ⟨k, hk, rfl, hPk⟩ := hrel
    have PK := Lib.hid hPk
    clear hPk P1 m0 m1 m2 m3 m4 m5 m6 m7
    by_cases hlt : k < L
    · have zk : (k : Int) < (L : Int) := by omega
      have hko : k < m.pairs.length := by rw [HL.out]; exact hlt
      obtain ⟨q, o, rfl, hcc⟩ := HHH.out (by omega)
      obtain ⟨p, hp⟩ : ∃ p, m.pairs[k]? = some p := ⟨_, List.getElem?_eq_getElem hko⟩
      have hcp := hcc k p hp
      have hq : q < wB.heap.size := World.block_lt_of_cell? wB _ hcp.1
      have d0 := (PK.out.old.cell (p := ⟨q, o + k * 2, none⟩) hq (by show ¬ B ≤ q; omega)).trans hcp.1
      have d1 := (PK.out.old.cell (p := ⟨q, o + k * 2 + 1, none⟩) hq (by show ¬ B ≤ q; omega)).trans hcp.2
      have hpf := HFF.out p (List.mem_of_getElem? hp)
      have HSN := Lib.hid (flat_take pairD m.pairs k p hp)
      have HFL := Lib.hid (show (d ++ (m.pairs.take k).flatMap pairD).length ≤ 100000000 from by rw [List.length_append, pairsD_len, List.length_take]; have := HD.out; omega)
      have HPF := Lib.hid hpf
      clear hcp hcc hp hpf hko
      go_upto_region 4 with (fail)
      obtain ⟨eb, heb⟩ : ∃ g, wr.heap.size = g := ⟨_, rfl⟩
      generalize hw2 : World.alloc wr _ = w2
      have E2 := Lib.hid (show Is w2 eb 82 #[.int .u16 (p.pid : Nat), .int .u16 (p.blp : Nat)] from by rw [← hw2, ← heb]; exact Is.made _ _ _)
      have P2 := Lib.hid (show Pw b B (d ++ (m.pairs.take k).flatMap pairD) w wB w2 from by rw [← hw2]; exact PK.out.go ((Only.refl _ _).alloc _))
      rw [heb]
      clear hw2 heb d0 d1
      refine putp4 b B eb _ wB p HPF.out HFL.out _ _ _ _ _ _ _ _ _ _ _ _ _ _ _ _ _ _ _ _ _ _ w2 E2.out P2.out.here ?_
      rintro y13 y14 y15 y16 y17 y18 y19 y20 y21 w3 hP3
      have P3 := Lib.hid (show Pw b B (d ++ (m.pairs.take (k + 1)).flatMap pairD) w wB w3 from by rw [HSN.out]; have h := hP3.from_ P2.out.far; simpa only [pairD, List.append_assoc] using h)
      clear hP3
      go_wp2
      exact ⟨⟨k + 1, by omega, by go_num, P3.out⟩, by simp [intOf]; omega⟩
    · obtain rfl : k = L := by omega
      have hp := PK.out
      rw [List.take_of_length_le (by rw [HL.out]; exact Nat.le_refl _)] at hp
      have HPE := Lib.hid hp
      clear hp
      go_wp2
      go_end0
      exact ⟨rfl, HPE.out⟩

set_option maxRecDepth 100000 in
set_option maxHeartbeats 4000000 in
theorem putorders_is (m : Ms) (p1 o1 s1 : Value) (b B : Nat) (d : List Nat) (wB w : World) (hP : Pw b B d w wB w) (hr : RdO wB o1 m.orders) (hBw : wB.heap.size ≤ B) (hf : ∀ p ∈ m.orders, p.Fit) (hl : m.orders.length ≤ 100000) (hd : d.length ≤ 1000) :
    Calls Try.prog 73 #[.agg (m.cls p1 o1 s1), ptr b] w fun e w' => e = .returned (.tuple #[]) ∧ Pw b B (d ++ m.orders.flatMap orderD) w wB w' := by
  obtain ⟨A1, c1, ha, hc, hh⟩ := hr
  have HHH := Lib.hid hh
  have HFF := Lib.hid hf
  have HP := Lib.hid hP
  obtain ⟨L, hL⟩ : ∃ n, m.orders.length = n := ⟨_, rfl⟩
  have HL := Lib.hid hL
  have HAA := Lib.hid ha
  have HD := Lib.hid hd
  rw [hL] at hl hc
  obtain ⟨A, hA⟩ : ∃ a, m.cls p1 o1 s1 = a := ⟨_, rfl⟩
  have HA := Lib.hid hA
  rw [hA]
  clear hh hf hP hL hA ha hd
  go_enter Try.func73, Try.ntmps73
  go_upto_region 1 with (fail)
  generalize hw1 : World.alloc _ _ = w1
  have I1 := Lib.hid (show Is w1 w.heap.size 27 (m.cls p1 o1 s1) from by rw [← hw1, HA.out]; exact Is.made _ _ _)
  have P1 := Lib.hid (show Pw b B d w wB w1 from by rw [← hw1]; exact HP.out.go ((Only.refl _ _).alloc _))
  clear hw1
  obtain ⟨m0, m1, m2, m3, m4, m5, m6, m7⟩ := cls_cells I1.out
  rw [HAA.out, HL.out] at m4
  go_wp2
  go_loopw [9] (fun i wx => ∃ k : Nat, k ≤ L ∧ i = .int .i64 k ∧ Pw b B (d ++ (m.orders.take k).flatMap orderD) w wB wx) (fun i _ => L - (intOf i).toNat)
  case atStart => exact ⟨0, by omega, rfl, by simpa using P1.out⟩
  case round =>
    obtain ⟨k, hk, rfl, hPk⟩ := hrel
    have PK := Lib.hid hPk
    clear hPk P1 m0 m1 m2 m3 m4 m5 m6 m7
    by_cases hlt : k < L
    · have zk : (k : Int) < (L : Int) := by omega
      have hko : k < m.orders.length := by rw [HL.out]; exact hlt
      obtain ⟨q, o, rfl, hcc⟩ := HHH.out (by omega)
      obtain ⟨p, hp⟩ : ∃ p, m.orders[k]? = some p := ⟨_, List.getElem?_eq_getElem hko⟩
      have hcp := hcc k p hp
      have hq : q < wB.heap.size := World.block_lt_of_cell? wB _ hcp.1
      have d0 := (PK.out.old.cell (p := ⟨q, o + k * 2, none⟩) hq (by show ¬ B ≤ q; omega)).trans hcp.1
      have d1 := (PK.out.old.cell (p := ⟨q, o + k * 2 + 1, none⟩) hq (by show ¬ B ≤ q; omega)).trans hcp.2
      have hpf := HFF.out p (List.mem_of_getElem? hp)
      have HSN := Lib.hid (flat_take orderD m.orders k p hp)
      have HFL := Lib.hid (show (d ++ (m.orders.take k).flatMap orderD).length ≤ 100000000 from by rw [List.length_append, ordersD_len, List.length_take]; have := HD.out; omega)
      have HPF := Lib.hid hpf
      clear hcp hcc hp hpf hko
      go_upto_region 4 with (fail)
      obtain ⟨eb, heb⟩ : ∃ g, wr.heap.size = g := ⟨_, rfl⟩
      generalize hw2 : World.alloc wr _ = w2
      have E2 := Lib.hid (show Is w2 eb 85 #[.int .u32 (p.ssrc : Nat), .int .u8 (p.no : Nat)] from by rw [← hw2, ← heb]; exact Is.made _ _ _)
      have P2 := Lib.hid (show Pw b B (d ++ (m.orders.take k).flatMap orderD) w wB w2 from by rw [← hw2]; exact PK.out.go ((Only.refl _ _).alloc _))
      rw [heb]
      clear hw2 heb d0 d1
      refine puto4 b B eb _ wB p HPF.out HFL.out _ _ _ _ _ _ _ _ _ _ _ _ _ _ _ _ _ _ _ _ _ _ _ w2 E2.out P2.out.here ?_
      rintro y13 y14 y15 y16 y17 y18 y19 y20 y21 y22 w3 hP3
      have P3 := Lib.hid (show Pw b B (d ++ (m.orders.take (k + 1)).flatMap orderD) w wB w3 from by rw [HSN.out]; have h := hP3.from_ P2.out.far; simpa only [orderD, List.append_assoc] using h)
      clear hP3
      go_wp2
      exact ⟨⟨k + 1, by omega, by go_num, P3.out⟩, by simp [intOf]; omega⟩
    · obtain rfl : k = L := by omega
      have hp := PK.out
      rw [List.take_of_length_le (by rw [HL.out]; exact Nat.le_refl _)] at hp
      have HPE := Lib.hid hp
      clear hp
      go_wp2
      go_end0
      exact ⟨rfl, HPE.out⟩
end Go.Proofs.Ytefcimkopgcagaa

/- What putRate puts. Conditions: as it says. -/
set_option linter.unusedVariables false
namespace Go.Proofs.Ytefcimkopgcagaa
open Go.RowKit

def rateD (m : Ms) : List Nat := digs 8 m.srcs.length ++ (digs 6 m.exp ++ (digs 18 m.mant ++ m.srcs.flatMap (digs 32)))
set_option maxRecDepth 100000 in
set_option maxHeartbeats 4000000 in
theorem putrate_is (m : Ms) (p1 o1 s1 : Value) (b B : Nat) (d : List Nat) (wB w : World) (hP : Pw b B d w wB w) (hr : Rd .u32 wB s1 (nats m.srcs)) (hBw : wB.heap.size ≤ B) (hf : ∀ x ∈ m.srcs, x < 4294967296) (hx : m.exp < 256 ∧ m.mant < 4294967296) (hl : m.srcs.length ≤ 100000) (hd : d.length ≤ 1000) :
    Calls Try.prog 75 #[.agg (m.cls p1 o1 s1), ptr b] w fun e w' => e = .returned (.tuple #[]) ∧ Pw b B (d ++ rateD m) w wB w' := by
  obtain ⟨A1, c1, ha, hc, hh⟩ := hr
  rw [nats_length] at ha hc
  have HHH := Lib.hid hh
  have HFF := Lib.hid hf
  have HP := Lib.hid hP
  have HXX := Lib.hid hx
  have HLL := Lib.hid hl
  have HAA := Lib.hid ha
  have HD := Lib.hid hd
  obtain ⟨A, hA⟩ : ∃ a, m.cls p1 o1 s1 = a := ⟨_, rfl⟩
  have HA := Lib.hid hA
  rw [hA]
  clear hh hf hP hA ha hd hx
  go_enter Try.func75, Try.ntmps75
  go_upto_region 1 with (fail)
  obtain ⟨mb, hmb⟩ : ∃ g, w.heap.size = g := ⟨_, rfl⟩
  generalize hw1 : World.alloc _ _ = w1
  have I1 := Lib.hid (show Is w1 mb 27 (m.cls p1 o1 (.slice A1 m.srcs.length c1)) from by rw [← hw1, ← HAA.out, HA.out, ← hmb]; exact Is.made _ _ _)
  have P1 := Lib.hid (show Pw b B d w wB w1 from by rw [← hw1]; exact HP.out.go ((Only.refl _ _).alloc _))
  rw [hmb]
  clear hw1 hmb
  refine putr1 b B mb d wB m p1 o1 A1 c1 ⟨HXX.out.1, HXX.out.2, HLL.out⟩ (by have := HD.out; omega) _ _ _ _ _ _ _ _ _ _ _ _ _ _ _ _ _ _ _ _ _ _ _ _ _ _ _ _ _ _ _ w1 I1.out P1.out.here ?_
  rintro y6 y7 y8 y9 y10 y11 y12 y13 y14 y15 y16 y17 y18 y19 w2 hP2
  have I2 := Lib.hid (hP2.far _ _ _ (by decide) (by decide) I1.out)
  have P2 := Lib.hid (hP2.from_ P1.out.far)
  clear hP2
  obtain ⟨L, hL⟩ : ∃ n, m.srcs.length = n := ⟨_, rfl⟩
  have HL := Lib.hid hL
  rw [hL] at hl hc
  obtain ⟨m0, m1, m2, m3, m4, m5, m6, m7⟩ := cls_cells I2.out
  rw [hL] at m7
  clear hL
  go_wp2
  go_loopw [23] (fun i wx => ∃ k : Nat, k ≤ L ∧ i = .int .i64 k ∧ Pw b B ((((d ++ digs 8 m.srcs.length) ++ digs 6 m.exp) ++ digs 18 m.mant) ++ (m.srcs.take k).flatMap (digs 32)) w wB wx) (fun i _ => L - (intOf i).toNat)
  case atStart => exact ⟨0, by omega, rfl, by simpa using P2.out⟩
  case round =>
    obtain ⟨k, hk, rfl, hPk⟩ := hrel
    have PK := Lib.hid hPk
    clear hPk P1 m0 m1 m2 m3 m4 m5 m6 m7
    by_cases hlt : k < L
    · have zk : (k : Int) < (L : Int) := by omega
      have hko : k < m.srcs.length := by rw [HL.out]; exact hlt
      obtain ⟨q, o, rfl, hcc⟩ := HHH.out (by rw [nats_length]; omega)
      obtain ⟨p, hp⟩ : ∃ p, m.srcs[k]? = some p := ⟨_, List.getElem?_eq_getElem hko⟩
      have hcp := hcc k (by rw [nats_length]; exact hko)
      rw [show (nats m.srcs)[k]'(by rw [nats_length]; exact hko) = (p : Int) by simp [nats]; exact_mod_cast (List.getElem?_eq_some_iff.1 hp).2] at hcp
      have hq : q < wB.heap.size := World.block_lt_of_cell? wB _ hcp
      have d0 := (PK.out.old.cell (p := ⟨q, o + k, none⟩) hq (by show ¬ B ≤ q; omega)).trans hcp
      have hpf := HFF.out p (List.mem_of_getElem? hp)
      have HSN := Lib.hid (flat_take (digs 32) m.srcs k p hp)
      have HFL := Lib.hid (show ((((d ++ digs 8 m.srcs.length) ++ digs 6 m.exp) ++ digs 18 m.mant) ++ (m.srcs.take k).flatMap (digs 32)).length ≤ 1000000000 from by simp only [List.length_append, digs_length, srcsD_len, List.length_take]; have := HD.out; omega)
      have HPF := Lib.hid hpf
      have wx : IntKind.u64.wrap (p : Int) = (p : Int) := by rw [IntKind.wrap_u64]; omega
      clear hcp hcc hp hko
      go_wp2_with fail
      refine (pw_put 32 PK.out (by have := HPF.out; omega) HFL.out).mono ?_
      rintro e w3 ⟨rfl, hP3⟩
      have P3 := Lib.hid (show Pw b B ((((d ++ digs 8 m.srcs.length) ++ digs 6 m.exp) ++ digs 18 m.mant) ++ (m.srcs.take (k + 1)).flatMap (digs 32)) w wB w3 from by rw [HSN.out, ← List.append_assoc]; exact hP3)
      clear hP3
      go_wp2
      exact ⟨⟨k + 1, by omega, by go_num, P3.out⟩, by simp [intOf]; omega⟩
    · obtain rfl : k = L := by omega
      have hp := PK.out
      rw [List.take_of_length_le (by rw [HL.out]; exact Nat.le_refl _)] at hp
      have HPE := Lib.hid (show Pw b B (d ++ rateD m) w wB wr from by unfold rateD; simpa only [List.append_assoc] using hp)
      clear hp
      go_wp2
      go_end0
      exact ⟨rfl, HPE.out⟩
end Go.Proofs.Ytefcimkopgcagaa

/- feedback.Put's head: sender, media source, and the sort's name. Conditions: as each says. -/
set_option linter.unusedVariables false
namespace Go.Proofs.Ytefcimkopgcagaa
open Go.RowKit

/-- Bytes that a conversion laid (a mark stands behind them) stay. -/
def FarB (w w1 : World) : Prop := ∀ (ob : Nat) (cs : Array Value) (fr : Nat × Nat), fr ≠ (0, 0) → w.heap[ob]? = some (.cells cs 5 fr) → w1.heap[ob]? = some (.cells cs 5 fr)
theorem FarB.of {w w1 : World} (h : Only (fun _ => False) w w1) : FarB w w1 := fun ob cs fr _ hi => (h.same ob (lt_of_heap hi) (by simp)).trans hi
theorem FarB.mine {w w1 : World} {b B : Nat} {d bs : List Nat} {v : Value} (hw : Wr w b d bs v B) (ho : Only (Mine b v) w w1) : FarB w w1 := fun ob cs fr hne hi => by
  refine (ho.same ob (lt_of_heap hi) (fun e => ?_)).trans hi
  rcases e with rfl | e
  · have h := hw.is
    unfold Is at h
    rw [hi] at h
    simp only [Option.some.injEq, Obj.cells.injEq] at h
    exact hne h.2.2
  · rcases hw.row.2 with ⟨rfl, _⟩ | ⟨g, cap, cur, rfl, _, q2, _⟩
    · simp [Value.ownBlock] at e
    · have : g = ob := by simpa [Value.ownBlock] using e
      subst this
      rw [hi] at q2
      simp only [Option.some.injEq, Obj.cells.injEq] at q2
      exact hne q2.2.2
def FarX (w w1 : World) : Prop := FarB w w1 ∧ FarW w w1
theorem FarX.of {w w1 : World} (h : Only (fun _ => False) w w1) : FarX w w1 := ⟨FarB.of h, FarW.of h⟩
theorem Pw.mine {b B : Nat} {d d' bs bs' : List Nat} {v v' : Value} {w0 wB w w' : World} (h : Pw b B d w0 wB w) (hw : Wr w b d bs v B) (hw' : Wr w' b d' bs' v' B) (ho : Only (Mine b v) w w') : Pw b B d' w0 wB w' ∧ FarX w w' := by
  have hf : FarW w w' := fun ob t cs h1 h2 hi => fw_is hi hw h1 h2 ho
  refine ⟨⟨⟨bs', v', hw'⟩, h.far.trans hf, h.old.trans ho (fun i hi e => ?_), Nat.le_trans h.size ho.size⟩, FarB.mine hw ho, hf⟩
  rcases e with rfl | e
  · exact hw.base
  · exact (hw.row.lt i e).1
theorem pw_put2 {b B x : Nat} {d : List Nat} {w0 wB w : World} (dg : Int) (h : Pw b B d w0 wB w) (hx : x < 18446744073709551616) (hs : d.length ≤ 1000000000) :
    Calls Try.prog 45 #[ptr b, .int .u64 x, .int .i64 dg] w fun e w' => e = .returned (ptr b) ∧ Pw b B (d ++ digs (clamp dg) x) w0 wB w' ∧ FarX w w' := by
  obtain ⟨bs, v, hw⟩ := h.wr
  refine (put_is b B x dg d bs v w hw h.size hx (by omega)).mono ?_
  rintro e w' ⟨rfl, bs', v', hw', -, ho⟩
  exact ⟨rfl, h.mine hw hw' ho⟩
/-- Bytes of a string, as a row. -/
def nameB (s : ByteArray) : List Nat := s.data.toList.map UInt8.toNat
theorem nameB_len (s : ByteArray) : (nameB s).length = s.size := by simp [nameB]
theorem nameB_lt (s : ByteArray) : ∀ x ∈ nameB s, x < 256 := by
  intro x hx
  obtain ⟨y, _, rfl⟩ := List.mem_map.1 hx
  exact y.toNat_lt
/-- A row that a conversion laid. -/
def Laid (w : World) (g n c : Nat) (s : ByteArray) : Prop := ∃ (cs : Array Value) (fr : Nat × Nat), fr ≠ (0, 0) ∧ w.heap[g]? = some (.cells cs 5 fr) ∧ n = s.size ∧ n ≤ c ∧ ∀ j (h : j < s.data.size), cs[j]? = some (.int .u8 (s.data[j].toNat : Int))
theorem Laid.far {w w1 : World} {g n c : Nat} {s : ByteArray} (h : Laid w g n c s) (hf : FarB w w1) : Laid w1 g n c s := by
  obtain ⟨cs, fr, h1, h2, h3⟩ := h
  exact ⟨cs, fr, h1, hf g cs fr h1 h2, h3⟩
theorem Laid.src {w : World} {g n c : Nat} {s : ByteArray} (h : Laid w g n c s) : Src w (.slice (some ⟨g, 0, none⟩) n c) (nameB s) := by
  obtain ⟨cs, fr, h1, h2, rfl, h4, h5⟩ := h
  refine .inr ⟨_, c, by rw [nameB_len], by rw [nameB_len]; exact h4, fun j u hu => ?_⟩
  have hj : j < (nameB s).length := by have := (List.getElem?_eq_some_iff.1 hu).1; rwa [length_cellsOf] at this
  rw [cellsOf_get _ j hj] at hu
  injection hu with hu
  subst hu
  have hj' : j < s.data.size := by rw [nameB_len] at hj; exact hj
  rw [add_plain, cell_of_row w g (0 + j) cs 5 fr h2, Nat.zero_add, h5 j hj']
  simp [nameB]
theorem laid_new (w : World) (s : ByteArray) (c : Nat) (hc : s.size ≤ c) : Laid (w.drew.alloc (.cells (bytesRow s c) 5 ((bytesRow s c).size, (bytesRow s c).size + 1))) w.heap.size s.size c s :=
  ⟨_, _, (fun e => Nat.succ_ne_zero _ (Prod.mk.inj e).2), by show (w.drew.alloc _).heap[w.drew.heap.size]? = _; exact heap_alloc_new w.drew _, rfl, hc, fun j hj => bytesRow_at s c j hj⟩
theorem grown_ge (w : World) (n : Nat) (e : TypeId) : n ≤ grownCap w n 0 e := by
  unfold grownCap
  exact Nat.le_add_right _ _
def headD (a b : Nat) (s : ByteArray) : List Nat := (digs 32 a ++ digs 32 b) ++ D (nameB s)
def putm4_A : List (List Nat) := ([] :: [] :: [1] :: [2, 1] :: [0, 3, 2, 1] :: [] :: [5] :: [6, 5] :: (4 :: 7 :: 0 :: 3 :: 2 :: 1 :: 6 :: 5 :: []) :: [] :: [9] :: [10, 9] :: [11, 10, 9] :: (8 :: 12 :: 4 :: 7 :: 0 :: 3 :: 2 :: 1 :: 6 :: 5 :: 11 :: 10 :: 9 :: []) :: (13 :: 0 :: 1 :: 2 :: 3 :: 4 :: 5 :: 6 :: 7 :: 8 :: 9 :: 10 :: 11 :: 12 :: []) :: [])
def putm4_kill : List (List Nat) := ([] :: [] :: [] :: [] :: [0] :: [] :: [] :: [] :: [0, 4] :: [] :: [] :: [] :: [] :: [0, 4, 8, 11, 12] :: [] :: [])
def putm4_uses : List (List Nat) := ([] :: [] :: [] :: [] :: [0] :: [] :: [] :: [] :: [4] :: [] :: [] :: [] :: [11] :: [8, 12] :: [13] :: [])
noncomputable def putm4_code : Code := ((Try.f12.body.bind (codeRegion 4)).getD .skip)
set_option maxRecDepth 100000 in
set_option maxHeartbeats 4000000 in
theorem putm4_in (m : Ms) (p1 o1 s1 : Value) (mb sb s : Nat) (nm : ByteArray) (hm : m.sender < 4294967296 ∧ m.media < 4294967296) (hnm : nm.size ≤ 100) (hs2 : (srtV s)[2]? = some (.string nm)) (u0 u2 u3 u5 u6 u7 u8 u9 u10 u11 u12 u13 u14 u15 u16 u17 u18 u19 u20 u21 u22 u23 u24 u25 u26 u27 u28 u29 u30 u31 u32 u33 u34 u35 u36 u37 u38 u39 u40 u41 u42 : Value) (w0 : World) (hE : Is w0 mb 27 (m.cls p1 o1 s1)) (hS : Is w0 sb 93 (srtV s)) :
    Code.wp Try.prog putm4_code (fun e a w' => ∃ y6 y17 y18 y19 y20 y21 y22 y23 y24 y25 y26 y27 y28 y29 y30 : Value, a = ⟨(List.toArray (u0 :: .pointer (some ⟨mb, 0, none⟩) :: u2 :: u3 :: .pointer (some ⟨sb, 0, none⟩) :: u5 :: y6 :: u7 :: u8 :: u9 :: u10 :: u11 :: u12 :: u13 :: u14 :: u15 :: u16 :: y17 :: y18 :: y19 :: y20 :: y21 :: y22 :: y23 :: y24 :: y25 :: y26 :: y27 :: y28 :: y29 :: y30 :: u31 :: u32 :: u33 :: u34 :: u35 :: u36 :: u37 :: u38 :: u39 :: u40 :: u41 :: u42 :: [])), []⟩ ∧ e = .normal ∧ (∃ k, y6 = ptr k ∧ Pw k w0.heap.size (headD m.sender m.media nm) w0 w0 w')) ⟨(List.toArray (u0 :: .pointer (some ⟨mb, 0, none⟩) :: u2 :: u3 :: .pointer (some ⟨sb, 0, none⟩) :: u5 :: u6 :: u7 :: u8 :: u9 :: u10 :: u11 :: u12 :: u13 :: u14 :: u15 :: u16 :: u17 :: u18 :: u19 :: u20 :: u21 :: u22 :: u23 :: u24 :: u25 :: u26 :: u27 :: u28 :: u29 :: u30 :: u31 :: u32 :: u33 :: u34 :: u35 :: u36 :: u37 :: u38 :: u39 :: u40 :: u41 :: u42 :: [])), []⟩ w0 := by
  conv => arg 2; whnf
  have HA := Lib.hid (show m.sender < 18446744073709551616 ∧ m.media < 18446744073709551616 from by omega)
  have HN := Lib.hid hnm
  have HS2 := Lib.hid hs2
  have wx0 : IntKind.u64.wrap (m.sender : Int) = (m.sender : Int) := by rw [IntKind.wrap_u64]; omega
  have wx1 : IntKind.u64.wrap (m.media : Int) = (m.media : Int) := by rw [IntKind.wrap_u64]; omega
  clear hs2 hnm
  refine wp_region_posts putm4_A [0, 4, 8, 11, 12, 13] [0, 4, 8, 11, 12, 13, 14] putm4_kill putm4_uses [14] [] [] []
      (none :: some ?v1 :: some ?v2 :: some ?v3 :: none :: some ?v5 :: some ?v6 :: some ?v7 :: none :: some ?v9 :: some ?v10 :: none :: none :: none :: none :: [])
      ?T (fun wx => Is wx mb 27 (m.cls p1 o1 s1) ∧ Is wx sb 93 (srtV s) ∧ FarW w0 wx ∧ Only (fun k => w0.heap.size ≤ k) w0 wx) ?W ?E (by kernel_rfl) (by kernel_rfl) (by kernel_rfl) (fun x => ?hT) ?hF ?hini (Reg.all_ops ?runs) ?pres ?fin
  case W => exact fun j x w' => match j with | 0 => ∃ k, x 0 = ptr k ∧ Pw k w0.heap.size [] w0 w0 w' | 4 => ∃ k, x 4 = ptr k ∧ Pw k w0.heap.size (digs 32 m.sender) w0 w0 w' | 8 => ∃ k, x 8 = ptr k ∧ Pw k w0.heap.size (digs 32 m.sender ++ digs 32 m.media) w0 w0 w' | 11 => ∃ g n c, x 11 = .slice (some ⟨g, 0, none⟩) n c ∧ Laid w' g n c nm | 12 => ∃ lb g n c, x 12 = .slice (some ⟨lb, 0, none⟩) 1 1 ∧ Is w' lb 35 #[.slice (some ⟨g, 0, none⟩) n c] ∧ Laid w' g n c nm | 13 => ∃ k, x 13 = ptr k ∧ Pw k w0.heap.size (headD m.sender m.media nm) w0 w0 w' | 14 => ∃ k, x 14 = ptr k ∧ Pw k w0.heap.size (headD m.sender m.media nm) w0 w0 w' | _ => True
  case E => exact fun i w' w'' => match i with | 4 => FarX w' w'' | 8 => FarX w' w'' | 13 => FarX w' w'' | _ => Only (fun _ => False) w' w''
  case hT =>
    simp only [Reg.fillV, Act.put, List.setIfInBounds_toArray, List.set_cons_zero, List.set_cons_succ]
    rfl
  case runs =>
    refine And.intro ?_ ?_
    · refine Reg.ob_some (fun _ => rfl) rfl (fun x w1 hF hU K hK => ?_)
      obtain ⟨h1, h2, h4, h3⟩ := hF rfl
      go_simp
      refine (new_is w1).mono ?_
      rintro e w5 ⟨rfl, hw5⟩
      have ho : Only (fun _ => False) w1 w5 := by rw [← hw5]; exact (Only.refl _ _).alloc _
      exact hK _ w5 (fun _ _ _ => ⟨h1.only ho (by simp), h2.only ho (by simp), h4.trans (FarW.of ho), h3.trans ho (fun _ _ e => e.elim)⟩) ho ⟨_, rfl, ⟨_, _, by rw [← hw5]; exact wr_new w1 w0.heap.size h3.size⟩, h4.trans (FarW.of ho), h3.trans ho (fun _ _ e => e.elim), Nat.le_trans h3.size ho.size⟩
    refine And.intro ?_ ?_
    · refine Reg.ob_pure (fun _ => rfl) rfl rfl rfl rfl (fun x w1 hF => ?_)
      obtain ⟨h1, h2, -, -⟩ := hF
      obtain ⟨m0, m1, m2, m3, m4, m5, m6, m7⟩ := cls_cells h1
      have s2 := (h2.cell 2).trans HS2.out
      go_simp
      with_reducible rfl
    refine And.intro ?_ ?_
    · refine Reg.ob_pure (fun _ => rfl) rfl rfl rfl rfl (fun x w1 hF => ?_)
      obtain ⟨h1, h2, -, -⟩ := hF
      obtain ⟨m0, m1, m2, m3, m4, m5, m6, m7⟩ := cls_cells h1
      have s2 := (h2.cell 2).trans HS2.out
      go_simp
      with_reducible rfl
    refine And.intro ?_ ?_
    · refine Reg.ob_pure (fun _ => rfl) rfl rfl rfl rfl (fun x w1 hF => ?_)
      obtain ⟨h1, h2, -, -⟩ := hF
      obtain ⟨m0, m1, m2, m3, m4, m5, m6, m7⟩ := cls_cells h1
      have s2 := (h2.cell 2).trans HS2.out
      go_simp
      with_reducible rfl
    refine And.intro ?_ ?_
    · refine Reg.ob_some (fun _ => rfl) rfl (fun x w1 hF hU K hK => ?_)
      obtain ⟨h1, h2, h4, h3⟩ := hF rfl
      obtain ⟨⟨k, h0, hP⟩, -⟩ := hU
      have h0 : x 0 = ptr k := h0
      revert hK
      simp only [Nat.reduceAdd, h0]
      intro hK
      unfold ptr at *
      go_simp
      refine (pw_put2 32 hP HA.out.1 (by simp)).mono ?_
      rintro e w5 ⟨rfl, hp, hX⟩
      exact hK _ w5 (fun _ _ _ => ⟨(hX.2 _ _ _ (by decide) (by decide) h1), (hX.2 _ _ _ (by decide) (by decide) h2), hp.far, hp.old⟩) hX ⟨k, rfl, hp⟩
    refine And.intro ?_ ?_
    · refine Reg.ob_pure (fun _ => rfl) rfl rfl rfl rfl (fun x w1 hF => ?_)
      obtain ⟨h1, h2, -, -⟩ := hF
      obtain ⟨m0, m1, m2, m3, m4, m5, m6, m7⟩ := cls_cells h1
      have s2 := (h2.cell 2).trans HS2.out
      go_simp
      with_reducible rfl
    refine And.intro ?_ ?_
    · refine Reg.ob_pure (fun _ => rfl) rfl rfl rfl rfl (fun x w1 hF => ?_)
      obtain ⟨h1, h2, -, -⟩ := hF
      obtain ⟨m0, m1, m2, m3, m4, m5, m6, m7⟩ := cls_cells h1
      have s2 := (h2.cell 2).trans HS2.out
      go_simp
      with_reducible rfl
    refine And.intro ?_ ?_
    · refine Reg.ob_pure (fun _ => rfl) rfl rfl rfl rfl (fun x w1 hF => ?_)
      obtain ⟨h1, h2, -, -⟩ := hF
      obtain ⟨m0, m1, m2, m3, m4, m5, m6, m7⟩ := cls_cells h1
      have s2 := (h2.cell 2).trans HS2.out
      go_simp
      with_reducible rfl
    refine And.intro ?_ ?_
    · refine Reg.ob_some (fun _ => rfl) rfl (fun x w1 hF hU K hK => ?_)
      obtain ⟨h1, h2, h4, h3⟩ := hF rfl
      obtain ⟨⟨k, h0, hP⟩, -⟩ := hU
      have h0 : x 4 = ptr k := h0
      revert hK
      simp only [Nat.reduceAdd, h0]
      intro hK
      unfold ptr at *
      go_simp
      refine (pw_put2 32 hP HA.out.2 (by simp only [digs_length]; omega)).mono ?_
      rintro e w5 ⟨rfl, hp, hX⟩
      exact hK _ w5 (fun _ _ _ => ⟨(hX.2 _ _ _ (by decide) (by decide) h1), (hX.2 _ _ _ (by decide) (by decide) h2), hp.far, hp.old⟩) hX ⟨k, rfl, hp⟩
    refine And.intro ?_ ?_
    · refine Reg.ob_pure (fun _ => rfl) rfl rfl rfl rfl (fun x w1 hF => ?_)
      obtain ⟨h1, h2, -, -⟩ := hF
      obtain ⟨m0, m1, m2, m3, m4, m5, m6, m7⟩ := cls_cells h1
      have s2 := (h2.cell 2).trans HS2.out
      go_simp
      with_reducible rfl
    refine And.intro ?_ ?_
    · refine Reg.ob_pure (fun _ => rfl) rfl rfl rfl rfl (fun x w1 hF => ?_)
      obtain ⟨h1, h2, -, -⟩ := hF
      obtain ⟨m0, m1, m2, m3, m4, m5, m6, m7⟩ := cls_cells h1
      have s2 := (h2.cell 2).trans HS2.out
      go_simp
      with_reducible rfl
    refine And.intro ?_ ?_
    · refine Reg.ob_some (fun _ => rfl) rfl (fun x w1 hF hU K hK => ?_)
      obtain ⟨h1, h2, h4, h3⟩ := hF rfl
      go_simp
      rw [run_bytes_of_string w1 9 35 5 nm Try.underlying9 Try.underlying35 Try.underlying5]
      simp only [Result.andThen_ok, Oper.upon]
      have ho : Only (fun _ => False) w1 (w1.drew.alloc (.cells (bytesRow nm (grownCap w1 nm.size 0 5)) 5 ((bytesRow nm (grownCap w1 nm.size 0 5)).size, (bytesRow nm (grownCap w1 nm.size 0 5)).size + 1))) := (only_drewN w1 1).alloc _
      exact hK _ _ (fun _ _ _ => ⟨h1.only ho (by simp), h2.only ho (by simp), h4.trans (FarW.of ho), h3.trans ho (fun _ _ e => e.elim)⟩) ho ⟨_, _, _, rfl, laid_new w1 nm _ (grown_ge _ _ _)⟩
    refine And.intro ?_ ?_
    · refine Reg.ob_some (fun _ => rfl) rfl (fun x w1 hF hU K hK => ?_)
      obtain ⟨h1, h2, h4, h3⟩ := hF rfl
      obtain ⟨⟨g, n, c, h11, hL⟩, -⟩ := hU
      have h11 : x 11 = .slice (some ⟨g, 0, none⟩) n c := h11
      revert hK
      simp only [Nat.reduceAdd, h11]
      intro hK
      go_simp
      have ho : Only (fun _ => False) w1 (w1.alloc (.cells #[.slice (some ⟨g, 0, none⟩) n c] 35)) := (Only.refl _ _).alloc _
      exact hK _ _ (fun _ _ _ => ⟨h1.only ho (by simp), h2.only ho (by simp), h4.trans (FarW.of ho), h3.trans ho (fun _ _ e => e.elim)⟩) ho ⟨_, g, n, c, rfl, Is.made _ _ _, hL.far (FarB.of ho)⟩
    refine And.intro ?_ ?_
    · refine Reg.ob_some (fun _ => rfl) rfl (fun x w1 hF hU K hK => ?_)
      obtain ⟨h1, h2, h4, h3⟩ := hF rfl
      obtain ⟨⟨k, h0, hP⟩, ⟨lb, g, n, c, h12, hl, hL⟩, -⟩ := hU
      have h0 : x 8 = ptr k := h0
      have h12 : x 12 = .slice (some ⟨lb, 0, none⟩) 1 1 := h12
      revert hK
      simp only [Nat.reduceAdd, h0, h12]
      intro hK
      unfold ptr at *
      go_simp
      obtain ⟨bs, v, hw⟩ := hP.wr
      refine (wbytes_one k w0.heap.size lb 1 _ bs (nameB nm) v _ w1 hw (by simp [digs_length]) hP.size (hl.cell 0) hL.src (nameB_lt nm) (by simp [digs_length]) (by rw [nameB_len]; have := HN.out; omega)).mono ?_
      rintro e w5 ⟨rfl, bs', v', hw', ho⟩
      obtain ⟨hp, hX⟩ := hP.mine hw hw' ho
      exact hK _ w5 (fun _ _ _ => ⟨(hX.2 _ _ _ (by decide) (by decide) h1), (hX.2 _ _ _ (by decide) (by decide) h2), hp.far, hp.old⟩) hX ⟨k, rfl, hp⟩
    refine And.intro ?_ ?_
    · refine Reg.ob_some (fun _ => rfl) rfl (fun x w1 hF hU K hK => ?_)
      obtain ⟨⟨k, h0, hP⟩, -⟩ := hU
      have h0 : x 13 = ptr k := h0
      revert hK
      simp only [Nat.reduceAdd, h0]
      intro hK
      go_simp
      exact hK _ _ (fun h => by cases h) rfl ⟨k, rfl, hP⟩
    exact trivial
  case hF =>
    exact ⟨hE.only (only_drewN _ 1) (by simp), hS.only (only_drewN _ 1) (by simp), FarW.of (only_drewN _ 1), (only_drewN _ 1).mono (fun _ _ e => e.elim)⟩
  case hini =>
    exact trivial
  case pres =>
    intro i hi j hj hc x wx wy hF hE hW
    simp only [List.mem_cons, List.mem_nil_iff, or_false] at hi hj
    rcases hi with rfl | rfl | rfl | rfl | rfl | rfl <;> rcases hj with rfl | rfl | rfl | rfl | rfl | rfl | rfl
    all_goals first | (exfalso; revert hc; decide) | skip
    all_goals first
      | (have hX : FarX wx wy := hE; obtain ⟨g, n, c, h1, h2⟩ := hW; exact ⟨g, n, c, h1, h2.far hX.1⟩)
      | (have hX : FarX wx wy := hE; obtain ⟨lb, g, n, c, h1, h2, h3⟩ := hW; exact ⟨lb, g, n, c, h1, hX.2 _ _ _ (by decide) (by decide) h2, h3.far hX.1⟩)
      | (have hX : FarX wx wy := FarX.of hE; obtain ⟨g, n, c, h1, h2⟩ := hW; exact ⟨g, n, c, h1, h2.far hX.1⟩)
      | (have hX : FarX wx wy := FarX.of hE; obtain ⟨lb, g, n, c, h1, h2, h3⟩ := hW; exact ⟨lb, g, n, c, h1, hX.2 _ _ _ (by decide) (by decide) h2, h3.far hX.1⟩)
      | (have hX : Only (fun _ => False) wx wy := hE; obtain ⟨k, h1, h2⟩ := hW; exact ⟨k, h1, h2.go hX⟩)
  case fin =>
    rintro x w9 hF hU
    obtain ⟨⟨k, h14, hP⟩, -⟩ := hU
    have h14 : x 14 = ptr k := h14
    repeat apply Exists.intro
    refine ⟨rfl, rfl, ?_⟩
    exact ⟨k, h14, hP⟩

set_option maxRecDepth 100000 in
set_option maxHeartbeats 4000000 in
theorem putm4 (m : Ms) (p1 o1 s1 : Value) (mb sb s : Nat) (nm : ByteArray) (hm : m.sender < 4294967296 ∧ m.media < 4294967296) (hnm : nm.size ≤ 100) (hs2 : (srtV s)[2]? = some (.string nm)) (u0 u2 u3 u5 u6 u7 u8 u9 u10 u11 u12 u13 u14 u15 u16 u17 u18 u19 u20 u21 u22 u23 u24 u25 u26 u27 u28 u29 u30 u31 u32 u33 u34 u35 u36 u37 u38 u39 u40 u41 u42 : Value) (Q : Exit → Act → World → Prop) (w0 : World) (hE : Is w0 mb 27 (m.cls p1 o1 s1)) (hS : Is w0 sb 93 (srtV s))
    (hend : ∀ (y6 y17 y18 y19 y20 y21 y22 y23 y24 y25 y26 y27 y28 y29 y30 : Value) (w' : World), (∃ k, y6 = ptr k ∧ Pw k w0.heap.size (headD m.sender m.media nm) w0 w0 w') → Q .normal ⟨(List.toArray (u0 :: .pointer (some ⟨mb, 0, none⟩) :: u2 :: u3 :: .pointer (some ⟨sb, 0, none⟩) :: u5 :: y6 :: u7 :: u8 :: u9 :: u10 :: u11 :: u12 :: u13 :: u14 :: u15 :: u16 :: y17 :: y18 :: y19 :: y20 :: y21 :: y22 :: y23 :: y24 :: y25 :: y26 :: y27 :: y28 :: y29 :: y30 :: u31 :: u32 :: u33 :: u34 :: u35 :: u36 :: u37 :: u38 :: u39 :: u40 :: u41 :: u42 :: [])), []⟩ w') :
    Code.wp Try.prog putm4_code Q ⟨(List.toArray (u0 :: .pointer (some ⟨mb, 0, none⟩) :: u2 :: u3 :: .pointer (some ⟨sb, 0, none⟩) :: u5 :: u6 :: u7 :: u8 :: u9 :: u10 :: u11 :: u12 :: u13 :: u14 :: u15 :: u16 :: u17 :: u18 :: u19 :: u20 :: u21 :: u22 :: u23 :: u24 :: u25 :: u26 :: u27 :: u28 :: u29 :: u30 :: u31 :: u32 :: u33 :: u34 :: u35 :: u36 :: u37 :: u38 :: u39 :: u40 :: u41 :: u42 :: [])), []⟩ w0 := by
  refine wp_mono (putm4_in m p1 o1 s1 mb sb s nm hm hnm hs2 _ _ _ _ _ _ _ _ _ _ _ _ _ _ _ _ _ _ _ _ _ _ _ _ _ _ _ _ _ _ _ _ _ _ _ _ _ _ _ _ _ w0 hE hS) ?_
  rintro e a w' h
  obtain ⟨y6, h⟩ := h
  obtain ⟨y17, h⟩ := h
  obtain ⟨y18, h⟩ := h
  obtain ⟨y19, h⟩ := h
  obtain ⟨y20, h⟩ := h
  obtain ⟨y21, h⟩ := h
  obtain ⟨y22, h⟩ := h
  obtain ⟨y23, h⟩ := h
  obtain ⟨y24, h⟩ := h
  obtain ⟨y25, h⟩ := h
  obtain ⟨y26, h⟩ := h
  obtain ⟨y27, h⟩ := h
  obtain ⟨y28, h⟩ := h
  obtain ⟨y29, h⟩ := h
  obtain ⟨y30, h⟩ := h
  obtain ⟨h, rfl, hq⟩ := h
  subst h
  exact hend y6 y17 y18 y19 y20 y21 y22 y23 y24 y25 y26 y27 y28 y29 y30 w' hq
end Go.Proofs.Ytefcimkopgcagaa

/- feedback.Put of any message. Conditions: as each says. -/
set_option linter.unusedVariables false
namespace Go.Proofs.Ytefcimkopgcagaa
open Go.RowKit

def pktC (ct kd : Nat) (v : Value) : Array Value := #[.int .u8 (ct : Nat), .int .u8 (kd : Nat), v, .int .u8 0]
def putm6_A : List (List Nat) := ([] :: [0] :: [] :: [2] :: [] :: [4] :: [1, 3, 5, 0, 2, 4] :: [6, 5, 0, 1, 2, 3, 4] :: (7 :: 0 :: 1 :: 2 :: 3 :: 4 :: 5 :: 6 :: []) :: [])
def putm6_kill : List (List Nat) := ([] :: [] :: [] :: [] :: [] :: [] :: [] :: [5, 6] :: [] :: [])
def putm6_uses : List (List Nat) := ([] :: [] :: [] :: [] :: [] :: [] :: [5] :: [6] :: [] :: [])
noncomputable def putm6_code : Code := ((Try.f12.body.bind (codeRegion 6)).getD .skip)
set_option maxRecDepth 100000 in
set_option maxHeartbeats 4000000 in
theorem putm6_in (sb rb k B s ct kd : Nat) (d bs : List Nat) (v : Value) (hc0 : (srtV s)[0]? = some (.int .u8 (kd : Nat))) (hc1 : (srtV s)[1]? = some (.int .u8 (ct : Nat))) (hd : d.length ≤ 10000000) (u0 u1 u3 u5 u7 u8 u9 u10 u11 u12 u13 u14 u15 u16 u17 u18 u19 u20 u21 u22 u23 u24 u25 u26 u27 u28 u29 u30 u31 u32 u33 u34 u35 u36 u37 u38 u39 u40 u41 u42 : Value) (w0 : World) (hS : Is w0 sb 93 (srtV s)) (hR : Is w0 rb 41 pktZ) (hW : Wr w0 k d bs v B) :
    Code.wp Try.prog putm6_code (fun e a w' => ∃ y36 y37 y38 y39 y40 y41 y42 : Value, a = ⟨(List.toArray (u0 :: u1 :: .pointer (some ⟨rb, 0, none⟩) :: .int .i64 0 :: .pointer (some ⟨sb, 0, none⟩) :: u5 :: .pointer (some ⟨k, 0, none⟩) :: u7 :: u8 :: u9 :: u10 :: u11 :: u12 :: u13 :: u14 :: u15 :: u16 :: u17 :: u18 :: u19 :: u20 :: u21 :: u22 :: u23 :: u24 :: u25 :: u26 :: u27 :: u28 :: u29 :: u30 :: u31 :: u32 :: u33 :: u34 :: u35 :: y36 :: y37 :: y38 :: y39 :: y40 :: y41 :: y42 :: [])), []⟩ ∧ e = .normal ∧ (∃ A c, Is w' rb 41 (pktC ct kd (.slice A bs.length c)) ∧ w'.ownsRow w0.heap.size 5 1 (.slice A bs.length c) bs.length (cellsOf bs) ∧ Only (fun j => j = rb) w0 w')) ⟨(List.toArray (u0 :: u1 :: .pointer (some ⟨rb, 0, none⟩) :: u3 :: .pointer (some ⟨sb, 0, none⟩) :: u5 :: .pointer (some ⟨k, 0, none⟩) :: u7 :: u8 :: u9 :: u10 :: u11 :: u12 :: u13 :: u14 :: u15 :: u16 :: u17 :: u18 :: u19 :: u20 :: u21 :: u22 :: u23 :: u24 :: u25 :: u26 :: u27 :: u28 :: u29 :: u30 :: u31 :: u32 :: u33 :: u34 :: u35 :: u36 :: u37 :: u38 :: u39 :: u40 :: u41 :: u42 :: [])), []⟩ w0 := by
  conv => arg 2; whnf
  have HC0 := Lib.hid hc0
  have HC1 := Lib.hid hc1
  clear hc0 hc1
  refine wp_region_posts putm6_A [5, 7] [5, 6, 7] putm6_kill putm6_uses [7] [7] [8] []
      (some ?v0 :: some ?v1 :: some ?v2 :: some ?v3 :: some ?v4 :: none :: none :: none :: some ?v8 :: [])
      ?T (fun wx => Is wx sb 93 (srtV s) ∧ Is wx rb 41 pktZ ∧ Wr wx k d bs v B ∧ Only (fun _ => False) w0 wx) ?W ?E (by kernel_rfl) (by kernel_rfl) (by kernel_rfl) (fun x => ?hT) ?hF ?hini (Reg.all_ops ?runs) ?pres ?fin
  case W => exact fun j x w' => match j with | 5 => ∃ A c, x 5 = .slice A bs.length c ∧ w'.ownsRow w0.heap.size 5 1 (.slice A bs.length c) bs.length (cellsOf bs) | 6 => ∃ A c, x 6 = .agg (pktC ct kd (.slice A bs.length c)) ∧ w'.ownsRow w0.heap.size 5 1 (.slice A bs.length c) bs.length (cellsOf bs) | 7 => ∃ A c, Is w' rb 41 (pktC ct kd (.slice A bs.length c)) ∧ w'.ownsRow w0.heap.size 5 1 (.slice A bs.length c) bs.length (cellsOf bs) ∧ Only (fun j => j = rb) w0 w' | _ => True
  case E => exact fun i w' w'' => match i with | 5 => Only (fun _ => False) w' w'' | _ => True
  case hT =>
    simp only [Reg.fillV, Act.put, List.setIfInBounds_toArray, List.set_cons_zero, List.set_cons_succ]
    rfl
  case runs =>
    refine And.intro ?_ ?_
    · refine Reg.ob_pure (fun _ => rfl) rfl rfl rfl rfl (fun x w1 hF => ?_)
      obtain ⟨h1, -, -, -⟩ := hF
      have s0 := (h1.cell 0).trans HC0.out
      have s1 := (h1.cell 1).trans HC1.out
      go_simp
      with_reducible rfl
    refine And.intro ?_ ?_
    · refine Reg.ob_pure (fun _ => rfl) rfl rfl rfl rfl (fun x w1 hF => ?_)
      obtain ⟨h1, -, -, -⟩ := hF
      have s0 := (h1.cell 0).trans HC0.out
      have s1 := (h1.cell 1).trans HC1.out
      go_simp
      with_reducible rfl
    refine And.intro ?_ ?_
    · refine Reg.ob_pure (fun _ => rfl) rfl rfl rfl rfl (fun x w1 hF => ?_)
      obtain ⟨h1, -, -, -⟩ := hF
      have s0 := (h1.cell 0).trans HC0.out
      have s1 := (h1.cell 1).trans HC1.out
      go_simp
      with_reducible rfl
    refine And.intro ?_ ?_
    · refine Reg.ob_pure (fun _ => rfl) rfl rfl rfl rfl (fun x w1 hF => ?_)
      obtain ⟨h1, -, -, -⟩ := hF
      have s0 := (h1.cell 0).trans HC0.out
      have s1 := (h1.cell 1).trans HC1.out
      go_simp
      with_reducible rfl
    refine And.intro ?_ ?_
    · refine Reg.ob_pure (fun _ => rfl) rfl rfl rfl rfl (fun x w1 hF => ?_)
      obtain ⟨h1, -, -, -⟩ := hF
      have s0 := (h1.cell 0).trans HC0.out
      have s1 := (h1.cell 1).trans HC1.out
      go_simp
      with_reducible rfl
    refine And.intro ?_ ?_
    · refine Reg.ob_some (fun _ => rfl) rfl (fun x w1 hF hU K hK => ?_)
      obtain ⟨h1, h2, h3, h4⟩ := hF rfl
      go_simp
      refine (out_is k B w0.heap.size d bs v w1 h3 h4.size (by omega)).mono ?_
      rintro e w5 ⟨u, rfl, hu, ho, -⟩
      rw [length_cellsOf] at hu
      obtain ⟨A, c, rfl, -⟩ := own_slice hu
      exact hK _ w5 (fun _ _ _ => ⟨h1.only ho (by simp), h2.only ho (by simp), fw_wr h3 ho, only_more h4 ho⟩) ho ⟨A, c, rfl, hu⟩
    refine And.intro ?_ ?_
    · refine Reg.ob_some (fun _ => rfl) rfl (fun x w1 hF hU K hK => ?_)
      obtain ⟨⟨A, c, h5, hu⟩, -⟩ := hU
      have h5 : x 5 = .slice A bs.length c := h5
      revert hK
      simp only [Nat.reduceAdd, h5]
      intro hK
      go_simp
      exact hK _ _ (fun h => by cases h) rfl ⟨A, c, rfl, hu⟩
    refine And.intro ?_ ?_
    · refine Reg.ob_some (fun _ => rfl) rfl (fun x w1 hF hU K hK => ?_)
      obtain ⟨h1, h2, h3, h4⟩ := hF rfl
      obtain ⟨⟨A, c, h6, hu⟩, -⟩ := hU
      have h6 : x 6 = .agg (pktC ct kd (.slice A bs.length c)) := h6
      refine wp_store_row 41 _ _ rfl rb (pktC ct kd (.slice A bs.length c)) rfl (by simpa [Act.eval] using h6) 41 pktZ h2 Try.sizeRt rfl (by simp [pktC, Value.oneCell']) ?_
      have ho : Only (fun q => q = rb) w1 (w1.setRow rb (pktC ct kd (.slice A bs.length c))) := Only.setRow (S := fun q => q = rb) (Only.refl _ w1) (fun _ => rfl) _
      exact hK undef _ (fun _ h _ => by cases h) trivial ⟨A, c, h2.setRow _, owned_only hu ho (fun q hq e => owned_off hu h2 (by decide) (by rw [hq, e])), (h4.mono (fun _ _ e => e.elim)).trans ho (fun _ _ e => e)⟩
    refine And.intro ?_ ?_
    · refine Reg.ob_bare (fun _ => rfl) rfl rfl rfl (fun x w1 => ?_)
      go_simp
      with_reducible rfl
    exact trivial
  case hF =>
    exact ⟨hS.only (only_drewN _ 1) (by simp), hR.only (only_drewN _ 1) (by simp), fw_wr hW (only_drewN _ 1), only_drewN _ 1⟩
  case hini =>
    exact trivial
  case pres =>
    intro i hi j hj hc x wx wy hF hE hW
    simp only [List.mem_cons, List.mem_nil_iff, or_false] at hi hj
    rcases hi with rfl | rfl <;> rcases hj with rfl | rfl | rfl
    all_goals (exfalso; revert hc; decide)
  case fin =>
    rintro x w9 hF hU
    obtain ⟨hQ, -⟩ := hU
    repeat apply Exists.intro
    exact ⟨rfl, rfl, hQ⟩

set_option maxRecDepth 100000 in
set_option maxHeartbeats 4000000 in
theorem putm6 (sb rb k B s ct kd : Nat) (d bs : List Nat) (v : Value) (hc0 : (srtV s)[0]? = some (.int .u8 (kd : Nat))) (hc1 : (srtV s)[1]? = some (.int .u8 (ct : Nat))) (hd : d.length ≤ 10000000) (u0 u1 u3 u5 u7 u8 u9 u10 u11 u12 u13 u14 u15 u16 u17 u18 u19 u20 u21 u22 u23 u24 u25 u26 u27 u28 u29 u30 u31 u32 u33 u34 u35 u36 u37 u38 u39 u40 u41 u42 : Value) (Q : Exit → Act → World → Prop) (w0 : World) (hS : Is w0 sb 93 (srtV s)) (hR : Is w0 rb 41 pktZ) (hW : Wr w0 k d bs v B)
    (hend : ∀ (y36 y37 y38 y39 y40 y41 y42 : Value) (w' : World), (∃ A c, Is w' rb 41 (pktC ct kd (.slice A bs.length c)) ∧ w'.ownsRow w0.heap.size 5 1 (.slice A bs.length c) bs.length (cellsOf bs) ∧ Only (fun j => j = rb) w0 w') → Q .normal ⟨(List.toArray (u0 :: u1 :: .pointer (some ⟨rb, 0, none⟩) :: .int .i64 0 :: .pointer (some ⟨sb, 0, none⟩) :: u5 :: .pointer (some ⟨k, 0, none⟩) :: u7 :: u8 :: u9 :: u10 :: u11 :: u12 :: u13 :: u14 :: u15 :: u16 :: u17 :: u18 :: u19 :: u20 :: u21 :: u22 :: u23 :: u24 :: u25 :: u26 :: u27 :: u28 :: u29 :: u30 :: u31 :: u32 :: u33 :: u34 :: u35 :: y36 :: y37 :: y38 :: y39 :: y40 :: y41 :: y42 :: [])), []⟩ w') :
    Code.wp Try.prog putm6_code Q ⟨(List.toArray (u0 :: u1 :: .pointer (some ⟨rb, 0, none⟩) :: u3 :: .pointer (some ⟨sb, 0, none⟩) :: u5 :: .pointer (some ⟨k, 0, none⟩) :: u7 :: u8 :: u9 :: u10 :: u11 :: u12 :: u13 :: u14 :: u15 :: u16 :: u17 :: u18 :: u19 :: u20 :: u21 :: u22 :: u23 :: u24 :: u25 :: u26 :: u27 :: u28 :: u29 :: u30 :: u31 :: u32 :: u33 :: u34 :: u35 :: u36 :: u37 :: u38 :: u39 :: u40 :: u41 :: u42 :: [])), []⟩ w0 := by
  refine wp_mono (putm6_in sb rb k B s ct kd d bs v hc0 hc1 hd _ _ _ _ _ _ _ _ _ _ _ _ _ _ _ _ _ _ _ _ _ _ _ _ _ _ _ _ _ _ _ _ _ _ _ _ _ _ _ _ w0 hS hR hW) ?_
  rintro e a w' h
  obtain ⟨y36, h⟩ := h
  obtain ⟨y37, h⟩ := h
  obtain ⟨y38, h⟩ := h
  obtain ⟨y39, h⟩ := h
  obtain ⟨y40, h⟩ := h
  obtain ⟨y41, h⟩ := h
  obtain ⟨y42, h⟩ := h
  obtain ⟨h, rfl, hq⟩ := h
  subst h
  exact hend y36 y37 y38 y39 y40 y41 y42 w' hq
end Go.Proofs.Ytefcimkopgcagaa

/- feedback.Put of any message: its packet, or that it is refused. Conditions: as each says. -/
set_option linter.unusedVariables false
namespace Go.Proofs.Ytefcimkopgcagaa
open Go.RowKit

/-- What a sort's part puts, by the contract of its call. -/
def Parts (fn : Nat) (m : Ms) (p1 o1 s1 : Value) (pd : List Nat) : Prop := ∀ (b B : Nat) (d : List Nat) (wB w : World), Pw b B d w wB w → RdM m p1 o1 s1 wB → wB.heap.size ≤ B → d.length ≤ 1000 →
  Calls Try.prog fn #[.agg (m.cls p1 o1 s1), ptr b] w fun e w' => e = .returned (.tuple #[]) ∧ Pw b B (d ++ pd) w wB w'
/-- A message is put. -/
def Putted (m : Ms) (ct kd : Nat) (d : List Nat) (w : World) (e : Ending) (w' : World) : Prop :=
  ∃ A c bs, e = .returned (.tuple #[.agg (pktC ct kd (.slice A bs.length c)), .int .i64 0]) ∧ Wrote bs d ∧ w'.ownsRow w.heap.size 5 1 (.slice A bs.length c) bs.length (cellsOf bs) ∧ Only (fun _ => False) w w'

set_option maxRecDepth 100000 in
set_option maxHeartbeats 4000000 in
theorem fput_sort (m : Ms) (p1 o1 s1 : Value) (w : World) (fn ct kd : Nat) (nm : ByteArray) (pd : List Nat) (h1 : RdM m p1 o1 s1 w) (hl : m.pairs.length ≤ 1000 ∧ m.orders.length ≤ 1000 ∧ m.srcs.length ≤ 1000) (hm : m.mant < 4294967296) (he : m.exp < 256) (hsm : m.sender < 4294967296 ∧ m.media < 4294967296)
    (hok : rightMs m = true) (hs1 : 1 ≤ m.sort) (hs4 : m.sort ≤ 4) (hc0 : (srtV m.sort)[0]? = some (.int .u8 (kd : Nat))) (hc1 : (srtV m.sort)[1]? = some (.int .u8 (ct : Nat))) (hc2 : (srtV m.sort)[2]? = some (.string nm)) (hc13 : (srtV m.sort)[13]? = some (.func (.func fn) #[] #[])) (hnm : nm.size ≤ 100)
    (hpart : Parts fn m p1 o1 s1 pd) (hpd : pd.length ≤ 1000000) (hcf : ∀ (args : Array Value) (w : World), (callFunc fn args).run Try.prog w = .ok (.enter fn args) w) :
    Calls Try.prog 12 #[.agg (m.cls p1 o1 s1)] w (Putted m ct kd (headD m.sender m.media nm ++ pd) w) := by
  have HRD := Lib.hid h1
  have HRI := Lib.hid (fun w (h : RdM m p1 o1 s1 w) => by have := fright_is m p1 o1 s1 w h (by omega) hm he; rwa [hok] at this)
  have HSO := Lib.hid (fun w => sortof_is m.sort w hs1 hs4)
  have HZ := Lib.hid (show _ ∧ _ ∧ _ from ⟨srt_size m.sort hs1 hs4, srt_hold m.sort hs1 hs4, srt_one m.sort hs1 hs4⟩)
  have HSM := Lib.hid hsm
  have HC0 := Lib.hid hc0
  have HC1 := Lib.hid hc1
  have HC2 := Lib.hid hc2
  have HC13 := Lib.hid hc13
  have HPART := Lib.hid hpart
  have HNM := Lib.hid hnm
  have HPD := Lib.hid hpd
  have HCF := Lib.hid hcf
  have HDL := Lib.hid (show (headD m.sender m.media nm).length ≤ 1000 from by unfold headD; simp only [List.length_append, digs_length]; have : (D (nameB nm)).length = 8 * (nameB nm).length := D_length _; rw [this, nameB_len]; omega)
  obtain ⟨A, hA⟩ : ∃ a, m.cls p1 o1 s1 = a := ⟨_, rfl⟩
  have HA := Lib.hid hA
  have SZP := Lib.hid (show (Try.prog.info? 27).map (·.size) = some A.size from by rw [← hA]; exact Try.sizeMe)
  rw [hA] at HRI
  rw [hA]
  clear hA h1 hl hm he hsm hok hs1 hs4 hc0 hc1 hc2 hc13 hpart hnm hpd hcf
  go_enter Try.func12, Try.ntmps12
  go_upto_region 1 with (fail)
  generalize hw0 : World.alloc _ _ = w0
  obtain ⟨mb, hmb⟩ : ∃ k, w.heap.size = k := ⟨_, rfl⟩
  obtain ⟨rb, hrb⟩ : ∃ k, w.heap.size + 1 = k := ⟨_, rfl⟩
  have I0 := Lib.hid (show Is w0 mb 27 A from by rw [← hw0, ← hmb]; exact (Is.made _ _ _).alloc _)
  have R0 := Lib.hid (show Is w0 rb 41 pktZ from by rw [← hw0, ← hrb]; have h := Is.made (w.alloc (.cells A 27)) 41 pktZ; rw [World.size_alloc] at h; exact h)
  have P0 := Lib.hid (show Only (fun _ => False) w w0 from by rw [← hw0]; exact ((Only.refl _ w).alloc _).alloc _)
  have HRB := Lib.hid (show w.heap.size ≤ rb from by omega)
  rw [hrb, hmb]
  clear hw0 hmb hrb
  go_upto_region 3 with (first
    | (refine wpList_load_want (o := ⟨some 7, _, _, _, _, _⟩) rfl _ _ rfl mb rfl _ _ _ I0.out Try.underlying27 rfl SZP.out ?_)
    | (go_at_call 15; refine (HRI.out _ (HRD.out.only P0.out)).mono ?_; rintro e w1 ⟨rfl, ho1⟩; have O1 := Lib.hid ho1; clear ho1))
  have I1 := Lib.hid (I0.out.only O1.out (by simp))
  have R1 := Lib.hid (R0.out.only O1.out (by simp))
  have P1 := Lib.hid (only_more P0.out O1.out)
  clear I0 R0 P0 O1
  have m0 := (I1.out.cell 0).trans (show A[0]? = some (.int .u8 (m.sort : Nat)) from by rw [← HA.out]; rfl)
  go_upto_region 4 with (first
    | (go_at_call 43; refine (HSO.out _).mono ?_; rintro e w2 ⟨rfl, ho2⟩; have O2 := Lib.hid ho2; clear ho2)
    | (refine wpList_store_is rfl 93 _ _ rfl w2.heap.size (srtV m.sort) rfl rfl 93 (srtV 0) (Is.made w2 _ (srtV 0)) HZ.out.1 HZ.out.2.1 HZ.out.2.2 ?_; intro w3 hi3 ho3; have O3 := Lib.hid (fb_made ho3); have S3 := Lib.hid hi3; clear hi3 ho3))
  clear m0
  generalize w2.heap.size = sb at *
  have P3 := Lib.hid (only_more P1.out (only_more O2.out O3.out))
  have I3 := Lib.hid (show Is w3 mb 27 (m.cls p1 o1 s1) from by rw [HA.out]; exact I1.out.only (only_more O2.out O3.out) (by simp))
  have R3 := Lib.hid (R1.out.only (only_more O2.out O3.out) (by simp))
  clear I1 R1 P1 O2 O3
  refine putm4 m p1 o1 s1 mb sb m.sort nm HSM.out HNM.out HC2.out _ _ _ _ _ _ _ _ _ _ _ _ _ _ _ _ _ _ _ _ _ _ _ _ _ _ _ _ _ _ _ _ _ _ _ _ _ _ _ _ _ _ w3 I3.out S3.out ?_
  rintro y6 y17 y18 y19 y20 y21 y22 y23 y24 y25 y26 y27 y28 y29 y30 w4 ⟨k, rfl, hP4⟩
  have P4 := Lib.hid hP4
  have I4 := Lib.hid (hP4.far _ _ _ (by decide) (by decide) I3.out)
  have S4 := Lib.hid (hP4.far _ _ _ (by decide) (by decide) S3.out)
  have R4 := Lib.hid (hP4.far _ _ _ (by decide) (by decide) R3.out)
  clear hP4
  have s13 := (S4.out.cell 13).trans HC13.out
  unfold ptr at *
  go_upto_region 6 with (refine wpList_load_want (o := ⟨some 33, _, _, _, _, _⟩) rfl _ _ rfl mb rfl _ _ _ I4.out Try.underlying27 rfl (by rw [HA.out]; exact SZP.out) ?_)
  rw [HCF.out]
  simp only [Oper.upon]
  refine (HPART.out k w3.heap.size _ w3 _ P4.out.here (HRD.out.only P3.out) (Nat.le_refl _) HDL.out).mono ?_
  rintro e w5 ⟨rfl, hP5⟩
  have P5 := Lib.hid hP5
  clear hP5 s13
  go_upto_region 6 with (fail)
  obtain ⟨bs, v, hw5⟩ := P5.out.wr
  have S5 := Lib.hid (P5.out.far _ _ _ (by decide) (by decide) S4.out)
  have R5 := Lib.hid (P5.out.far _ _ _ (by decide) (by decide) R4.out)
  have W5 := Lib.hid hw5
  clear hw5
  refine putm6 sb rb k w3.heap.size m.sort ct kd _ bs v HC0.out HC1.out (by rw [List.length_append]; have := HDL.out; have := HPD.out; omega) _ _ _ _ _ _ _ _ _ _ _ _ _ _ _ _ _ _ _ _ _ _ _ _ _ _ _ _ _ _ _ _ _ _ _ _ _ _ _ _ _ w5 S5.out R5.out W5.out ?_
  rintro y36 y37 y38 y39 y40 y41 y42 w6 ⟨A6, c6, hI6, hown, ho6⟩
  have I6 := Lib.hid hI6
  have W6 := Lib.hid hown
  have O6 := Lib.hid ho6
  clear hI6 hown ho6
  go_wp2
  refine bodyPost_ret (res_pair Try.results12 _ w6 rb 41 _ _ _ rfl rfl I6.out Try.underlying41 rfl Try.sizeRt) rfl ?_
  have hO : Only (fun _ => False) w w5 := P3.out.trans P5.out.old (fun i hi e => by have := P3.out.size; omega)
  exact ⟨A6, c6, bs, rfl, W5.out.wrote, owned_low W6.out hO.size, hO.trans O6.out (fun i hi e => by have := HRB.out; omega)⟩

set_option maxRecDepth 100000 in
set_option maxHeartbeats 4000000 in
theorem fput_none (m : Ms) (p1 o1 s1 : Value) (w : World) (h1 : RdM m p1 o1 s1 w) (hl : m.pairs.length ≤ 1000 ∧ m.orders.length ≤ 1000 ∧ m.srcs.length ≤ 1000) (hm : m.mant < 4294967296) (he : m.exp < 256) (hok : rightMs m = false) :
    Calls Try.prog 12 #[.agg (m.cls p1 o1 s1)] w fun e w' => e = .returned (.tuple #[.agg pktZ, .int .i64 2]) ∧ Only (fun _ => False) w w' := by
  have HRI := Lib.hid (fun w (h : RdM m p1 o1 s1 w) => by have := fright_is m p1 o1 s1 w h (by omega) hm he; rwa [hok] at this)
  have HRD := Lib.hid h1
  obtain ⟨A, hA⟩ : ∃ a, m.cls p1 o1 s1 = a := ⟨_, rfl⟩
  have SZP := Lib.hid (show (Try.prog.info? 27).map (·.size) = some A.size from by rw [← hA]; exact Try.sizeMe)
  rw [hA] at HRI
  rw [hA]
  clear hA h1 hl hm he hok
  go_enter Try.func12, Try.ntmps12
  go_upto_region 1 with (fail)
  generalize hw0 : World.alloc _ _ = w0
  obtain ⟨mb, hmb⟩ : ∃ k, w.heap.size = k := ⟨_, rfl⟩
  obtain ⟨rb, hrb⟩ : ∃ k, w.heap.size + 1 = k := ⟨_, rfl⟩
  have I0 := Lib.hid (show Is w0 mb 27 A from by rw [← hw0, ← hmb]; exact (Is.made _ _ _).alloc _)
  have R0 := Lib.hid (show Is w0 rb 41 pktZ from by rw [← hw0, ← hrb]; have h := Is.made (w.alloc (.cells A 27)) 41 pktZ; rw [World.size_alloc] at h; exact h)
  have P0 := Lib.hid (show Only (fun _ => False) w w0 from by rw [← hw0]; exact ((Only.refl _ w).alloc _).alloc _)
  have HRB := Lib.hid (show w.heap.size ≤ rb from by omega)
  rw [hrb, hmb]
  clear hw0 hmb hrb
  go_wp2_with (first
    | (refine wpList_load_want (o := ⟨some 7, _, _, _, _, _⟩) rfl _ _ rfl mb rfl _ _ _ I0.out Try.underlying27 rfl SZP.out ?_)
    | (go_at_call 15; refine (HRI.out _ (HRD.out.only P0.out)).mono ?_; rintro e w1 ⟨rfl, ho1⟩; have O1 := Lib.hid ho1; clear ho1; have R1 := Lib.hid (R0.out.only O1.out (by simp)))
    | (refine wpList_store_is rfl 41 _ _ rfl rb pktZ rfl rfl 41 pktZ R1.out Try.sizeRt rfl (by simp [pktZ, Value.oneCell']) ?_; intro w3 hi3 ho3; have O3 := Lib.hid ho3; have I3 := Lib.hid hi3; clear hi3 ho3))
  refine bodyPost_ret (res_pair Try.results12 _ w3 rb 41 _ _ _ rfl rfl I3.out Try.underlying41 rfl Try.sizeRt) rfl ?_
  exact ⟨rfl, (only_more P0.out O1.out).trans O3.out (fun i hi e => by have := HRB.out; omega)⟩
theorem fput_1 : ∀ (args : Array Value) (w : World), (callFunc 69 args).run Try.prog w = .ok (.enter 69 args) w := fun _ _ => by kernel_rfl
theorem fput_2 : ∀ (args : Array Value) (w : World), (callFunc 71 args).run Try.prog w = .ok (.enter 71 args) w := fun _ _ => by kernel_rfl
theorem fput_3 : ∀ (args : Array Value) (w : World), (callFunc 73 args).run Try.prog w = .ok (.enter 73 args) w := fun _ _ => by kernel_rfl
theorem fput_4 : ∀ (args : Array Value) (w : World), (callFunc 75 args).run Try.prog w = .ok (.enter 75 args) w := fun _ _ => by kernel_rfl
end Go.Proofs.Ytefcimkopgcagaa

/- feedback.Put of any message that is right. Conditions: as it says. -/
set_option linter.unusedVariables false
namespace Go.Proofs.Ytefcimkopgcagaa
open Go.RowKit

def kdOf (s : Nat) : Nat := if s = 1 then 205 else 206
def ctOf (s : Nat) : Nat := if s = 3 then 4 else if s = 4 then 15 else 1
def nmOf (s : Nat) : ByteArray := if s = 4 then ⟨#[82, 69, 77, 66]⟩ else ⟨#[]⟩
def partD (m : Ms) : List Nat := if m.sort = 1 then m.pairs.flatMap pairD else if m.sort = 3 then m.orders.flatMap orderD else if m.sort = 4 then rateD m else []
/-- The digits of a message's body. -/
def putD (m : Ms) : List Nat := headD m.sender m.media (nmOf m.sort) ++ partD m
/-- What a message may hold. -/
structure MFit (m : Ms) : Prop where
  sort : m.sort < 256
  snd : m.sender < 4294967296
  med : m.media < 4294967296
  exp : m.exp < 256
  mant : m.mant < 4294967296
  pairs : ∀ p ∈ m.pairs, p.Fit
  orders : ∀ p ∈ m.orders, p.Fit
  srcs : ∀ x ∈ m.srcs, x < 4294967296
theorem fput_yes (m : Ms) (p1 o1 s1 : Value) (w : World) (h1 : RdM m p1 o1 s1 w) (hl : m.pairs.length ≤ 1000 ∧ m.orders.length ≤ 1000 ∧ m.srcs.length ≤ 1000) (hf : MFit m) (hok : rightMs m = true) :
    Calls Try.prog 12 #[.agg (m.cls p1 o1 s1)] w (Putted m (ctOf m.sort) (kdOf m.sort) (putD m) w) := by
  have hs : m.sort = 1 ∨ m.sort = 2 ∨ m.sort = 3 ∨ m.sort = 4 := by
    unfold rightMs okMs at hok
    have := of_decide_eq_true hok
    omega
  unfold putD partD
  rcases hs with h | h | h | h
  · have := fput_sort m p1 o1 s1 w 69 1 205 ⟨#[]⟩ (m.pairs.flatMap pairD) h1 hl hf.mant hf.exp ⟨hf.snd, hf.med⟩ hok (by omega) (by omega) (by rw [h]; rfl) (by rw [h]; rfl) (by rw [h]; rfl) (by rw [h]; rfl) (by decide)
      (fun b B d wB w hP hr hB hd => putpairs_is m p1 o1 s1 b B d wB w hP hr.p hB hf.pairs (by omega) hd) (by rw [pairsD_len]; omega) fput_1
    rw [h]
    exact this
  · have := fput_sort m p1 o1 s1 w 71 1 206 ⟨#[]⟩ [] h1 hl hf.mant hf.exp ⟨hf.snd, hf.med⟩ hok (by omega) (by omega) (by rw [h]; rfl) (by rw [h]; rfl) (by rw [h]; rfl) (by rw [h]; rfl) (by decide)
      (fun b B d wB w hP hr hB hd => (putnothing_is _ _ _).mono fun e w' q => ⟨q.1, by rw [List.append_nil]; exact hP.go q.2⟩) (by simp) fput_2
    rw [h]
    exact this
  · have := fput_sort m p1 o1 s1 w 73 4 206 ⟨#[]⟩ (m.orders.flatMap orderD) h1 hl hf.mant hf.exp ⟨hf.snd, hf.med⟩ hok (by omega) (by omega) (by rw [h]; rfl) (by rw [h]; rfl) (by rw [h]; rfl) (by rw [h]; rfl) (by decide)
      (fun b B d wB w hP hr hB hd => putorders_is m p1 o1 s1 b B d wB w hP hr.o hB hf.orders (by omega) hd) (by rw [ordersD_len]; omega) fput_3
    rw [h]
    exact this
  · have := fput_sort m p1 o1 s1 w 75 15 206 ⟨#[82, 69, 77, 66]⟩ (rateD m) h1 hl hf.mant hf.exp ⟨hf.snd, hf.med⟩ hok (by omega) (by omega) (by rw [h]; rfl) (by rw [h]; rfl) (by rw [h]; rfl) (by rw [h]; rfl) (by decide)
      (fun b B d wB w hP hr hB hd => putrate_is m p1 o1 s1 b B d wB w hP hr.s hB hf.srcs ⟨hf.exp, hf.mant⟩ (by omega) hd) (by unfold rateD; simp only [List.length_append, digs_length, srcsD_len]; omega) fput_4
    rw [h]
    exact this
end Go.Proofs.Ytefcimkopgcagaa
