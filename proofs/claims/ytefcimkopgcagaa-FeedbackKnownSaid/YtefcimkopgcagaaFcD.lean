/- easellaw07.ref: a message told anew. Conditions: as it says. -/
import Derived.Test.YtefcimkopgcagaaFcE
import Derived.Test.YtefcimkopgcagaaBase
set_option linter.unusedVariables false
namespace Go.Proofs.Ytefcimkopgcagaa
open Go.RowKit

/-- Ahead of the message's building. -/
structure Rf (m : Ms) (p1 o1 s1 : Value) (mb rb : Nat) (w0 wx : World) : Prop where
  im : Is wx mb 27 (m.cls p1 o1 s1)
  ir : Is wx rb 33 msZ
  rd : RdP wx p1 m.pairs
  pure : Only (fun _ => False) w0 wx
theorem Rf.go {m : Ms} {p1 o1 s1 : Value} {mb rb : Nat} {w wx wy : World} (h : Rf m p1 o1 s1 mb rb w wx) (ho : Only (fun _ => False) wx wy) : Rf m p1 o1 s1 mb rb w wy :=
  ⟨h.im.only ho (by simp), h.ir.only ho (by simp), h.rd.only ho, only_more h.pure ho⟩
def ref1_A : List (List Nat) := ([] :: [0] :: [] :: [2] :: [] :: [4] :: [] :: [6] :: [7, 6] :: [] :: [9] :: [] :: [11] :: (1 :: 3 :: 5 :: 8 :: 10 :: 12 :: 0 :: 2 :: 4 :: 7 :: 6 :: 9 :: 11 :: []) :: [] :: (14 :: 13 :: 8 :: 0 :: 1 :: 2 :: 3 :: 4 :: 5 :: 6 :: 7 :: 9 :: 10 :: 11 :: 12 :: []) :: [])
def ref1_kill : List (List Nat) := ([] :: [] :: [] :: [] :: [] :: [] :: [] :: [] :: [] :: [] :: [] :: [] :: [] :: [] :: [] :: [8, 13, 14] :: [])
def ref1_uses : List (List Nat) := ([] :: [] :: [] :: [] :: [] :: [] :: [] :: [] :: [] :: [] :: [] :: [] :: [] :: [8] :: [] :: [13, 14] :: [])
noncomputable def ref1_code : Code := ((Try.f10.body.bind (codeRegion 1)).getD .skip)
set_option maxRecDepth 100000 in
set_option maxHeartbeats 4000000 in
theorem ref1_in (m : Ms) (p1 o1 s1 : Value) (mb rb : Nat) (w0 : World) (hl : m.pairs.length ≤ 10000) (u0 u2 u3 u4 u5 u6 u7 u8 u9 u10 u11 u12 u13 u14 u15 u16 u17 u18 u19 u20 u21 u22 u23 u24 u25 u26 u27 u28 u29 u30 u31 u32 u33 u34 u35 u36 u37 u38 u39 u40 u41 u42 u43 u44 u45 u46 u47 u48 u49 u50 : Value) (w : World) (hG : Rf m p1 o1 s1 mb rb w0 w) :
    Code.wp Try.prog ref1_code (fun e a w' => ∃ y3 y5 y6 y7 y8 y9 y10 y11 y12 y13 y14 y15 y16 y17 y18 : Value, a = ⟨(List.toArray (u0 :: .pointer (some ⟨mb, 0, none⟩) :: u2 :: y3 :: u4 :: y5 :: y6 :: y7 :: y8 :: y9 :: y10 :: y11 :: y12 :: y13 :: y14 :: y15 :: y16 :: y17 :: y18 :: u19 :: u20 :: u21 :: u22 :: u23 :: u24 :: u25 :: u26 :: u27 :: u28 :: u29 :: u30 :: u31 :: u32 :: u33 :: u34 :: u35 :: u36 :: u37 :: u38 :: u39 :: u40 :: u41 :: u42 :: u43 :: u44 :: u45 :: u46 :: u47 :: u48 :: u49 :: u50 :: [])), []⟩ ∧ e = .normal ∧ (∃ ob Au cu, y3 = .pointer (some ⟨ob, 0, none⟩) ∧ w0.heap.size ≤ ob ∧ rb ≠ ob ∧ Rg m p1 o1 s1 (.slice Au m.pairs.length cu) (.slice none 0 0) mb rb ob w0 w')) ⟨(List.toArray (u0 :: .pointer (some ⟨mb, 0, none⟩) :: u2 :: u3 :: u4 :: u5 :: u6 :: u7 :: u8 :: u9 :: u10 :: u11 :: u12 :: u13 :: u14 :: u15 :: u16 :: u17 :: u18 :: u19 :: u20 :: u21 :: u22 :: u23 :: u24 :: u25 :: u26 :: u27 :: u28 :: u29 :: u30 :: u31 :: u32 :: u33 :: u34 :: u35 :: u36 :: u37 :: u38 :: u39 :: u40 :: u41 :: u42 :: u43 :: u44 :: u45 :: u46 :: u47 :: u48 :: u49 :: u50 :: [])), []⟩ w := by
  conv => arg 2; whnf
  refine wp_region_posts ref1_A [8, 14, 15] [8, 13, 14, 15] ref1_kill ref1_uses [15] [15] [] []
      (some ?v0 :: some ?v1 :: some ?v2 :: some ?v3 :: some ?v4 :: some ?v5 :: some ?v6 :: some ?v7 :: none :: some ?v9 :: some ?v10 :: some ?v11 :: some ?v12 :: none :: none :: none :: [])
      ?T (fun wx => Rf m p1 o1 s1 mb rb w0 wx) ?W ?E (by kernel_rfl) (by kernel_rfl) (by kernel_rfl) (fun x => ?hT) ?hF ?hini (Reg.all_ops ?runs) ?pres ?fin
  case W => exact fun j x w' => match j with | 8 => ∃ Au cu, x 8 = .slice Au m.pairs.length cu ∧ OwnP w0.heap.size 83 (.slice Au m.pairs.length cu) m.pairs w' | 13 => ∃ Au cu, x 13 = .agg (m.cls (.slice Au m.pairs.length cu) (.slice none 0 0) (.slice none 0 0)) ∧ OwnP w0.heap.size 83 (.slice Au m.pairs.length cu) m.pairs w' | 14 => ∃ ob, x 14 = .pointer (some ⟨ob, 0, none⟩) ∧ w0.heap.size ≤ ob ∧ rb ≠ ob ∧ Is w' ob 33 msZ | 15 => ∃ ob Au cu, x 14 = .pointer (some ⟨ob, 0, none⟩) ∧ w0.heap.size ≤ ob ∧ rb ≠ ob ∧ Rg m p1 o1 s1 (.slice Au m.pairs.length cu) (.slice none 0 0) mb rb ob w0 w' | _ => True
  case E => exact fun i w' w'' => match i with | 15 => True | _ => Only (fun _ => False) w' w''
  case hT =>
    simp only [Reg.fillV, Act.put, List.setIfInBounds_toArray, List.set_cons_zero, List.set_cons_succ]
    rfl
  case runs =>
    refine And.intro ?_ ?_
    · refine Reg.ob_pure (fun _ => rfl) rfl rfl rfl rfl (fun x w1 hF => ?_)
      obtain ⟨m0, m1, m2, m3, m4, m5, m6, m7⟩ := cls_cells hF.im
      go_simp
      with_reducible rfl
    refine And.intro ?_ ?_
    · refine Reg.ob_pure (fun _ => rfl) rfl rfl rfl rfl (fun x w1 hF => ?_)
      obtain ⟨m0, m1, m2, m3, m4, m5, m6, m7⟩ := cls_cells hF.im
      go_simp
      with_reducible rfl
    refine And.intro ?_ ?_
    · refine Reg.ob_pure (fun _ => rfl) rfl rfl rfl rfl (fun x w1 hF => ?_)
      obtain ⟨m0, m1, m2, m3, m4, m5, m6, m7⟩ := cls_cells hF.im
      go_simp
      with_reducible rfl
    refine And.intro ?_ ?_
    · refine Reg.ob_pure (fun _ => rfl) rfl rfl rfl rfl (fun x w1 hF => ?_)
      obtain ⟨m0, m1, m2, m3, m4, m5, m6, m7⟩ := cls_cells hF.im
      go_simp
      with_reducible rfl
    refine And.intro ?_ ?_
    · refine Reg.ob_pure (fun _ => rfl) rfl rfl rfl rfl (fun x w1 hF => ?_)
      obtain ⟨m0, m1, m2, m3, m4, m5, m6, m7⟩ := cls_cells hF.im
      go_simp
      with_reducible rfl
    refine And.intro ?_ ?_
    · refine Reg.ob_pure (fun _ => rfl) rfl rfl rfl rfl (fun x w1 hF => ?_)
      obtain ⟨m0, m1, m2, m3, m4, m5, m6, m7⟩ := cls_cells hF.im
      go_simp
      with_reducible rfl
    refine And.intro ?_ ?_
    · refine Reg.ob_pure (fun _ => rfl) rfl rfl rfl rfl (fun x w1 hF => ?_)
      obtain ⟨m0, m1, m2, m3, m4, m5, m6, m7⟩ := cls_cells hF.im
      go_simp
      with_reducible rfl
    refine And.intro ?_ ?_
    · refine Reg.ob_pure (fun _ => rfl) rfl rfl rfl rfl (fun x w1 hF => ?_)
      obtain ⟨m0, m1, m2, m3, m4, m5, m6, m7⟩ := cls_cells hF.im
      go_simp
      with_reducible rfl
    refine And.intro ?_ ?_
    · refine Reg.ob_some (fun _ => rfl) rfl (fun x w1 hF hU K hK => ?_)
      replace hF := hF rfl
      obtain ⟨m0, m1, m2, m3, m4, m5, m6, m7⟩ := cls_cells hF.im
      go_simp
      refine (pairs_is _ m.pairs w1 hF.rd (by omega)).mono ?_
      rintro e w5 ⟨u, rfl, hu, ho⟩
      obtain ⟨Au, cu, rfl, -⟩ := OwnP.slice hu
      exact hK _ w5 (fun _ _ _ => hF.go ho) ho ⟨Au, cu, rfl, owned_low hu.1 hF.pure.size, hu.2⟩
    refine And.intro ?_ ?_
    · refine Reg.ob_pure (fun _ => rfl) rfl rfl rfl rfl (fun x w1 hF => ?_)
      obtain ⟨m0, m1, m2, m3, m4, m5, m6, m7⟩ := cls_cells hF.im
      go_simp
      with_reducible rfl
    refine And.intro ?_ ?_
    · refine Reg.ob_pure (fun _ => rfl) rfl rfl rfl rfl (fun x w1 hF => ?_)
      obtain ⟨m0, m1, m2, m3, m4, m5, m6, m7⟩ := cls_cells hF.im
      go_simp
      with_reducible rfl
    refine And.intro ?_ ?_
    · refine Reg.ob_pure (fun _ => rfl) rfl rfl rfl rfl (fun x w1 hF => ?_)
      obtain ⟨m0, m1, m2, m3, m4, m5, m6, m7⟩ := cls_cells hF.im
      go_simp
      with_reducible rfl
    refine And.intro ?_ ?_
    · refine Reg.ob_pure (fun _ => rfl) rfl rfl rfl rfl (fun x w1 hF => ?_)
      obtain ⟨m0, m1, m2, m3, m4, m5, m6, m7⟩ := cls_cells hF.im
      go_simp
      with_reducible rfl
    refine And.intro ?_ ?_
    · refine Reg.ob_some (fun _ => rfl) rfl (fun x w1 hF hU K hK => ?_)
      replace hF := hF rfl
      obtain ⟨⟨Au, cu, h8, hu⟩, -⟩ := hU
      have h8 : x 8 = .slice Au m.pairs.length cu := h8
      revert hK
      simp only [Nat.reduceAdd, h8]
      intro hK
      go_simp
      exact hK _ _ (fun h => by cases h) rfl ⟨Au, cu, rfl, hu⟩
    refine And.intro ?_ ?_
    · refine Reg.ob_some (fun _ => rfl) rfl (fun x w1 hF hU K hK => ?_)
      replace hF := hF rfl
      go_simp
      exact hK _ _ (fun _ _ _ => hF.go ((Only.refl _ _).alloc _)) ((Only.refl _ _).alloc _) ⟨_, rfl, hF.pure.size, (fun e => by have := hF.ir.lt; omega), Is.made _ _ _⟩
    refine And.intro ?_ ?_
    · refine Reg.ob_some (fun _ => rfl) rfl (fun x w1 hF hU K hK => ?_)
      replace hF := hF rfl
      obtain ⟨⟨Au, cu, h13, hu⟩, ⟨ob, h14, hob, hrb, hI⟩, -⟩ := hU
      have h13 : x 13 = .agg (m.cls (.slice Au m.pairs.length cu) (.slice none 0 0) (.slice none 0 0)) := h13
      have h14 : x 14 = .pointer (some ⟨ob, 0, none⟩) := h14
      refine wp_store_row 33 _ _ rfl ob (m.cls (.slice Au m.pairs.length cu) (.slice none 0 0) (.slice none 0 0)) (by simpa [Act.eval] using h14) (by simpa [Act.eval] using h13) 33 msZ hI Try.sizeRme rfl (m.one ⟨_, _, _, rfl⟩ ⟨_, _, _, rfl⟩ ⟨_, _, _, rfl⟩) ?_
      have ho : Only (fun q => q = ob) w1 (w1.setRow ob (m.cls (.slice Au m.pairs.length cu) (.slice none 0 0) (.slice none 0 0))) := Only.setRow (S := fun q => q = ob) (Only.refl _ w1) (fun _ => rfl) _
      have hp : Only (fun _ => False) w0 (w1.setRow ob (m.cls (.slice Au m.pairs.length cu) (.slice none 0 0) (.slice none 0 0))) := hF.pure.trans ho (fun i hi e => by omega)
      exact hK undef _ (fun _ h _ => by cases h) trivial ⟨ob, Au, cu, h14, hob, hrb, hF.im.only ho (Is.apart hF.im hI (by decide)), hF.ir.only ho hrb, hI.setRow _, OwnP.only hu ho (fun q hq e => owned_off hu.1 hI (by decide) (by rw [hq, e])), hp⟩
    exact trivial
  case hF =>
    exact hG.go (only_drewN _ 1)
  case hini =>
    exact trivial
  case pres =>
    intro i hi j hj hc x w1 w2 hF hE hW
    simp only [List.mem_cons, List.mem_nil_iff, or_false] at hi hj
    rcases hi with rfl | rfl | rfl <;> rcases hj with rfl | rfl | rfl | rfl
    all_goals first
      | (exfalso; revert hc; decide)
      | (obtain ⟨Au, cu, h1, h2⟩ := hW; exact ⟨Au, cu, h1, OwnP.only h2 hE (by simp)⟩)
      | (obtain ⟨ob, h1, h2, h3, h4⟩ := hW; exact ⟨ob, h1, h2, h3, h4.only hE (by simp)⟩)
  case fin =>
    rintro x w9 hF hU
    obtain ⟨⟨ob, Au, cu, h14, h2, h3, h4⟩, -⟩ := hU
    have h14 : x 14 = .pointer (some ⟨ob, 0, none⟩) := h14
    repeat apply Exists.intro
    refine ⟨rfl, rfl, ?_⟩
    exact ⟨ob, Au, cu, h14, h2, h3, h4⟩

set_option maxRecDepth 100000 in
set_option maxHeartbeats 4000000 in
theorem ref1 (m : Ms) (p1 o1 s1 : Value) (mb rb : Nat) (w0 : World) (hl : m.pairs.length ≤ 10000) (u0 u2 u3 u4 u5 u6 u7 u8 u9 u10 u11 u12 u13 u14 u15 u16 u17 u18 u19 u20 u21 u22 u23 u24 u25 u26 u27 u28 u29 u30 u31 u32 u33 u34 u35 u36 u37 u38 u39 u40 u41 u42 u43 u44 u45 u46 u47 u48 u49 u50 : Value) (Q : Exit → Act → World → Prop) (w : World) (hG : Rf m p1 o1 s1 mb rb w0 w)
    (hend : ∀ (y3 y5 y6 y7 y8 y9 y10 y11 y12 y13 y14 y15 y16 y17 y18 : Value) (w' : World), (∃ ob Au cu, y3 = .pointer (some ⟨ob, 0, none⟩) ∧ w0.heap.size ≤ ob ∧ rb ≠ ob ∧ Rg m p1 o1 s1 (.slice Au m.pairs.length cu) (.slice none 0 0) mb rb ob w0 w') → Q .normal ⟨(List.toArray (u0 :: .pointer (some ⟨mb, 0, none⟩) :: u2 :: y3 :: u4 :: y5 :: y6 :: y7 :: y8 :: y9 :: y10 :: y11 :: y12 :: y13 :: y14 :: y15 :: y16 :: y17 :: y18 :: u19 :: u20 :: u21 :: u22 :: u23 :: u24 :: u25 :: u26 :: u27 :: u28 :: u29 :: u30 :: u31 :: u32 :: u33 :: u34 :: u35 :: u36 :: u37 :: u38 :: u39 :: u40 :: u41 :: u42 :: u43 :: u44 :: u45 :: u46 :: u47 :: u48 :: u49 :: u50 :: [])), []⟩ w') :
    Code.wp Try.prog ref1_code Q ⟨(List.toArray (u0 :: .pointer (some ⟨mb, 0, none⟩) :: u2 :: u3 :: u4 :: u5 :: u6 :: u7 :: u8 :: u9 :: u10 :: u11 :: u12 :: u13 :: u14 :: u15 :: u16 :: u17 :: u18 :: u19 :: u20 :: u21 :: u22 :: u23 :: u24 :: u25 :: u26 :: u27 :: u28 :: u29 :: u30 :: u31 :: u32 :: u33 :: u34 :: u35 :: u36 :: u37 :: u38 :: u39 :: u40 :: u41 :: u42 :: u43 :: u44 :: u45 :: u46 :: u47 :: u48 :: u49 :: u50 :: [])), []⟩ w := by
  refine wp_mono (ref1_in m p1 o1 s1 mb rb w0 hl _ _ _ _ _ _ _ _ _ _ _ _ _ _ _ _ _ _ _ _ _ _ _ _ _ _ _ _ _ _ _ _ _ _ _ _ _ _ _ _ _ _ _ _ _ _ _ _ _ _ w hG) ?_
  rintro e a w' h
  obtain ⟨y3, h⟩ := h
  obtain ⟨y5, h⟩ := h
  obtain ⟨y6, h⟩ := h
  obtain ⟨y7, h⟩ := h
  obtain ⟨y8, h⟩ := h
  obtain ⟨y9, h⟩ := h
  obtain ⟨y10, h⟩ := h
  obtain ⟨y11, h⟩ := h
  obtain ⟨y12, h⟩ := h
  obtain ⟨y13, h⟩ := h
  obtain ⟨y14, h⟩ := h
  obtain ⟨y15, h⟩ := h
  obtain ⟨y16, h⟩ := h
  obtain ⟨y17, h⟩ := h
  obtain ⟨y18, h⟩ := h
  obtain ⟨h, rfl, hq⟩ := h
  subst h
  exact hend y3 y5 y6 y7 y8 y9 y10 y11 y12 y13 y14 y15 y16 y17 y18 w' hq

/-- Before an order is told. -/
def RgAt (m : Ms) (p1 o1 s1 vp : Value) (mb rb ob k : Nat) (w0 wx : World) : Prop := ∃ Ao c, Rg m p1 o1 s1 vp (.slice Ao k c) mb rb ob w0 wx ∧ OwnO w0.heap.size (.slice Ao k c) (m.orders.take k) wx
set_option maxRecDepth 100000 in
set_option maxHeartbeats 4000000 in
theorem fref_is (m : Ms) (p1 o1 s1 : Value) (w : World) (h1 : RdM m p1 o1 s1 w) (hs0 : s1 = .slice none 0 0 ∨ ∃ ad n c, s1 = .slice (some ad) n c) (hl : m.pairs.length ≤ 1000 ∧ m.orders.length ≤ 1000 ∧ m.srcs.length ≤ 1000) (hf : ∀ p ∈ m.orders, p.Fit) :
    Calls Try.prog 10 #[.agg (m.cls p1 o1 s1)] w fun e w' => ∃ vp vo vs, e = .returned (.agg (m.cls vp vo vs)) ∧ RdM m vp vo vs w' ∧ Only (fun _ => False) w w' := by
  have HRD := Lib.hid h1
  have HL := Lib.hid hl
  have HF := Lib.hid hf
  have HS0 := Lib.hid hs0
  obtain ⟨O1, e1, ho1, hoc, hoo⟩ := h1.o
  obtain ⟨P1, d1, hp1, -, -⟩ := h1.p
  obtain ⟨S1, f1, hs1, -, -⟩ := h1.s
  rw [nats_length] at hs1
  obtain ⟨Lo, hLo⟩ : ∃ n, m.orders.length = n := ⟨_, rfl⟩
  have HLO := Lib.hid hLo
  rw [hLo] at ho1 hoc hoo
  have HOO := Lib.hid hoo
  have HS1 := Lib.hid hs1
  have HO1 := Lib.hid ho1
  have hLo2 : Lo ≤ 1000 := by omega
  obtain ⟨A, hA⟩ : ∃ a, m.cls p1 o1 s1 = a := ⟨_, rfl⟩
  have HAA := Lib.hid hA
  rw [hA]
  clear hA h1 hl hs0 hp1 ho1 hs1 hoo hLo hf
  go_enter Try.func10, Try.ntmps10
  go_upto_region 1 with (fail)
  generalize hw0 : World.alloc (World.alloc _ _) _ = w0
  obtain ⟨mb, hmb⟩ : ∃ k, w.heap.size = k := ⟨_, rfl⟩
  obtain ⟨rb, hrb⟩ : ∃ k, w.heap.size + 1 = k := ⟨_, rfl⟩
  have A0 := Lib.hid (show Only (fun _ => False) w w0 from by rw [← hw0]; exact ((Only.refl _ w).alloc _).alloc _)
  have K0 := Lib.hid (show Rf m p1 o1 s1 mb rb w0 w0 from ⟨by rw [← hw0, HAA.out, ← hmb]; exact (Is.made w _ _).alloc _, by rw [← hw0, ← hrb]; have := Is.made (w.alloc (.cells A 27)) 33 msZ; rw [World.size_alloc] at this; exact this, HRD.out.p.only A0.out, Only.refl _ _⟩)
  have hwr : w.heap.size ≤ rb := by omega
  rw [hrb, hmb]
  clear hw0 hmb hrb
  refine ref1 m p1 o1 s1 mb rb w0 (by have := HL.out; omega) _ _ _ _ _ _ _ _ _ _ _ _ _ _ _ _ _ _ _ _ _ _ _ _ _ _ _ _ _ _ _ _ _ _ _ _ _ _ _ _ _ _ _ _ _ _ _ _ _ _ _ _ K0.out ?_
  rintro y3 y5 y6 y7 y8 y9 y10 y11 y12 y13 y14 y15 y16 y17 y18 w1 ⟨ob, Au, cu, rfl, hob, hrb, hG⟩
  have HG := Lib.hid hG
  have HRB := Lib.hid hrb
  clear hG K0 hrb
  go_wp2
  go_loopw [4] (fun i wx => ∃ k : Nat, k ≤ Lo ∧ i = .int .i64 k ∧ RgAt m p1 o1 s1 (.slice Au m.pairs.length cu) mb rb ob k w0 wx) (fun i _ => Lo - (intOf i).toNat)
  case atStart => exact ⟨0, by omega, rfl, none, 0, HG.out, OwnO.nil _ _⟩
  case round =>
    obtain ⟨k, hk, rfl, Ao, co, hG1, hO1⟩ := hrel
    have HG1 := Lib.hid hG1
    have HO2 := Lib.hid hO1
    clear hG1 hO1 HG
    obtain ⟨m0, m1, m2, m3, m4, m5, m6, m7⟩ := cls_cells HG1.out.im
    by_cases hlt : k < Lo
    · have zk : (k : Int) < (Lo : Int) := by omega
      rw [HO1.out] at m4
      go_upto_region 5 with (fail)
      clear m0 m1 m2 m3 m4 m5 m6 m7
      obtain ⟨q, o, hq, hcc⟩ := HOO.out (by omega)
      have hko : k < m.orders.length := by rw [HLO.out]; exact hlt
      obtain ⟨p, hp⟩ : ∃ p, m.orders[k]? = some p := ⟨_, List.getElem?_eq_getElem hko⟩
      have hcp := hcc k p hp
      have hpf := HF.out p (List.mem_of_getElem? hp)
      have e1' : o1 = .slice (some ⟨q, o, none⟩) Lo e1 := by rw [HO1.out, hq]
      have hsn : m.orders.take k ++ [p] = m.orders.take (k + 1) := by rw [List.take_add_one, hp]; rfl
      have hG2 := HG1.out
      rw [e1'] at hG2
      refine ref5 m p1 s1 (.slice Au m.pairs.length cu) q o e1 Lo k co Ao mb rb ob p (m.orders.take k) w0 hpf hlt (by omega) hoc (by rw [List.length_take]; omega) hob HRB.out _ _ _ _ _ _ _ _ _ _ _ _ _ _ _ _ _ _ _ _ _ _ _ _ _ _ _ _ _ _ _ _ _ _ _ _ _ _ _ _ _ _ _ _ _ _ _ _ _ _ (fun wx hpw => ⟨((only_more A0.out hpw).cell (World.block_lt_of_cell? w _ hcp.1) (by simp)).trans hcp.1, ((only_more A0.out hpw).cell (World.block_lt_of_cell? w _ hcp.2) (by simp)).trans hcp.2⟩) hG2 HO2.out ?_
      rintro y26 y27 y28 y29 y30 y31 y32 y33 y34 y35 y36 y37 y38 y39 y40 y41 y42 y43 w2 ⟨A', c', hG3, hO3⟩
      rw [hsn] at hO3
      rw [← e1'] at hG3
      have HG3 := Lib.hid hG3
      have HO3 := Lib.hid hO3
      clear hG2 hG3 hO3 hsn hcp hp hcc hpf hko
      go_wp2
      exact ⟨⟨k + 1, by omega, by go_num, A', c', HG3.out, HO3.out⟩, by simp [intOf]; omega⟩
    · obtain rfl : k = Lo := by omega
      rw [HO1.out] at m4
      clear hlt hk
      have HTK := Lib.hid (show m.orders.take k = m.orders from List.take_of_length_le (by rw [HLO.out]; exact Nat.le_refl _))
      obtain ⟨n0, n1, n2, n3, n4, n5, n6, n7⟩ := cls_cells HG1.out.io
      have g7 := HG1.out.io.free 7
      have HRS := Lib.hid (HRD.out.s.only (only_more A0.out HG1.out.pure) (by simp))
      go_upto_region 7 with (first
        | (refine wpList_app32 wr rfl (.tmp 45) (.tmp 47) rfl wr.heap.size s1 m.srcs rfl rfl HS0.out HRS.out (by have := HL.out; omega) (Nat.le_refl _) ?_; intro A4 c4 w4 h4 ho4; have R4 := Lib.hid h4; have O4 := Lib.hid ho4; have J4 := Lib.hid (HG1.out.go ho4); have g47 := J4.out.io.free 7; obtain ⟨-, -, -, -, -, -, -, k7⟩ := cls_cells J4.out.io; clear h4 ho4))
      generalize hw5 : World.setCell w4 _ _ = w5
      have X5 := Lib.hid (show Only (fun j => j = ob) w4 w5 from by rw [← hw5]; exact Only.set (S := fun j => j = ob) (p := ⟨ob, 7, none⟩) (Only.refl _ w4) (fun _ => rfl) _)
      have I5 := Lib.hid (show Is w5 ob 33 (m.cls (.slice Au m.pairs.length cu) (.slice Ao k co) (.slice A4 m.srcs.length c4)) from by rw [← hw5]; exact J4.out.io.put 7 _)
      have B5 := Lib.hid (J4.out.ir.only X5.out HRB.out)
      clear hw5 n0 n1 n2 n3 n4 n5 n6 n7 m0 m1 m2 m3 m4 m5 m6 m7 g7 g47 k7
      go_wp2_with (first | (refine wpList_load_want (o := ⟨some 50, _, _, _, _, _⟩) rfl _ _ rfl ob rfl _ _ _ I5.out Try.underlying33 rfl Try.sizeRme ?_) | (refine wpList_store_is rfl 33 _ _ rfl rb (m.cls (.slice Au m.pairs.length cu) (.slice Ao k co) (.slice A4 m.srcs.length c4)) rfl rfl 33 msZ B5.out Try.sizeRme rfl (m.one ⟨_, _, _, rfl⟩ ⟨_, _, _, rfl⟩ ⟨_, _, _, rfl⟩) ?_; intro w6 hi6 ho6))
      refine bodyPost_ret (results_cell_row Try.results10 _ w6 rb 33 _ (0, 0) _ rfl hi6 Try.underlying33 rfl Try.sizeRme) rfl ?_
      have q1 : OwnP w0.heap.size 83 (.slice Au m.pairs.length cu) m.pairs w6 := OwnP.only (OwnP.only J4.out.op X5.out (fun z hz e => owned_off J4.out.op.1 J4.out.io (by decide) (by rw [hz, e]))) ho6 (fun z hz e => owned_off (OwnP.only J4.out.op X5.out (fun z hz e => owned_off J4.out.op.1 J4.out.io (by decide) (by rw [hz, e]))).1 B5.out (by decide) (by rw [hz, e]))
      have o4 := OwnO.only HO2.out O4.out (by simp)
      have o5 := OwnO.only o4 X5.out (fun z hz e => owned_off o4.1 J4.out.io (by decide) (by rw [hz, e]))
      have o6 := OwnO.only o5 ho6 (fun z hz e => owned_off o5.1 B5.out (by decide) (by rw [hz, e]))
      rw [HTK.out] at o6
      have s5 := owned_only R4.out X5.out (fun z hz e => owned_off R4.out J4.out.io (by decide) (by rw [hz, e]))
      have s6 := owned_only s5 ho6 (fun z hz e => owned_off s5 B5.out (by decide) (by rw [hz, e]))
      exact ⟨_, _, _, rfl, ⟨q1.rd, o6.rd, own32_rd s6⟩, (A0.out.trans (J4.out.pure.trans X5.out (fun i hi e => by omega)) (fun _ _ e => e)).trans ho6 (fun i hi e => by omega)⟩
end Go.Proofs.Ytefcimkopgcagaa
