/- What putPairs, putOrders, putRate put. Conditions: as each says. -/
import Derived.Test.YtoibllmijkggnaaFcF
set_option linter.unusedVariables false
namespace Go.Proofs.Ytoibllmijkggnaa
open Go.RowKit

def putr1_A : List (List Nat) := ([] :: [] :: [1] :: [2, 1] :: [3, 2, 1] :: [0, 4, 3, 2, 1] :: [] :: [6] :: [7, 6] :: (5 :: 8 :: 0 :: 4 :: 3 :: 2 :: 1 :: 7 :: 6 :: []) :: [] :: [10] :: [11, 10] :: (9 :: 12 :: 5 :: 8 :: 0 :: 4 :: 3 :: 2 :: 1 :: 7 :: 6 :: 11 :: 10 :: []) :: [])
def putr1_kill : List (List Nat) := ([] :: [] :: [] :: [] :: [] :: [14] :: [] :: [] :: [] :: [14, 5] :: [] :: [] :: [] :: [14, 5, 9] :: [])
def putr1_uses : List (List Nat) := ([] :: [] :: [] :: [] :: [] :: [14] :: [] :: [] :: [] :: [5] :: [] :: [] :: [] :: [9] :: [])
noncomputable def putr1_code : Code := ((Try.f75.body.bind (codeRegion 1)).getD .skip)
set_option maxRecDepth 100000 in
set_option maxHeartbeats 4000000 in
theorem putr1_in (b B mb : Nat) (d : List Nat) (wB : World) (m : Ms) (p1 o1 : Value) (S1 : Option Addr) (f1 : Nat) (hx : m.exp < 256 ∧ m.mant < 4294967296 ∧ m.srcs.length ≤ 100000) (hd : d.length ≤ 100000000) (u0 u3 u4 u5 u6 u7 u8 u9 u10 u11 u12 u13 u14 u15 u16 u17 u18 u19 u20 u21 u22 u23 u24 u25 u26 u27 u28 u29 u30 u31 : Value) (w0 : World) (hE : Is w0 mb 27 (m.cls p1 o1 (.slice S1 m.srcs.length f1))) (hP : Pw b B d w0 wB w0) :
    Code.wp Try.prog putr1_code (fun e a w' => ∃ y6 y7 y8 y9 y10 y11 y12 y13 y14 y15 y16 y17 y18 y19 : Value, a = ⟨(List.toArray (u0 :: ptr b :: .pointer (some ⟨mb, 0, none⟩) :: u3 :: u4 :: u5 :: y6 :: y7 :: y8 :: y9 :: y10 :: y11 :: y12 :: y13 :: y14 :: y15 :: y16 :: y17 :: y18 :: y19 :: u20 :: u21 :: u22 :: u23 :: u24 :: u25 :: u26 :: u27 :: u28 :: u29 :: u30 :: u31 :: [])), []⟩ ∧ e = .normal ∧ Pw b B (((d ++ digs 8 m.srcs.length) ++ digs 6 m.exp) ++ digs 18 m.mant) w0 wB w') ⟨(List.toArray (u0 :: ptr b :: .pointer (some ⟨mb, 0, none⟩) :: u3 :: u4 :: u5 :: u6 :: u7 :: u8 :: u9 :: u10 :: u11 :: u12 :: u13 :: u14 :: u15 :: u16 :: u17 :: u18 :: u19 :: u20 :: u21 :: u22 :: u23 :: u24 :: u25 :: u26 :: u27 :: u28 :: u29 :: u30 :: u31 :: [])), []⟩ w0 := by
  conv => arg 2; whnf
  have HX0 := Lib.hid (show m.srcs.length < 18446744073709551616 from by have := hx.2.2; omega)
  have HX1 := Lib.hid (show m.exp < 18446744073709551616 from by have := hx.1; omega)
  have HX2 := Lib.hid (show m.mant < 18446744073709551616 from by have := hx.2.1; omega)
  have z0 : m.exp < 256 := hx.1
  have z1 : m.mant < 4294967296 := hx.2.1
  have z2 : m.srcs.length ≤ 100000 := hx.2.2
  have wx0 : IntKind.u64.wrap (m.srcs.length : Int) = (m.srcs.length : Int) := by rw [IntKind.wrap_u64]; omega
  have wx1 : IntKind.u64.wrap (m.exp : Int) = (m.exp : Int) := by rw [IntKind.wrap_u64]; omega
  have wx2 : IntKind.u64.wrap (m.mant : Int) = (m.mant : Int) := by rw [IntKind.wrap_u64]; omega
  have HD := Lib.hid hd
  have HE := Lib.hid hE
  clear hE hd hx
  refine wp_region_posts putr1_A [5, 9, 13] [5, 9, 13, 14] putr1_kill putr1_uses [13] [] [] [14]
      (some ?v0 :: some ?v1 :: some ?v2 :: some ?v3 :: some ?v4 :: some (ptr b) :: some ?v6 :: some ?v7 :: some ?v8 :: some (ptr b) :: some ?v10 :: some ?v11 :: some ?v12 :: some (ptr b) :: [])
      ?T (fun wx => Is wx mb 27 (m.cls p1 o1 (.slice S1 m.srcs.length f1))) ?W ?E (by kernel_rfl) (by kernel_rfl) (by kernel_rfl) (fun x => ?hT) ?hF ?hini (Reg.all_ops ?runs) ?pres ?fin
  case W => exact fun j x w' => match j with | 5 => Pw b B (d ++ digs 8 m.srcs.length) w0 wB w' | 9 => Pw b B ((d ++ digs 8 m.srcs.length) ++ digs 6 m.exp) w0 wB w' | 13 => Pw b B (((d ++ digs 8 m.srcs.length) ++ digs 6 m.exp) ++ digs 18 m.mant) w0 wB w' | 14 => Pw b B d w0 wB w' | _ => True
  case E => exact fun i w' w'' => True
  case hT =>
    simp only [Reg.fillV, Act.put, List.setIfInBounds_toArray, List.set_cons_zero, List.set_cons_succ]
    rfl
  case runs =>
    refine And.intro ?_ ?_
    · refine Reg.ob_pure (fun _ => rfl) rfl rfl rfl rfl (fun x w1 hF => ?_)
      obtain ⟨m0, m1, m2, m3, m4, m5, m6, m7⟩ := cls_cells hF
      go_simp
      with_reducible rfl
    refine And.intro ?_ ?_
    · refine Reg.ob_pure (fun _ => rfl) rfl rfl rfl rfl (fun x w1 hF => ?_)
      obtain ⟨m0, m1, m2, m3, m4, m5, m6, m7⟩ := cls_cells hF
      go_simp
      with_reducible rfl
    refine And.intro ?_ ?_
    · refine Reg.ob_pure (fun _ => rfl) rfl rfl rfl rfl (fun x w1 hF => ?_)
      obtain ⟨m0, m1, m2, m3, m4, m5, m6, m7⟩ := cls_cells hF
      go_simp
      with_reducible rfl
    refine And.intro ?_ ?_
    · refine Reg.ob_pure (fun _ => rfl) rfl rfl rfl rfl (fun x w1 hF => ?_)
      obtain ⟨m0, m1, m2, m3, m4, m5, m6, m7⟩ := cls_cells hF
      go_simp
      with_reducible rfl
    refine And.intro ?_ ?_
    · refine Reg.ob_pure (fun _ => rfl) rfl rfl rfl rfl (fun x w1 hF => ?_)
      obtain ⟨m0, m1, m2, m3, m4, m5, m6, m7⟩ := cls_cells hF
      go_simp
      with_reducible rfl
    refine And.intro ?_ ?_
    · refine Reg.ob_told (fun _ => rfl) rfl (fun x w1 hF hU K hK => ?_)
      replace hF := hF rfl
      obtain ⟨hW, -⟩ := hU
      have hW : Pw b B d w0 wB w1 := hW
      unfold ptr at *
      go_simp
      refine (pw_put 8 hW HX0.out (by have := HD.out; (try simp only [List.length_append, digs_length]); omega)).mono ?_
      rintro e w5 ⟨rfl, hw5⟩
      exact hK w5 (fun _ _ _ => hw5.far _ _ _ (by decide) (by decide) HE.out) trivial hw5
    refine And.intro ?_ ?_
    · refine Reg.ob_pure (fun _ => rfl) rfl rfl rfl rfl (fun x w1 hF => ?_)
      obtain ⟨m0, m1, m2, m3, m4, m5, m6, m7⟩ := cls_cells hF
      go_simp
      with_reducible rfl
    refine And.intro ?_ ?_
    · refine Reg.ob_pure (fun _ => rfl) rfl rfl rfl rfl (fun x w1 hF => ?_)
      obtain ⟨m0, m1, m2, m3, m4, m5, m6, m7⟩ := cls_cells hF
      go_simp
      with_reducible rfl
    refine And.intro ?_ ?_
    · refine Reg.ob_pure (fun _ => rfl) rfl rfl rfl rfl (fun x w1 hF => ?_)
      obtain ⟨m0, m1, m2, m3, m4, m5, m6, m7⟩ := cls_cells hF
      go_simp
      with_reducible rfl
    refine And.intro ?_ ?_
    · refine Reg.ob_told (fun _ => rfl) rfl (fun x w1 hF hU K hK => ?_)
      replace hF := hF rfl
      obtain ⟨hW, -⟩ := hU
      have hW : Pw b B (d ++ digs 8 m.srcs.length) w0 wB w1 := hW
      unfold ptr at *
      go_simp
      refine (pw_put 6 hW HX1.out (by have := HD.out; (try simp only [List.length_append, digs_length]); omega)).mono ?_
      rintro e w5 ⟨rfl, hw5⟩
      exact hK w5 (fun _ _ _ => hw5.far _ _ _ (by decide) (by decide) HE.out) trivial hw5
    refine And.intro ?_ ?_
    · refine Reg.ob_pure (fun _ => rfl) rfl rfl rfl rfl (fun x w1 hF => ?_)
      obtain ⟨m0, m1, m2, m3, m4, m5, m6, m7⟩ := cls_cells hF
      go_simp
      with_reducible rfl
    refine And.intro ?_ ?_
    · refine Reg.ob_pure (fun _ => rfl) rfl rfl rfl rfl (fun x w1 hF => ?_)
      obtain ⟨m0, m1, m2, m3, m4, m5, m6, m7⟩ := cls_cells hF
      go_simp
      with_reducible rfl
    refine And.intro ?_ ?_
    · refine Reg.ob_pure (fun _ => rfl) rfl rfl rfl rfl (fun x w1 hF => ?_)
      obtain ⟨m0, m1, m2, m3, m4, m5, m6, m7⟩ := cls_cells hF
      go_simp
      with_reducible rfl
    refine And.intro ?_ ?_
    · refine Reg.ob_told (fun _ => rfl) rfl (fun x w1 hF hU K hK => ?_)
      replace hF := hF rfl
      obtain ⟨hW, -⟩ := hU
      have hW : Pw b B ((d ++ digs 8 m.srcs.length) ++ digs 6 m.exp) w0 wB w1 := hW
      unfold ptr at *
      go_simp
      refine (pw_put 18 hW HX2.out (by have := HD.out; (try simp only [List.length_append, digs_length]); omega)).mono ?_
      rintro e w5 ⟨rfl, hw5⟩
      exact hK w5 (fun _ _ _ => hw5.far _ _ _ (by decide) (by decide) HE.out) trivial hw5
    exact trivial
  case hF =>
    exact HE.out
  case hini =>
    exact ⟨fun x => hP.go (only_drewN _ 1), trivial⟩
  case pres =>
    intro i hi j hj hc x wx wy hF hE hW
    simp only [List.mem_cons, List.mem_nil_iff, or_false] at hi hj
    rcases hi with rfl | rfl | rfl <;> rcases hj with rfl | rfl | rfl | rfl
    all_goals (exfalso; revert hc; decide)
  case fin =>
    rintro x w9 hF hU
    obtain ⟨hQ, -⟩ := hU
    repeat apply Exists.intro
    exact ⟨rfl, rfl, hQ⟩

set_option maxRecDepth 100000 in
set_option maxHeartbeats 4000000 in
theorem putr1 (b B mb : Nat) (d : List Nat) (wB : World) (m : Ms) (p1 o1 : Value) (S1 : Option Addr) (f1 : Nat) (hx : m.exp < 256 ∧ m.mant < 4294967296 ∧ m.srcs.length ≤ 100000) (hd : d.length ≤ 100000000) (u0 u3 u4 u5 u6 u7 u8 u9 u10 u11 u12 u13 u14 u15 u16 u17 u18 u19 u20 u21 u22 u23 u24 u25 u26 u27 u28 u29 u30 u31 : Value) (Q : Exit → Act → World → Prop) (w0 : World) (hE : Is w0 mb 27 (m.cls p1 o1 (.slice S1 m.srcs.length f1))) (hP : Pw b B d w0 wB w0)
    (hend : ∀ (y6 y7 y8 y9 y10 y11 y12 y13 y14 y15 y16 y17 y18 y19 : Value) (w' : World), Pw b B (((d ++ digs 8 m.srcs.length) ++ digs 6 m.exp) ++ digs 18 m.mant) w0 wB w' → Q .normal ⟨(List.toArray (u0 :: ptr b :: .pointer (some ⟨mb, 0, none⟩) :: u3 :: u4 :: u5 :: y6 :: y7 :: y8 :: y9 :: y10 :: y11 :: y12 :: y13 :: y14 :: y15 :: y16 :: y17 :: y18 :: y19 :: u20 :: u21 :: u22 :: u23 :: u24 :: u25 :: u26 :: u27 :: u28 :: u29 :: u30 :: u31 :: [])), []⟩ w') :
    Code.wp Try.prog putr1_code Q ⟨(List.toArray (u0 :: ptr b :: .pointer (some ⟨mb, 0, none⟩) :: u3 :: u4 :: u5 :: u6 :: u7 :: u8 :: u9 :: u10 :: u11 :: u12 :: u13 :: u14 :: u15 :: u16 :: u17 :: u18 :: u19 :: u20 :: u21 :: u22 :: u23 :: u24 :: u25 :: u26 :: u27 :: u28 :: u29 :: u30 :: u31 :: [])), []⟩ w0 := by
  refine wp_mono (putr1_in b B mb d wB m p1 o1 S1 f1 hx hd _ _ _ _ _ _ _ _ _ _ _ _ _ _ _ _ _ _ _ _ _ _ _ _ _ _ _ _ _ _ w0 hE hP) ?_
  rintro e a w' h
  obtain ⟨y6, h⟩ := h
  obtain ⟨y7, h⟩ := h
  obtain ⟨y8, h⟩ := h
  obtain ⟨y9, h⟩ := h
  obtain ⟨y10, h⟩ := h
  obtain ⟨y11, h⟩ := h
  obtain ⟨y12, h⟩ := h
  obtain ⟨y13, h⟩ := h
  obtain ⟨y14, h⟩ := h
  obtain ⟨y15, h⟩ := h
  obtain ⟨y16, h⟩ := h
  obtain ⟨y17, h⟩ := h
  obtain ⟨y18, h⟩ := h
  obtain ⟨y19, h⟩ := h
  obtain ⟨h, rfl, hq⟩ := h
  subst h
  exact hend y6 y7 y8 y9 y10 y11 y12 y13 y14 y15 y16 y17 y18 y19 w' hq

set_option maxRecDepth 100000 in
set_option maxHeartbeats 4000000 in
theorem putpairs_is (m : Ms) (p1 o1 s1 : Value) (b B : Nat) (d : List Nat) (wB w : World) (hP : Pw b B d w wB w) (hr : RdP wB p1 m.pairs) (hBw : wB.heap.size ≤ B) (hf : ∀ p ∈ m.pairs, p.Fit) (hl : m.pairs.length ≤ 100000) (hd : d.length ≤ 1000) :
    Calls Try.prog 69 #[.agg (m.cls p1 o1 s1), ptr b] w fun e w' => e = .returned (.tuple #[]) ∧ Pw b B (d ++ m.pairs.flatMap pairD) w wB w' := by
  obtain ⟨A1, c1, ha, hc, hh⟩ := hr
  have HHH := Lib.hid hh
  have HFF := Lib.hid hf
  have HP := Lib.hid hP
  obtain ⟨L, hL⟩ : ∃ n, m.pairs.length = n := ⟨_, rfl⟩
  have HL := Lib.hid hL
  have HAA := Lib.hid ha
  have HD := Lib.hid hd
  rw [hL] at hl hc
  obtain ⟨A, hA⟩ : ∃ a, m.cls p1 o1 s1 = a := ⟨_, rfl⟩
  have HA := Lib.hid hA
  rw [hA]
  clear hh hf hP hL hA ha hd
  go_enter Try.func69, Try.ntmps69
  go_upto_region 1 with (fail)
  generalize hw1 : World.alloc _ _ = w1
  have I1 := Lib.hid (show Is w1 w.heap.size 27 (m.cls p1 o1 s1) from by rw [← hw1, HA.out]; exact Is.made _ _ _)
  have P1 := Lib.hid (show Pw b B d w wB w1 from by rw [← hw1]; exact HP.out.go ((Only.refl _ _).alloc _))
  clear hw1
  obtain ⟨m0, m1, m2, m3, m4, m5, m6, m7⟩ := cls_cells I1.out
  rw [HAA.out, HL.out] at m3
  go_wp2
  go_loopw [9] (fun i wx => ∃ k : Nat, k ≤ L ∧ i = .int .i64 k ∧ Pw b B (d ++ (m.pairs.take k).flatMap pairD) w wB wx) (fun i _ => L - (intOf i).toNat)
  case atStart => exact ⟨0, by omega, rfl, by simpa using P1.out⟩
  case round =>
    obtain ⟨k, hk, rfl, hPk⟩ := hrel
    have PK := Lib.hid hPk
    clear hPk P1 m0 m1 m2 m3 m4 m5 m6 m7
    by_cases hlt : k < L
    · have zk : (k : Int) < (L : Int) := by omega
      have hko : k < m.pairs.length := by rw [HL.out]; exact hlt
      obtain ⟨q, o, rfl, hcc⟩ := HHH.out (by omega)
      obtain ⟨p, hp⟩ : ∃ p, m.pairs[k]? = some p := ⟨_, List.getElem?_eq_getElem hko⟩
      have hcp := hcc k p hp
      have hq : q < wB.heap.size := World.block_lt_of_cell? wB _ hcp.1
      have d0 := (PK.out.old.cell (p := ⟨q, o + k * 2, none⟩) hq (by show ¬ B ≤ q; omega)).trans hcp.1
      have d1 := (PK.out.old.cell (p := ⟨q, o + k * 2 + 1, none⟩) hq (by show ¬ B ≤ q; omega)).trans hcp.2
      have hpf := HFF.out p (List.mem_of_getElem? hp)
      have HSN := Lib.hid (flat_take pairD m.pairs k p hp)
      have HFL := Lib.hid (show (d ++ (m.pairs.take k).flatMap pairD).length ≤ 100000000 from by rw [List.length_append, pairsD_len, List.length_take]; have := HD.out; omega)
      have HPF := Lib.hid hpf
      clear hcp hcc hp hpf hko
      go_upto_region 4 with (fail)
      obtain ⟨eb, heb⟩ : ∃ g, wr.heap.size = g := ⟨_, rfl⟩
      generalize hw2 : World.alloc wr _ = w2
      have E2 := Lib.hid (show Is w2 eb 82 #[.int .u16 (p.pid : Nat), .int .u16 (p.blp : Nat)] from by rw [← hw2, ← heb]; exact Is.made _ _ _)
      have P2 := Lib.hid (show Pw b B (d ++ (m.pairs.take k).flatMap pairD) w wB w2 from by rw [← hw2]; exact PK.out.go ((Only.refl _ _).alloc _))
      rw [heb]
      clear hw2 heb d0 d1
      refine putp4 b B eb _ wB p HPF.out HFL.out _ _ _ _ _ _ _ _ _ _ _ _ _ _ _ _ _ _ _ _ _ _ w2 E2.out P2.out.here ?_
      rintro y13 y14 y15 y16 y17 y18 y19 y20 y21 w3 hP3
      have P3 := Lib.hid (show Pw b B (d ++ (m.pairs.take (k + 1)).flatMap pairD) w wB w3 from by rw [HSN.out]; have h := hP3.from_ P2.out.far; simpa only [pairD, List.append_assoc] using h)
      clear hP3
      go_wp2
      exact ⟨⟨k + 1, by omega, by go_num, P3.out⟩, by simp [intOf]; omega⟩
    · obtain rfl : k = L := by omega
      have hp := PK.out
      rw [List.take_of_length_le (by rw [HL.out]; exact Nat.le_refl _)] at hp
      have HPE := Lib.hid hp
      clear hp
      go_wp2
      go_end0
      exact ⟨rfl, HPE.out⟩

set_option maxRecDepth 100000 in
set_option maxHeartbeats 4000000 in
theorem putorders_is (m : Ms) (p1 o1 s1 : Value) (b B : Nat) (d : List Nat) (wB w : World) (hP : Pw b B d w wB w) (hr : RdO wB o1 m.orders) (hBw : wB.heap.size ≤ B) (hf : ∀ p ∈ m.orders, p.Fit) (hl : m.orders.length ≤ 100000) (hd : d.length ≤ 1000) :
    Calls Try.prog 73 #[.agg (m.cls p1 o1 s1), ptr b] w fun e w' => e = .returned (.tuple #[]) ∧ Pw b B (d ++ m.orders.flatMap orderD) w wB w' := by
  obtain ⟨A1, c1, ha, hc, hh⟩ := hr
  have HHH := Lib.hid hh
  have HFF := Lib.hid hf
  have HP := Lib.hid hP
  obtain ⟨L, hL⟩ : ∃ n, m.orders.length = n := ⟨_, rfl⟩
  have HL := Lib.hid hL
  have HAA := Lib.hid ha
  have HD := Lib.hid hd
  rw [hL] at hl hc
  obtain ⟨A, hA⟩ : ∃ a, m.cls p1 o1 s1 = a := ⟨_, rfl⟩
  have HA := Lib.hid hA
  rw [hA]
  clear hh hf hP hL hA ha hd
  go_enter Try.func73, Try.ntmps73
  go_upto_region 1 with (fail)
  generalize hw1 : World.alloc _ _ = w1
  have I1 := Lib.hid (show Is w1 w.heap.size 27 (m.cls p1 o1 s1) from by rw [← hw1, HA.out]; exact Is.made _ _ _)
  have P1 := Lib.hid (show Pw b B d w wB w1 from by rw [← hw1]; exact HP.out.go ((Only.refl _ _).alloc _))
  clear hw1
  obtain ⟨m0, m1, m2, m3, m4, m5, m6, m7⟩ := cls_cells I1.out
  rw [HAA.out, HL.out] at m4
  go_wp2
  go_loopw [9] (fun i wx => ∃ k : Nat, k ≤ L ∧ i = .int .i64 k ∧ Pw b B (d ++ (m.orders.take k).flatMap orderD) w wB wx) (fun i _ => L - (intOf i).toNat)
  case atStart => exact ⟨0, by omega, rfl, by simpa using P1.out⟩
  case round =>
    obtain ⟨k, hk, rfl, hPk⟩ := hrel
    have PK := Lib.hid hPk
    clear hPk P1 m0 m1 m2 m3 m4 m5 m6 m7
    by_cases hlt : k < L
    · have zk : (k : Int) < (L : Int) := by omega
      have hko : k < m.orders.length := by rw [HL.out]; exact hlt
      obtain ⟨q, o, rfl, hcc⟩ := HHH.out (by omega)
      obtain ⟨p, hp⟩ : ∃ p, m.orders[k]? = some p := ⟨_, List.getElem?_eq_getElem hko⟩
      have hcp := hcc k p hp
      have hq : q < wB.heap.size := World.block_lt_of_cell? wB _ hcp.1
      have d0 := (PK.out.old.cell (p := ⟨q, o + k * 2, none⟩) hq (by show ¬ B ≤ q; omega)).trans hcp.1
      have d1 := (PK.out.old.cell (p := ⟨q, o + k * 2 + 1, none⟩) hq (by show ¬ B ≤ q; omega)).trans hcp.2
      have hpf := HFF.out p (List.mem_of_getElem? hp)
      have HSN := Lib.hid (flat_take orderD m.orders k p hp)
      have HFL := Lib.hid (show (d ++ (m.orders.take k).flatMap orderD).length ≤ 100000000 from by rw [List.length_append, ordersD_len, List.length_take]; have := HD.out; omega)
      have HPF := Lib.hid hpf
      clear hcp hcc hp hpf hko
      go_upto_region 4 with (fail)
      obtain ⟨eb, heb⟩ : ∃ g, wr.heap.size = g := ⟨_, rfl⟩
      generalize hw2 : World.alloc wr _ = w2
      have E2 := Lib.hid (show Is w2 eb 85 #[.int .u32 (p.ssrc : Nat), .int .u8 (p.no : Nat)] from by rw [← hw2, ← heb]; exact Is.made _ _ _)
      have P2 := Lib.hid (show Pw b B (d ++ (m.orders.take k).flatMap orderD) w wB w2 from by rw [← hw2]; exact PK.out.go ((Only.refl _ _).alloc _))
      rw [heb]
      clear hw2 heb d0 d1
      refine puto4 b B eb _ wB p HPF.out HFL.out _ _ _ _ _ _ _ _ _ _ _ _ _ _ _ _ _ _ _ _ _ _ _ w2 E2.out P2.out.here ?_
      rintro y13 y14 y15 y16 y17 y18 y19 y20 y21 y22 w3 hP3
      have P3 := Lib.hid (show Pw b B (d ++ (m.orders.take (k + 1)).flatMap orderD) w wB w3 from by rw [HSN.out]; have h := hP3.from_ P2.out.far; simpa only [orderD, List.append_assoc] using h)
      clear hP3
      go_wp2
      exact ⟨⟨k + 1, by omega, by go_num, P3.out⟩, by simp [intOf]; omega⟩
    · obtain rfl : k = L := by omega
      have hp := PK.out
      rw [List.take_of_length_le (by rw [HL.out]; exact Nat.le_refl _)] at hp
      have HPE := Lib.hid hp
      clear hp
      go_wp2
      go_end0
      exact ⟨rfl, HPE.out⟩
end Go.Proofs.Ytoibllmijkggnaa
