/- easellaw03.same of elements that are the same; refs. Conditions: as each says. -/
import Derived.Test.YtcgfmjdlningpaaExB
import Derived.Test.YtcgfmjdlningpaaRegB
import Derived.Test.YtcgfmjdlningpaaSameB
import Derived.Test.YtcgfmjdlningpaaRefA
set_option linter.unusedVariables false
namespace Go.Proofs.Ytcgfmjdlningpaa
open Go.RowKit

theorem xsame_yes (va vb : Value) (xs : List Nat) (w : World) (ha : Src w va xs) (hb : Src w vb xs) (hl : xs.length ≤ 140737488355328) :
    Calls Try.prog 22 #[va, vb] w fun e w' => e = .returned (.bool true) ∧ Only (fun _ => False) w w' := by
  refine (same_is va vb xs xs w ha hb hl).mono ?_
  rintro e w' ⟨rfl, n, rfl⟩
  exact ⟨by simp, (Only.refl _ w).drewN n⟩
/-- Amid a round. -/
structure Sms (x : El) (g1 o1 g2 o2 k : Nat) (u1 u2 : Value) (w wx : World) : Prop where
  a0 : wx.cell? ⟨g1, o1 + k * 2, none⟩ = some (.int .u8 (x.id : Nat))
  a1 : wx.cell? ⟨g1, o1 + k * 2 + 1, none⟩ = some u1
  b0 : wx.cell? ⟨g2, o2 + k * 2, none⟩ = some (.int .u8 (x.id : Nat))
  b1 : wx.cell? ⟨g2, o2 + k * 2 + 1, none⟩ = some u2
  s1 : Src wx u1 x.data
  s2 : Src wx u2 x.data
  pure : Only (fun _ => False) w wx
theorem Sms.go {x : El} {g1 o1 g2 o2 k : Nat} {u1 u2 : Value} {w wx wy : World} (h : Sms x g1 o1 g2 o2 k u1 u2 w wx) (ho : Only (fun _ => False) wx wy) : Sms x g1 o1 g2 o2 k u1 u2 w wy :=
  ⟨(ho.cell (World.block_lt_of_cell? _ _ h.a0) (by simp)).trans h.a0, (ho.cell (World.block_lt_of_cell? _ _ h.a1) (by simp)).trans h.a1, (ho.cell (World.block_lt_of_cell? _ _ h.b0) (by simp)).trans h.b0, (ho.cell (World.block_lt_of_cell? _ _ h.b1) (by simp)).trans h.b1, h.s1.of_only ho, h.s2.of_only ho, only_more h.pure ho⟩

set_option maxRecDepth 100000 in
set_option maxHeartbeats 4000000 in
theorem lsame_is (va vb : Value) (l : List El) (w : World) (ha : RdE w va l) (hb : RdE w vb l) (hl : l.length ≤ 1000000) (hd : ∀ x ∈ l, x.data.length ≤ 1000000) (hf : ∀ x ∈ l, x.id < 256) :
    Calls Try.prog 26 #[va, vb] w fun e w' => e = .returned (.bool true) ∧ Only (fun _ => False) w w' := by
  obtain ⟨A1, c1, rfl, hlc1, hh1⟩ := ha
  obtain ⟨A2, c2, rfl, hlc2, hh2⟩ := hb
  have HD := Lib.hid hd
  have HF := Lib.hid hf
  have H1 := Lib.hid hh1
  have H2 := Lib.hid hh2
  obtain ⟨L, hL⟩ : ∃ L, l.length = L := ⟨_, rfl⟩
  have HL := Lib.hid hL
  rw [hL] at hl hlc1 hlc2 ⊢
  have eL : ((L : Int) != (L : Int)) = false := by simp
  clear hd hf hL hh1 hh2
  go_enter Try.func26, Try.ntmps26
  go_wp2
  go_loopw [5] (fun i wr => ∃ k : Nat, k ≤ L ∧ i = .int .i64 k ∧ Only (fun _ => False) w wr) (fun i _ => L - (intOf i).toNat)
  case atStart => exact ⟨0, by omega, rfl, Only.refl _ _⟩
  case round =>
    obtain ⟨k, hk, rfl, ho⟩ := hrel
    have O1 := Lib.hid ho
    clear ho
    by_cases hkl : k < L
    · have hkb : k < l.length := by rw [HL.out]; exact hkl
      obtain ⟨x, hx⟩ : ∃ x, l[k]? = some x := ⟨_, List.getElem?_eq_getElem hkb⟩
      obtain ⟨g1, o1, rfl, hcell1⟩ := H1.out (by rw [HL.out]; omega)
      obtain ⟨g2, o2, rfl, hcell2⟩ := H2.out (by rw [HL.out]; omega)
      obtain ⟨u1, p1, s1⟩ := hcell1 k x hx
      obtain ⟨u2, p2, s2⟩ := hcell2 k x hx
      have hm := List.mem_of_getElem? hx
      have hxl := HD.out x hm
      have hxf := HF.out x hm
      obtain ⟨a0, a1⟩ := p1.only O1.out
      obtain ⟨b0, b1⟩ := p2.only O1.out
      have SM := Lib.hid (show Sms x g1 o1 g2 o2 k u1 u2 w wr from ⟨a0, a1, b0, b1, s1.of_only O1.out, s2.of_only O1.out, O1.out⟩)
      obtain ⟨Au1, cu1, rfl⟩ := s1.slice
      obtain ⟨Au2, cu2, rfl⟩ := s2.slice
      have hkI : (k : Int) < (L : Int) := by omega
      have en : ((x.id : Int) != (x.id : Int)) = false := by simp
      clear hcell1 hcell2 p1 p2 s1 s2 a0 a1 b0 b1 hx hm hkb
      go_upto_region 6 with (fail)
      refine wp_region_posts [[], [], [0, 1], [2, 0, 1], [3, 2, 0, 1], [], [], [5, 6], [7, 5, 6], [8, 7, 5, 6], [4, 9, 3, 2, 0, 1, 8, 7, 5, 6], [10, 4, 9, 3, 2, 0, 1, 8, 7, 5, 6], [11, 10, 4, 9, 3, 2, 0, 1, 8, 7, 5, 6], [11, 10, 4, 9, 3, 2, 0, 1, 8, 7, 5, 6], [12, 13, 11, 10, 4, 9, 3, 2, 0, 1, 8, 7, 5, 6], [14, 11, 12, 13, 10, 4, 9, 3, 2, 0, 1, 8, 7, 5, 6], [15, 11, 14, 12, 13, 10, 4, 9, 3, 2, 0, 1, 8, 7, 5, 6], [11, 10, 4, 9, 3, 2, 0, 1, 8, 7, 5, 6], [11, 10, 4, 9, 3, 2, 0, 1, 8, 7, 5, 6], [17, 18, 11, 10, 4, 9, 3, 2, 0, 1, 8, 7, 5, 6], [19, 11, 17, 18, 10, 4, 9, 3, 2, 0, 1, 8, 7, 5, 6], [20, 11, 19, 17, 18, 10, 4, 9, 3, 2, 0, 1, 8, 7, 5, 6], [16, 21, 11, 15, 14, 12, 13, 10, 4, 9, 3, 2, 0, 1, 8, 7, 5, 6, 20, 19, 17, 18], [22, 11, 16, 21, 15, 14, 12, 13, 10, 4, 9, 3, 2, 0, 1, 8, 7, 5, 6, 20, 19, 17, 18], [11, 23, 10, 4, 9, 3, 2, 0, 1, 8, 7, 5, 6, 22, 16, 21, 15, 14, 12, 13, 20, 19, 17, 18]] [22] [] [[], [], [], [], [], [], [], [], [], [], [], [], [], [], [], [], [], [], [], [], [], [], [], [], []] [[], [], [], [], [], [], [], [], [], [], [], [], [], [], [], [], [], [], [], [], [], [], [], [], []] [] [] [] []
          [some ?v0, some ?v1, some ?v2, some ?v3, some ?v4, some ?v5, some ?v6, some ?v7, some ?v8, some ?v9, some ?v10, some ?v11, some ?v12, some ?v13, some ?v14, some ?v15, some ?v16, some ?v17, some ?v18, some ?v19, some ?v20, some ?v21, some (.bool true), some ?v23, some ?v24]
          ?T (fun wx => Sms x g1 o1 g2 o2 k (.slice Au1 x.data.length cu1) (.slice Au2 x.data.length cu2) w wx) ?W ?E (by kernel_rfl) (by kernel_rfl) (by kernel_rfl) (fun x => ?hT) ?hF ?hini (Reg.all_ops ?runs) ?pres ?fin
      case W => exact fun j x w' => True
      case E => exact fun _ w' w'' => True
      case hT =>
        simp only [Reg.fillV, Act.put, List.setIfInBounds_toArray, List.set_cons_zero, List.set_cons_succ]
        rfl
      case runs =>
        refine And.intro ?_ ?_
        · refine Reg.ob_pure (fun _ => rfl) rfl rfl rfl rfl (fun x w1 hF => ?_)
          have a0 := hF.a0
          have a1 := hF.a1
          have b0 := hF.b0
          have b1 := hF.b1
          go_simp
          with_reducible rfl
        refine And.intro ?_ ?_
        · refine Reg.ob_pure (fun _ => rfl) rfl rfl rfl rfl (fun x w1 hF => ?_)
          have a0 := hF.a0
          have a1 := hF.a1
          have b0 := hF.b0
          have b1 := hF.b1
          go_simp
          with_reducible rfl
        refine And.intro ?_ ?_
        · refine Reg.ob_pure (fun _ => rfl) rfl rfl rfl rfl (fun x w1 hF => ?_)
          have a0 := hF.a0
          have a1 := hF.a1
          have b0 := hF.b0
          have b1 := hF.b1
          go_simp
          with_reducible rfl
        refine And.intro ?_ ?_
        · refine Reg.ob_pure (fun _ => rfl) rfl rfl rfl rfl (fun x w1 hF => ?_)
          have a0 := hF.a0
          have a1 := hF.a1
          have b0 := hF.b0
          have b1 := hF.b1
          go_simp
          with_reducible rfl
        refine And.intro ?_ ?_
        · refine Reg.ob_pure (fun _ => rfl) rfl rfl rfl rfl (fun x w1 hF => ?_)
          have a0 := hF.a0
          have a1 := hF.a1
          have b0 := hF.b0
          have b1 := hF.b1
          go_simp
          with_reducible rfl
        refine And.intro ?_ ?_
        · refine Reg.ob_pure (fun _ => rfl) rfl rfl rfl rfl (fun x w1 hF => ?_)
          have a0 := hF.a0
          have a1 := hF.a1
          have b0 := hF.b0
          have b1 := hF.b1
          go_simp
          with_reducible rfl
        refine And.intro ?_ ?_
        · refine Reg.ob_pure (fun _ => rfl) rfl rfl rfl rfl (fun x w1 hF => ?_)
          have a0 := hF.a0
          have a1 := hF.a1
          have b0 := hF.b0
          have b1 := hF.b1
          go_simp
          with_reducible rfl
        refine And.intro ?_ ?_
        · refine Reg.ob_pure (fun _ => rfl) rfl rfl rfl rfl (fun x w1 hF => ?_)
          have a0 := hF.a0
          have a1 := hF.a1
          have b0 := hF.b0
          have b1 := hF.b1
          go_simp
          with_reducible rfl
        refine And.intro ?_ ?_
        · refine Reg.ob_pure (fun _ => rfl) rfl rfl rfl rfl (fun x w1 hF => ?_)
          have a0 := hF.a0
          have a1 := hF.a1
          have b0 := hF.b0
          have b1 := hF.b1
          go_simp
          with_reducible rfl
        refine And.intro ?_ ?_
        · refine Reg.ob_pure (fun _ => rfl) rfl rfl rfl rfl (fun x w1 hF => ?_)
          have a0 := hF.a0
          have a1 := hF.a1
          have b0 := hF.b0
          have b1 := hF.b1
          go_simp
          with_reducible rfl
        refine And.intro ?_ ?_
        · refine Reg.ob_pure (fun _ => rfl) rfl rfl rfl rfl (fun x w1 hF => ?_)
          have a0 := hF.a0
          have a1 := hF.a1
          have b0 := hF.b0
          have b1 := hF.b1
          go_simp
          with_reducible rfl
        refine And.intro ?_ ?_
        · refine Reg.ob_pure (fun _ => rfl) rfl rfl rfl rfl (fun x w1 hF => ?_)
          have a0 := hF.a0
          have a1 := hF.a1
          have b0 := hF.b0
          have b1 := hF.b1
          go_simp
          with_reducible rfl
        refine And.intro ?_ ?_
        · refine Reg.ob_pure (fun _ => rfl) rfl rfl rfl rfl (fun x w1 hF => ?_)
          have a0 := hF.a0
          have a1 := hF.a1
          have b0 := hF.b0
          have b1 := hF.b1
          go_simp
          with_reducible rfl
        refine And.intro ?_ ?_
        · refine Reg.ob_pure (fun _ => rfl) rfl rfl rfl rfl (fun x w1 hF => ?_)
          have a0 := hF.a0
          have a1 := hF.a1
          have b0 := hF.b0
          have b1 := hF.b1
          go_simp
          with_reducible rfl
        refine And.intro ?_ ?_
        · refine Reg.ob_pure (fun _ => rfl) rfl rfl rfl rfl (fun x w1 hF => ?_)
          have a0 := hF.a0
          have a1 := hF.a1
          have b0 := hF.b0
          have b1 := hF.b1
          go_simp
          with_reducible rfl
        refine And.intro ?_ ?_
        · refine Reg.ob_pure (fun _ => rfl) rfl rfl rfl rfl (fun x w1 hF => ?_)
          have a0 := hF.a0
          have a1 := hF.a1
          have b0 := hF.b0
          have b1 := hF.b1
          go_simp
          with_reducible rfl
        refine And.intro ?_ ?_
        · refine Reg.ob_pure (fun _ => rfl) rfl rfl rfl rfl (fun x w1 hF => ?_)
          have a0 := hF.a0
          have a1 := hF.a1
          have b0 := hF.b0
          have b1 := hF.b1
          go_simp
          with_reducible rfl
        refine And.intro ?_ ?_
        · refine Reg.ob_pure (fun _ => rfl) rfl rfl rfl rfl (fun x w1 hF => ?_)
          have a0 := hF.a0
          have a1 := hF.a1
          have b0 := hF.b0
          have b1 := hF.b1
          go_simp
          with_reducible rfl
        refine And.intro ?_ ?_
        · refine Reg.ob_pure (fun _ => rfl) rfl rfl rfl rfl (fun x w1 hF => ?_)
          have a0 := hF.a0
          have a1 := hF.a1
          have b0 := hF.b0
          have b1 := hF.b1
          go_simp
          with_reducible rfl
        refine And.intro ?_ ?_
        · refine Reg.ob_pure (fun _ => rfl) rfl rfl rfl rfl (fun x w1 hF => ?_)
          have a0 := hF.a0
          have a1 := hF.a1
          have b0 := hF.b0
          have b1 := hF.b1
          go_simp
          with_reducible rfl
        refine And.intro ?_ ?_
        · refine Reg.ob_pure (fun _ => rfl) rfl rfl rfl rfl (fun x w1 hF => ?_)
          have a0 := hF.a0
          have a1 := hF.a1
          have b0 := hF.b0
          have b1 := hF.b1
          go_simp
          with_reducible rfl
        refine And.intro ?_ ?_
        · refine Reg.ob_pure (fun _ => rfl) rfl rfl rfl rfl (fun x w1 hF => ?_)
          have a0 := hF.a0
          have a1 := hF.a1
          have b0 := hF.b0
          have b1 := hF.b1
          go_simp
          with_reducible rfl
        refine And.intro ?_ ?_
        · refine Reg.ob_known (fun _ => rfl) rfl rfl (fun x w1 hF hU K hK => ?_)
          replace hF := hF rfl
          go_simp
          refine (xsame_yes _ _ _ _ hF.s1 hF.s2 (by omega)).mono ?_
          rintro e w3 ⟨rfl, ho⟩
          exact hK w3 (fun _ _ _ => hF.go ho) trivial
        refine And.intro ?_ ?_
        · refine Reg.ob_pure (fun _ => rfl) rfl rfl rfl rfl (fun x w1 hF => ?_)
          have a0 := hF.a0
          have a1 := hF.a1
          have b0 := hF.b0
          have b1 := hF.b1
          go_simp
          with_reducible rfl
        refine And.intro ?_ ?_
        · refine Reg.ob_pure (fun _ => rfl) rfl rfl rfl rfl (fun x w1 hF => ?_)
          have a0 := hF.a0
          have a1 := hF.a1
          have b0 := hF.b0
          have b1 := hF.b1
          go_simp
          with_reducible rfl
        exact trivial
      case hF =>
        exact SM.out.go ((Only.refl _ _).drewN 1)
      case hini =>
        exact trivial
      case pres =>
        intro i hi j hj hc x w1 w2 hF hE hW
        trivial
      case fin =>
        rintro x w9 hF -
        replace hF := hF rfl
        have PU := Lib.hid hF.pure
        clear hF
        go_wp2
        refine ⟨⟨k + 1, by omega, by go_num, PU.out⟩, by simp [intOf]; omega⟩
    · obtain rfl : k = L := by omega
      go_wp2
      go_ret
      exact ⟨rfl, O1.out⟩
end Go.Proofs.Ytcgfmjdlningpaa
