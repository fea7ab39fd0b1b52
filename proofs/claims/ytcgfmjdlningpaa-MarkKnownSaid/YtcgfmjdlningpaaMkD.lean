/- The reference's Parse. Conditions: as each says. -/
import Derived.Test.YtcgfmjdlningpaaMkC
set_option linter.unusedVariables false
namespace Go.Proofs.Ytcgfmjdlningpaa
open Go.RowKit

set_option maxRecDepth 100000 in
set_option maxHeartbeats 1000000 in
theorem rmk_par_bad (v : Value) (bs : List Nat) (w : World) (hs : Src w v bs) (h : bs.length ≠ 3 ∧ (bs.length ≠ 1 ∨ bt bs 0 % 16 ≠ 0)) (hb : ∀ x ∈ bs, x < 256) : Calls Try.prog 45 #[v] w (MkParA bs w) := by
  have HE := Lib.hid (show MkParA bs w = fun e w' => e = .returned (.tuple #[.agg Mk.zero.cells, .int .i64 (40 : Nat)]) ∧ Only (fun _ => False) w w' from by
    have hn : ¬ (bs.length = 1 ∧ bt bs 0 % 16 = 0) := fun k => by rcases h.2 with h2 | h2; exact h2 k.1; exact h2 k.2
    have e1 : mkErr bs = 40 := by unfold mkErr; rw [if_neg h.1, if_neg hn]
    have e2 : mkOf bs = Mk.zero := by unfold mkOf; rw [if_neg h.1, if_neg hn]
    unfold MkParA
    rw [e1, e2])
  rw [HE.out]
  have z3 : ((bs.length : Int) != 3) = true := by simp; omega
  have HV := Lib.hid (Mk.one Mk.zero)
  by_cases h1 : bs.length = 1
  · obtain ⟨b, rfl⟩ : ∃ b, bs = [b] := by
      match bs, h1 with
      | [b], _ => exact ⟨b, rfl⟩
    have h16 : b % 16 ≠ 0 := by
      rcases h.2 with h2 | h2
      · exact absurd h1 h2
      · exact h2
    have hb0 := hb b (by simp)
    obtain ⟨g, o, c, rfl, hcell⟩ := hs.at_ (by simp)
    have q0 := hcell 0 (by simp)
    simp at q0
    have P0 := Lib.hid (show Only (fun _ => False) w (w.alloc (.cells Mk.zero.cells 71)) from (Only.refl _ w).alloc _)
    have q1 := (P0.out.cell (World.block_lt_of_cell? _ _ q0) (by simp)).trans q0
    have e16 : ((b : Int) % 16 != 0) = true := by simp; omega
    clear h hs hcell h1 h16 hb HE z3 q0
    go_enter Try.func45, Try.ntmps45
    go_upto_region 1 with (fail)
    have HO := Lib.hid (Is.made w 71 Mk.zero.cells)
    generalize hw0 : World.alloc _ _ = w0
    rw [show w.alloc (.cells Mk.zero.cells 71) = w0 from hw0] at HO P0 q1
    clear hw0
    go_wp2_with (refine wpList_store_is (o := ⟨none, _, _, _, _, _⟩) rfl 71 _ _ rfl w.heap.size Mk.zero.cells rfl rfl 71 Mk.zero.cells HO.out Try.sizeRm rfl HV.out ?_; intro w2 hi2 ho2)
    exact bodyPost_ret (res_cell Try.results45 _ w2 w.heap.size 71 Mk.zero.cells _ (.int .i64 40) rfl rfl hi2 Try.underlying71 rfl Try.sizeRm) rfl ⟨rfl, P0.out.trans ho2 (fun i hi e => by omega)⟩
  · have z1 : ((bs.length : Int) != 1) = true := by simp; omega
    obtain ⟨A, c, rfl⟩ := hs.slice
    clear h hs h1 HE hb
    generalize bs.length = L at *
    go_enter Try.func45, Try.ntmps45
    go_wp2_with (refine wpList_store_is (o := ⟨none, _, _, _, _, _⟩) rfl 71 _ _ rfl w.heap.size Mk.zero.cells rfl rfl 71 Mk.zero.cells (Is.made w _ Mk.zero.cells) Try.sizeRm rfl HV.out ?_; intro w2 hi2 ho2)
    exact bodyPost_ret (res_cell Try.results45 _ w2 w.heap.size 71 Mk.zero.cells _ (.int .i64 40) rfl rfl hi2 Try.underlying71 rfl Try.sizeRm) rfl ⟨rfl, only_made ho2⟩

/-- What the first byte tells of any marking. -/
def mkFour (b : Nat) : Mk := ⟨hasb b 128, hasb b 64, hasb b 32, hasb b 16, false, false, 0, 0, 0⟩
theorem four_bits (b : Nat) (h : b < 256) : decide ((128 : Int) ≤ (b : Int)) = hasb b 128 ∧ ((IntKind.u8.wrap ((b : Int) / 64)).tmod 2 == 1) = hasb b 64 ∧ ((IntKind.u8.wrap ((b : Int) / 32)).tmod 2 == 1) = hasb b 32 ∧ ((IntKind.u8.wrap ((b : Int) / 16)).tmod 2 == 1) = hasb b 16 := by
  have : ∀ i : Fin 256, decide ((128 : Int) ≤ ((i.val : Nat) : Int)) = hasb i.val 128 ∧ ((IntKind.u8.wrap (((i.val : Nat) : Int) / 64)).tmod 2 == 1) = hasb i.val 64 ∧ ((IntKind.u8.wrap (((i.val : Nat) : Int) / 32)).tmod 2 == 1) = hasb i.val 32 ∧ ((IntKind.u8.wrap (((i.val : Nat) : Int) / 16)).tmod 2 == 1) = hasb i.val 16 := by decide +kernel
  exact this ⟨b, h⟩
/-- Amid Parse: the first byte, the answer's block. -/
structure Rpr (g o b rb : Nat) (w wx : World) : Prop where
  c0 : wx.cell? ⟨g, o, none⟩ = some (.int .u8 (b : Nat))
  ans : Is wx rb 71 Mk.zero.cells
  pure : Only (fun _ => False) w wx
theorem Rpr.go {g o b rb : Nat} {w wx wy : World} (h : Rpr g o b rb w wx) (ho : Only (fun _ => False) wx wy) : Rpr g o b rb w wy :=
  ⟨(ho.cell (World.block_lt_of_cell? _ _ h.c0) (by simp)).trans h.c0, h.ans.only ho (by simp), only_more h.pure ho⟩
theorem Rpr.put {g o b rb pb : Nat} {w wx wy : World} (h : Rpr g o b rb w wx) (hg : g < w.heap.size) (hr : rb < w.heap.size) (hp : w.heap.size ≤ pb) (ho : Only (fun k => k = pb) wx wy) : Rpr g o b rb w wy :=
  ⟨(ho.cell (World.block_lt_of_cell? _ _ h.c0) (by show g ≠ pb; omega)).trans h.c0, h.ans.only ho (by omega), h.pure.trans ho (fun i hi e => by omega)⟩
/-- Behind region 3: where the marking lies. -/
def Rmid (g o b rb : Nat) (w : World) (pb : Nat) (wx : World) : Prop := w.heap.size ≤ pb ∧ Is wx pb 71 (mkFour b).cells ∧ Rpr g o b rb w wx

set_option maxRecDepth 100000 in
set_option maxHeartbeats 2000000 in
theorem rmk_par_one (v : Value) (b : Nat) (w : World) (hs : Src w v [b]) (hb : b < 256) (h16 : b % 16 = 0) : Calls Try.prog 45 #[v] w (MkParA [b] w) := by
  have HE := Lib.hid (show MkParA [b] w = fun e w' => e = .returned (.tuple #[.agg (mkFour b).cells, .int .i64 (0 : Nat)]) ∧ Only (fun _ => False) w w' from by
    have e1 : mkErr [b] = 0 := by unfold mkErr; rw [if_neg (by simp), if_pos ⟨rfl, h16⟩]
    have e2 : mkOf [b] = mkFour b := by
      unfold mkOf mkFour
      rw [if_neg (by simp), if_pos ⟨rfl, h16⟩]
      rfl
    unfold MkParA
    rw [e1, e2])
  rw [HE.out]
  obtain ⟨g, o, c, rfl, hcell⟩ := hs.at_ (by simp)
  have q0 := hcell 0 (by simp)
  simp at q0
  have P0 := Lib.hid (show Only (fun _ => False) w (w.alloc (.cells Mk.zero.cells 71)) from (Only.refl _ w).alloc _)
  have q1 := (P0.out.cell (World.block_lt_of_cell? _ _ q0) (by simp)).trans q0
  have e16 : ((b : Int) % 16 != 0) = false := by simp; omega
  have HV := Lib.hid (Mk.one (mkFour b))
  have HB4 := Lib.hid (four_bits b hb)
  clear hs hcell h16 HE q0
  go_enter Try.func45, Try.ntmps45
  go_upto_region 1 with (fail)
  have HO := Lib.hid (Is.made w 71 Mk.zero.cells)
  generalize hw0 : World.alloc _ _ = w0
  rw [show w.alloc (.cells Mk.zero.cells 71) = w0 from hw0] at HO P0 q1
  clear hw0
  go_upto_region 3 with (fail)
  have S0 := Lib.hid (show Rpr g o b w.heap.size w0 w0 from ⟨q1, HO.out, Only.refl _ _⟩)
  have HG0 := Lib.hid (show g < w0.heap.size ∧ w.heap.size < w0.heap.size from ⟨World.block_lt_of_cell? _ _ q1, HO.out.lt⟩)
  obtain ⟨rb, hrb⟩ : ∃ k, w.heap.size = k := ⟨_, rfl⟩
  have HRB := Lib.hid hrb
  rw [hrb] at S0 HG0 HO ⊢
  clear hrb q1 e16
  refine wp_region_posts [[], [0], [1, 0], [2, 1, 0], [], [4], [5, 4], [6, 5, 4], [7, 6, 5, 4], [8, 7, 6, 5, 4], [], [10], [11, 10], [12, 11, 10], [13, 12, 11, 10], [14, 13, 12, 11, 10], [], [16], [17, 16], [18, 17, 16], [19, 18, 17, 16], [20, 19, 18, 17, 16], [3, 9, 15, 21, 2, 1, 0, 8, 7, 6, 5, 4, 14, 13, 12, 11, 10, 20, 19, 18, 17, 16], [], [23, 22, 0, 1, 2, 3, 4, 5, 6, 7, 8, 9, 10, 11, 12, 13, 14, 15, 16, 17, 18, 19, 20, 21]] [23, 24] [23, 24] [[], [], [], [], [], [], [], [], [], [], [], [], [], [], [], [], [], [], [], [], [], [], [], [], [23]] [[], [], [], [], [], [], [], [], [], [], [], [], [], [], [], [], [], [], [], [], [], [], [], [], [23]] [24] [] [] []
      [some ?v0, some ?v1, some ?v2, some (.bool (hasb b 128)), some ?v4, some ?v5, some ?v6, some ?v7, some ?v8, some (.bool (hasb b 64)), some ?v10, some ?v11, some ?v12, some ?v13, some ?v14, some (.bool (hasb b 32)), some ?v16, some ?v17, some ?v18, some ?v19, some ?v20, some (.bool (hasb b 16)), some (.agg (mkFour b).cells), none, none]
      ?T (fun wx => Rpr g o b rb w0 wx) ?W ?E (by kernel_rfl) (by kernel_rfl) (by kernel_rfl) (fun x => ?hT) ?hF ?hini (Reg.all_ops ?runs) ?pres ?fin
  case W => exact fun j x w' => match j with | 23 => ∃ pb, x 23 = .pointer (some ⟨pb, 0, none⟩) ∧ w0.heap.size ≤ pb ∧ Is w' pb 71 Mk.zero.cells | 24 => ∃ pb, x 23 = .pointer (some ⟨pb, 0, none⟩) ∧ w0.heap.size ≤ pb ∧ Is w' pb 71 (mkFour b).cells | _ => True
  case E => exact fun _ w' w'' => True
  case hT =>
    simp only [Reg.fillV, Act.put, List.setIfInBounds_toArray, List.set_cons_zero, List.set_cons_succ]
    rfl
  case runs =>
    refine And.intro ?_ ?_
    · refine Reg.ob_pure (fun _ => rfl) rfl rfl rfl rfl (fun x w1 hF => ?_)
      have q0 := hF.c0
      go_simp
      with_reducible rfl
    refine And.intro ?_ ?_
    · refine Reg.ob_pure (fun _ => rfl) rfl rfl rfl rfl (fun x w1 hF => ?_)
      have q0 := hF.c0
      go_simp
      with_reducible rfl
    refine And.intro ?_ ?_
    · refine Reg.ob_pure (fun _ => rfl) rfl rfl rfl rfl (fun x w1 hF => ?_)
      have q0 := hF.c0
      go_simp
      with_reducible rfl
    refine And.intro ?_ ?_
    · refine Reg.ob_pure (fun _ => rfl) rfl rfl rfl rfl (fun x w1 hF => ?_)
      have q0 := hF.c0
      obtain ⟨h1, h2, h3, h4⟩ := HB4.out
      go_simp
    refine And.intro ?_ ?_
    · refine Reg.ob_pure (fun _ => rfl) rfl rfl rfl rfl (fun x w1 hF => ?_)
      have q0 := hF.c0
      go_simp
      with_reducible rfl
    refine And.intro ?_ ?_
    · refine Reg.ob_pure (fun _ => rfl) rfl rfl rfl rfl (fun x w1 hF => ?_)
      have q0 := hF.c0
      go_simp
      with_reducible rfl
    refine And.intro ?_ ?_
    · refine Reg.ob_pure (fun _ => rfl) rfl rfl rfl rfl (fun x w1 hF => ?_)
      have q0 := hF.c0
      go_simp
      with_reducible rfl
    refine And.intro ?_ ?_
    · refine Reg.ob_pure (fun _ => rfl) rfl rfl rfl rfl (fun x w1 hF => ?_)
      have q0 := hF.c0
      go_simp
      with_reducible rfl
    refine And.intro ?_ ?_
    · refine Reg.ob_pure (fun _ => rfl) rfl rfl rfl rfl (fun x w1 hF => ?_)
      have q0 := hF.c0
      go_simp
      with_reducible rfl
    refine And.intro ?_ ?_
    · refine Reg.ob_pure (fun _ => rfl) rfl rfl rfl rfl (fun x w1 hF => ?_)
      obtain ⟨h1, h2, h3, h4⟩ := HB4.out
      go_simp
    refine And.intro ?_ ?_
    · refine Reg.ob_pure (fun _ => rfl) rfl rfl rfl rfl (fun x w1 hF => ?_)
      have q0 := hF.c0
      go_simp
      with_reducible rfl
    refine And.intro ?_ ?_
    · refine Reg.ob_pure (fun _ => rfl) rfl rfl rfl rfl (fun x w1 hF => ?_)
      have q0 := hF.c0
      go_simp
      with_reducible rfl
    refine And.intro ?_ ?_
    · refine Reg.ob_pure (fun _ => rfl) rfl rfl rfl rfl (fun x w1 hF => ?_)
      have q0 := hF.c0
      go_simp
      with_reducible rfl
    refine And.intro ?_ ?_
    · refine Reg.ob_pure (fun _ => rfl) rfl rfl rfl rfl (fun x w1 hF => ?_)
      have q0 := hF.c0
      go_simp
      with_reducible rfl
    refine And.intro ?_ ?_
    · refine Reg.ob_pure (fun _ => rfl) rfl rfl rfl rfl (fun x w1 hF => ?_)
      have q0 := hF.c0
      go_simp
      with_reducible rfl
    refine And.intro ?_ ?_
    · refine Reg.ob_pure (fun _ => rfl) rfl rfl rfl rfl (fun x w1 hF => ?_)
      obtain ⟨h1, h2, h3, h4⟩ := HB4.out
      go_simp
    refine And.intro ?_ ?_
    · refine Reg.ob_pure (fun _ => rfl) rfl rfl rfl rfl (fun x w1 hF => ?_)
      have q0 := hF.c0
      go_simp
      with_reducible rfl
    refine And.intro ?_ ?_
    · refine Reg.ob_pure (fun _ => rfl) rfl rfl rfl rfl (fun x w1 hF => ?_)
      have q0 := hF.c0
      go_simp
      with_reducible rfl
    refine And.intro ?_ ?_
    · refine Reg.ob_pure (fun _ => rfl) rfl rfl rfl rfl (fun x w1 hF => ?_)
      have q0 := hF.c0
      go_simp
      with_reducible rfl
    refine And.intro ?_ ?_
    · refine Reg.ob_pure (fun _ => rfl) rfl rfl rfl rfl (fun x w1 hF => ?_)
      have q0 := hF.c0
      go_simp
      with_reducible rfl
    refine And.intro ?_ ?_
    · refine Reg.ob_pure (fun _ => rfl) rfl rfl rfl rfl (fun x w1 hF => ?_)
      have q0 := hF.c0
      go_simp
      with_reducible rfl
    refine And.intro ?_ ?_
    · refine Reg.ob_pure (fun _ => rfl) rfl rfl rfl rfl (fun x w1 hF => ?_)
      obtain ⟨h1, h2, h3, h4⟩ := HB4.out
      go_simp
    refine And.intro ?_ ?_
    · refine Reg.ob_pure (fun _ => rfl) rfl rfl rfl rfl (fun x w1 hF => ?_)
      go_simp
      rfl
    refine And.intro ?_ ?_
    · refine Reg.ob_some (fun _ => rfl) rfl (fun x w1 hF hU K hK => ?_)
      replace hF := hF rfl
      go_simp
      exact hK _ _ (fun _ _ _ => hF.go ((Only.refl _ w1).alloc _)) trivial ⟨_, rfl, hF.pure.size, Is.made _ _ _⟩
    refine And.intro ?_ ?_
    · refine Reg.ob_some (fun _ => rfl) rfl (fun x w1 hF hU K hK => ?_)
      replace hF := hF rfl
      obtain ⟨⟨pb, h23, hpb, hI⟩, -⟩ := hU
      have h23 : x 23 = .pointer (some ⟨pb, 0, none⟩) := h23
      refine wp_store_row 71 _ _ rfl pb (mkFour b).cells (by simpa [Act.eval] using h23) rfl 71 Mk.zero.cells hI Try.sizeRm rfl HV.out ?_
      have ho : Only (fun k => k = pb) w1 (w1.setRow pb (mkFour b).cells) := Only.setRow (S := fun k => k = pb) (Only.refl _ w1) (fun _ => rfl) _
      exact hK undef _ (fun _ _ _ => hF.put HG0.out.1 HG0.out.2 hpb ho) trivial ⟨pb, h23, hpb, hI.setRow _⟩
    exact trivial
  case hF =>
    exact S0.out.go (only_drewN _ 1)
  case hini =>
    exact trivial
  case pres =>
    intro i hi j hj hc x w1 w2 hF hE hW
    exfalso
    revert hc
    simp only [List.mem_cons, List.mem_nil_iff, or_false] at hi hj
    rcases hi with rfl | rfl <;> rcases hj with rfl | rfl <;> decide
  case fin =>
    rintro x w9 hF ⟨⟨pb, h23, hpb, hI⟩, -⟩
    have h23 : x 23 = .pointer (some ⟨pb, 0, none⟩) := h23
    rw [h23]
    have S9 := Lib.hid (hF rfl)
    have I9 := Lib.hid hI
    clear hF hI h23
    go_wp2_with (first
      | (refine wpList_load_want rfl _ _ rfl pb rfl _ _ _ I9.out Try.underlying71 rfl Try.sizeRm ?_)
      | (refine wpList_store_is (o := ⟨none, _, _, _, _, _⟩) rfl 71 _ _ rfl rb (mkFour b).cells rfl rfl 71 Mk.zero.cells S9.out.ans Try.sizeRm rfl HV.out ?_; intro w4 hi4 ho4))
    exact bodyPost_ret (res_cell Try.results45 _ w4 rb 71 (mkFour b).cells _ (.int .i64 0) rfl rfl hi4 Try.underlying71 rfl Try.sizeRm) rfl ⟨rfl, (only_more P0.out S9.out.pure).trans ho4 (fun i hi e => by have := HRB.out; omega)⟩

set_option maxRecDepth 100000 in
set_option maxHeartbeats 4000000 in
theorem rmk_par_three (v : Value) (b b1 b2 : Nat) (w : World) (hs : Src w v [b, b1, b2]) (hb : b < 256) (hb1 : b1 < 256) (hb2 : b2 < 256) : Calls Try.prog 45 #[v] w (MkParA [b, b1, b2] w) := by
  have HE := Lib.hid (show MkParA [b, b1, b2] w = fun e w' => e = .returned (.tuple #[.agg (mkThree b b1 b2).cells, .int .i64 (0 : Nat)]) ∧ Only (fun _ => False) w w' from by
    have e1 : mkErr [b, b1, b2] = 0 := by unfold mkErr; rw [if_pos (by simp)]
    have e2 : mkOf [b, b1, b2] = mkThree b b1 b2 := by
      unfold mkOf mkThree
      rw [if_pos (by simp)]
      rfl
    unfold MkParA
    rw [e1, e2])
  rw [HE.out]
  obtain ⟨g, o, c, rfl, hcell⟩ := hs.at_ (by simp)
  have q0 := hcell 0 (by simp)
  have p1 := hcell 1 (by simp)
  have p2 := hcell 2 (by simp)
  simp at q0 p1 p2
  have P0 := Lib.hid (show Only (fun _ => False) w (w.alloc (.cells Mk.zero.cells 71)) from (Only.refl _ w).alloc _)
  have q1 := (P0.out.cell (World.block_lt_of_cell? _ _ q0) (by simp)).trans q0
  have P1 := Lib.hid ((P0.out.cell (World.block_lt_of_cell? _ _ p1) (by simp)).trans p1)
  have P2 := Lib.hid ((P0.out.cell (World.block_lt_of_cell? _ _ p2) (by simp)).trans p2)
  have HV := Lib.hid (Mk.one (mkFour b))
  have HVT := Lib.hid (Mk.one (mkThree b b1 b2))
  have HB4 := Lib.hid (four_bits b hb)
  have e8 : ((b : Int) / 8 % 2 == 1) = hasb b 8 := by unfold hasb; rw [Bool.eq_iff_iff]; simp; omega
  have E8 := Lib.hid e8
  clear hs hcell HE q0 p1 p2 e8
  go_enter Try.func45, Try.ntmps45
  go_upto_region 1 with (fail)
  have HO := Lib.hid (Is.made w 71 Mk.zero.cells)
  generalize hw0 : World.alloc _ _ = w0
  rw [show w.alloc (.cells Mk.zero.cells 71) = w0 from hw0] at HO P0 q1 P1 P2
  clear hw0
  go_upto_region 3 with (fail)
  have S0 := Lib.hid (show Rpr g o b w.heap.size w0 w0 from ⟨q1, HO.out, Only.refl _ _⟩)
  have HG0 := Lib.hid (show g < w0.heap.size ∧ w.heap.size < w0.heap.size from ⟨World.block_lt_of_cell? _ _ q1, HO.out.lt⟩)
  obtain ⟨rb, hrb⟩ : ∃ k, w.heap.size = k := ⟨_, rfl⟩
  have HRB := Lib.hid hrb
  rw [hrb] at S0 HG0 HO ⊢
  clear hrb q1
  refine wp_region_posts [[], [0], [1, 0], [2, 1, 0], [], [4], [5, 4], [6, 5, 4], [7, 6, 5, 4], [8, 7, 6, 5, 4], [], [10], [11, 10], [12, 11, 10], [13, 12, 11, 10], [14, 13, 12, 11, 10], [], [16], [17, 16], [18, 17, 16], [19, 18, 17, 16], [20, 19, 18, 17, 16], [3, 9, 15, 21, 2, 1, 0, 8, 7, 6, 5, 4, 14, 13, 12, 11, 10, 20, 19, 18, 17, 16], [], [23, 22, 0, 1, 2, 3, 4, 5, 6, 7, 8, 9, 10, 11, 12, 13, 14, 15, 16, 17, 18, 19, 20, 21]] [23, 24] [23, 24] [[], [], [], [], [], [], [], [], [], [], [], [], [], [], [], [], [], [], [], [], [], [], [], [], [23]] [[], [], [], [], [], [], [], [], [], [], [], [], [], [], [], [], [], [], [], [], [], [], [], [], [23]] [24] [] [] []
      [some ?v0, some ?v1, some ?v2, some (.bool (hasb b 128)), some ?v4, some ?v5, some ?v6, some ?v7, some ?v8, some (.bool (hasb b 64)), some ?v10, some ?v11, some ?v12, some ?v13, some ?v14, some (.bool (hasb b 32)), some ?v16, some ?v17, some ?v18, some ?v19, some ?v20, some (.bool (hasb b 16)), some (.agg (mkFour b).cells), none, none]
      ?T (fun wx => Rpr g o b rb w0 wx) ?W ?E (by kernel_rfl) (by kernel_rfl) (by kernel_rfl) (fun x => ?hT) ?hF ?hini (Reg.all_ops ?runs) ?pres ?fin
  case W => exact fun j x w' => match j with | 23 => ∃ pb, x 23 = .pointer (some ⟨pb, 0, none⟩) ∧ w0.heap.size ≤ pb ∧ Is w' pb 71 Mk.zero.cells | 24 => ∃ pb, x 23 = .pointer (some ⟨pb, 0, none⟩) ∧ w0.heap.size ≤ pb ∧ Is w' pb 71 (mkFour b).cells | _ => True
  case E => exact fun _ w' w'' => True
  case hT =>
    simp only [Reg.fillV, Act.put, List.setIfInBounds_toArray, List.set_cons_zero, List.set_cons_succ]
    rfl
  case runs =>
    refine And.intro ?_ ?_
    · refine Reg.ob_pure (fun _ => rfl) rfl rfl rfl rfl (fun x w1 hF => ?_)
      have q0 := hF.c0
      go_simp
      with_reducible rfl
    refine And.intro ?_ ?_
    · refine Reg.ob_pure (fun _ => rfl) rfl rfl rfl rfl (fun x w1 hF => ?_)
      have q0 := hF.c0
      go_simp
      with_reducible rfl
    refine And.intro ?_ ?_
    · refine Reg.ob_pure (fun _ => rfl) rfl rfl rfl rfl (fun x w1 hF => ?_)
      have q0 := hF.c0
      go_simp
      with_reducible rfl
    refine And.intro ?_ ?_
    · refine Reg.ob_pure (fun _ => rfl) rfl rfl rfl rfl (fun x w1 hF => ?_)
      have q0 := hF.c0
      obtain ⟨h1, h2, h3, h4⟩ := HB4.out
      go_simp
    refine And.intro ?_ ?_
    · refine Reg.ob_pure (fun _ => rfl) rfl rfl rfl rfl (fun x w1 hF => ?_)
      have q0 := hF.c0
      go_simp
      with_reducible rfl
    refine And.intro ?_ ?_
    · refine Reg.ob_pure (fun _ => rfl) rfl rfl rfl rfl (fun x w1 hF => ?_)
      have q0 := hF.c0
      go_simp
      with_reducible rfl
    refine And.intro ?_ ?_
    · refine Reg.ob_pure (fun _ => rfl) rfl rfl rfl rfl (fun x w1 hF => ?_)
      have q0 := hF.c0
      go_simp
      with_reducible rfl
    refine And.intro ?_ ?_
    · refine Reg.ob_pure (fun _ => rfl) rfl rfl rfl rfl (fun x w1 hF => ?_)
      have q0 := hF.c0
      go_simp
      with_reducible rfl
    refine And.intro ?_ ?_
    · refine Reg.ob_pure (fun _ => rfl) rfl rfl rfl rfl (fun x w1 hF => ?_)
      have q0 := hF.c0
      go_simp
      with_reducible rfl
    refine And.intro ?_ ?_
    · refine Reg.ob_pure (fun _ => rfl) rfl rfl rfl rfl (fun x w1 hF => ?_)
      obtain ⟨h1, h2, h3, h4⟩ := HB4.out
      go_simp
    refine And.intro ?_ ?_
    · refine Reg.ob_pure (fun _ => rfl) rfl rfl rfl rfl (fun x w1 hF => ?_)
      have q0 := hF.c0
      go_simp
      with_reducible rfl
    refine And.intro ?_ ?_
    · refine Reg.ob_pure (fun _ => rfl) rfl rfl rfl rfl (fun x w1 hF => ?_)
      have q0 := hF.c0
      go_simp
      with_reducible rfl
    refine And.intro ?_ ?_
    · refine Reg.ob_pure (fun _ => rfl) rfl rfl rfl rfl (fun x w1 hF => ?_)
      have q0 := hF.c0
      go_simp
      with_reducible rfl
    refine And.intro ?_ ?_
    · refine Reg.ob_pure (fun _ => rfl) rfl rfl rfl rfl (fun x w1 hF => ?_)
      have q0 := hF.c0
      go_simp
      with_reducible rfl
    refine And.intro ?_ ?_
    · refine Reg.ob_pure (fun _ => rfl) rfl rfl rfl rfl (fun x w1 hF => ?_)
      have q0 := hF.c0
      go_simp
      with_reducible rfl
    refine And.intro ?_ ?_
    · refine Reg.ob_pure (fun _ => rfl) rfl rfl rfl rfl (fun x w1 hF => ?_)
      obtain ⟨h1, h2, h3, h4⟩ := HB4.out
      go_simp
    refine And.intro ?_ ?_
    · refine Reg.ob_pure (fun _ => rfl) rfl rfl rfl rfl (fun x w1 hF => ?_)
      have q0 := hF.c0
      go_simp
      with_reducible rfl
    refine And.intro ?_ ?_
    · refine Reg.ob_pure (fun _ => rfl) rfl rfl rfl rfl (fun x w1 hF => ?_)
      have q0 := hF.c0
      go_simp
      with_reducible rfl
    refine And.intro ?_ ?_
    · refine Reg.ob_pure (fun _ => rfl) rfl rfl rfl rfl (fun x w1 hF => ?_)
      have q0 := hF.c0
      go_simp
      with_reducible rfl
    refine And.intro ?_ ?_
    · refine Reg.ob_pure (fun _ => rfl) rfl rfl rfl rfl (fun x w1 hF => ?_)
      have q0 := hF.c0
      go_simp
      with_reducible rfl
    refine And.intro ?_ ?_
    · refine Reg.ob_pure (fun _ => rfl) rfl rfl rfl rfl (fun x w1 hF => ?_)
      have q0 := hF.c0
      go_simp
      with_reducible rfl
    refine And.intro ?_ ?_
    · refine Reg.ob_pure (fun _ => rfl) rfl rfl rfl rfl (fun x w1 hF => ?_)
      obtain ⟨h1, h2, h3, h4⟩ := HB4.out
      go_simp
    refine And.intro ?_ ?_
    · refine Reg.ob_pure (fun _ => rfl) rfl rfl rfl rfl (fun x w1 hF => ?_)
      go_simp
      rfl
    refine And.intro ?_ ?_
    · refine Reg.ob_some (fun _ => rfl) rfl (fun x w1 hF hU K hK => ?_)
      replace hF := hF rfl
      go_simp
      exact hK _ _ (fun _ _ _ => hF.go ((Only.refl _ w1).alloc _)) trivial ⟨_, rfl, hF.pure.size, Is.made _ _ _⟩
    refine And.intro ?_ ?_
    · refine Reg.ob_some (fun _ => rfl) rfl (fun x w1 hF hU K hK => ?_)
      replace hF := hF rfl
      obtain ⟨⟨pb, h23, hpb, hI⟩, -⟩ := hU
      have h23 : x 23 = .pointer (some ⟨pb, 0, none⟩) := h23
      refine wp_store_row 71 _ _ rfl pb (mkFour b).cells (by simpa [Act.eval] using h23) rfl 71 Mk.zero.cells hI Try.sizeRm rfl HV.out ?_
      have ho : Only (fun k => k = pb) w1 (w1.setRow pb (mkFour b).cells) := Only.setRow (S := fun k => k = pb) (Only.refl _ w1) (fun _ => rfl) _
      exact hK undef _ (fun _ _ _ => hF.put HG0.out.1 HG0.out.2 hpb ho) trivial ⟨pb, h23, hpb, hI.setRow _⟩
    exact trivial
  case hF =>
    exact S0.out.go (only_drewN _ 1)
  case hini =>
    exact trivial
  case pres =>
    intro i hi j hj hc x w1 w2 hF hE hW
    exfalso
    revert hc
    simp only [List.mem_cons, List.mem_nil_iff, or_false] at hi hj
    rcases hi with rfl | rfl <;> rcases hj with rfl | rfl <;> decide
  case fin =>
    rintro x w9 hF ⟨⟨pb, h23, hpb, hI⟩, -⟩
    have h23 : x 23 = .pointer (some ⟨pb, 0, none⟩) := h23
    rw [h23]
    have S9 := Lib.hid (hF rfl)
    have I9 := Lib.hid hI
    clear hF hI h23
    have c0 := S9.out.c0
    have c1 := (S9.out.pure.cell (World.block_lt_of_cell? _ _ P1.out) (by simp)).trans P1.out
    have c2 := (S9.out.pure.cell (World.block_lt_of_cell? _ _ P2.out) (by simp)).trans P2.out
    have e8 := E8.out
    have f4 := I9.out.free 4
    have f5 := I9.out.free 5
    have f6 := I9.out.free 6
    have f7 := I9.out.free 7
    have f8 := I9.out.free 8
    have k4 := I9.out.cell 4
    have k5 := I9.out.cell 5
    have k6 := I9.out.cell 6
    have k7 := I9.out.cell 7
    have k8 := I9.out.cell 8
    simp [Mk.cells, mkFour] at k4 k5 k6 k7 k8
    have hgp : g ≠ pb := by have := HG0.out.1; omega
    go_upto_region 10 with (fail)
    generalize hT : World.setCell _ _ _ = T
    have I10 := Lib.hid (show Is T pb 71 (mkThree b b1 b2).cells from by
      rw [← hT]
      have h := ((((I9.out.put 4 (.bool true)).put 5 (.bool (hasb b 8))).put 6 (.int .u8 ((b : Int) % 8))).put 7 (.int .u8 (b1 : Nat))).put 8 (.int .u8 (b2 : Nat))
      have e : (((((mkFour b).cells.setIfInBounds 4 (.bool true)).setIfInBounds 5 (.bool (hasb b 8))).setIfInBounds 6 (.int .u8 ((b : Int) % 8))).setIfInBounds 7 (.int .u8 (b1 : Nat))).setIfInBounds 8 (.int .u8 (b2 : Nat)) = (mkThree b b1 b2).cells := by simp [mkFour, mkThree, Mk.cells]
      rw [← e]
      exact h)
    have O10 := Lib.hid (show Only (fun k => k = pb) w9 T from by
      rw [← hT]
      exact ((((((Only.refl (fun k => k = pb) w9).set (p := ⟨pb, 4, none⟩) (fun _ => rfl) _).set (p := ⟨pb, 5, none⟩) (fun _ => rfl) _).set (p := ⟨pb, 6, none⟩) (fun _ => rfl) _).set (p := ⟨pb, 7, none⟩) (fun _ => rfl) _).set (p := ⟨pb, 8, none⟩) (fun _ => rfl) _))
    have S10 := Lib.hid (S9.out.put HG0.out.1 HG0.out.2 hpb O10.out)
    clear hT k4 k5 k6 k7 k8 f4 f5 f6 f7 f8 c0 c1 c2 e8
    go_wp2_with (first
      | (refine wpList_load_want (o := ⟨some 68, _, _, _, _, _⟩) rfl _ _ rfl pb rfl _ _ _ I10.out Try.underlying71 rfl Try.sizeRm ?_)
      | (refine wpList_store_is (o := ⟨none, _, _, _, _, _⟩) rfl 71 _ _ rfl rb (mkThree b b1 b2).cells rfl rfl 71 Mk.zero.cells S10.out.ans Try.sizeRm rfl HVT.out ?_; intro w4 hi4 ho4))
    exact bodyPost_ret (res_cell Try.results45 _ w4 rb 71 (mkThree b b1 b2).cells _ (.int .i64 0) rfl rfl hi4 Try.underlying71 rfl Try.sizeRm) rfl ⟨rfl, (only_more P0.out S10.out.pure).trans ho4 (fun i hi e => by have := HRB.out; omega)⟩

theorem rmk_parse (v : Value) (bs : List Nat) (w : World) (hs : Src w v bs) (hb : ∀ x ∈ bs, x < 256) : Calls Try.prog 45 #[v] w (MkParA bs w) := by
  by_cases h3 : bs.length = 3
  · match bs, h3 with
    | [b, b1, b2], _ => exact rmk_par_three v b b1 b2 w hs (hb b (by simp)) (hb b1 (by simp)) (hb b2 (by simp))
  · by_cases h1 : bs.length = 1 ∧ bt bs 0 % 16 = 0
    · match bs, h1 with
      | [b], h1 => exact rmk_par_one v b w hs (hb b (by simp)) h1.2
    · refine rmk_par_bad v bs w hs ⟨h3, ?_⟩ hb
      by_cases h : bs.length = 1
      · exact .inr (fun k => h1 ⟨h, k⟩)
      · exact .inl h
end Go.Proofs.Ytcgfmjdlningpaa
