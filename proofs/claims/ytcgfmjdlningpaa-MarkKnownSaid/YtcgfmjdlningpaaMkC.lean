/- The reference of layer 4: Right, digit, Put, Parse; a marking as the reference has it. Conditions: as each says. -/
import Derived.Test.YtcgfmjdlningpaaMkB
set_option linter.unusedVariables false
namespace Go.Proofs.Ytcgfmjdlningpaa
open Go.RowKit

theorem Try.sizeRm : (Try.prog.info? 71).map (·.size) = some 9 := by kernel_rfl
set_option maxRecDepth 100000 in
set_option maxHeartbeats 1000000 in
theorem mk_ref (m : Mk) (w : World) : Calls Try.prog 39 #[.agg m.cells] w fun e w' => e = .returned (.agg m.cells) ∧ Only (fun _ => False) w w' := by
  have HV := Lib.hid (Mk.one m)
  go_enter Try.func39, Try.ntmps39
  go_upto_region 1 with (fail)
  generalize hw0 : World.alloc (World.alloc _ _) _ = w0
  have HI : Is w0 w.heap.size 69 m.cells := by rw [← hw0]; exact (Is.made w _ _).alloc _
  have HO := Lib.hid (show Is w0 (w.heap.size + 1) 71 Mk.zero.cells from by rw [← hw0]; have := Is.made (w.alloc (.cells m.cells 69)) 71 Mk.zero.cells; rw [World.size_alloc] at this; exact this)
  have P0 := Lib.hid (show Only (fun _ => False) w w0 from by rw [← hw0]; exact ((Only.refl _ w).alloc _).alloc _)
  clear hw0
  have c0 := HI.cell 0
  have c1 := HI.cell 1
  have c2 := HI.cell 2
  have c3 := HI.cell 3
  have c4 := HI.cell 4
  have c5 := HI.cell 5
  have c6 := HI.cell 6
  have c7 := HI.cell 7
  have c8 := HI.cell 8
  clear HI
  simp [Mk.cells] at c0 c1 c2 c3 c4 c5 c6 c7 c8
  go_wp2_with (refine wpList_store_is (o := ⟨none, _, _, _, _, _⟩) rfl 71 _ _ rfl (w.heap.size + 1) m.cells rfl rfl 71 Mk.zero.cells HO.out Try.sizeRm rfl HV.out ?_; intro w2 hi2 ho2)
  exact bodyPost_ret (res_one Try.results39 _ w2 (w.heap.size + 1) 71 m.cells _ rfl hi2 Try.underlying71 rfl Try.sizeRm) rfl ⟨rfl, P0.out.trans ho2 (fun i hi e => by omega)⟩

set_option maxRecDepth 100000 in
set_option maxHeartbeats 400000 in
theorem rmk_digit (x : Bool) (n : Nat) (z : Int) (hz : z = (n : Nat)) (w : World) : Calls Try.prog 75 #[.bool x, .int .u8 z] w fun e w' => e = .returned (.int .u8 (bn x n : Nat)) ∧ w = w' := by
  subst hz
  cases x
  · go_enter Try.func75, Try.ntmps75
    go_wp2
    go_ret
    exact ⟨rfl, rfl⟩
  · go_enter Try.func75, Try.ntmps75
    go_wp2
    go_ret
    exact ⟨rfl, rfl⟩

set_option maxRecDepth 100000 in
set_option maxHeartbeats 1000000 in
theorem rmk_right (m : Mk) (w : World) : Calls Try.prog 42 #[.agg m.cells] w fun e w' => e = .returned (.bool m.right) ∧ Only (fun _ => False) w w' := by
  obtain ⟨a1, a2, a3, a4, lg, ba, tid, lid, tl⟩ := m
  have HR := Lib.hid (show Mk.right ⟨a1, a2, a3, a4, lg, ba, tid, lid, tl⟩ = (decide (tid ≤ 7) && (lg || (!ba && decide (tid = 0) && decide (lid = 0) && decide (tl = 0)))) from rfl)
  rw [HR.out]
  clear HR
  simp only [Mk.cells]
  by_cases h7 : tid ≤ 7
  · have d7 : decide ((tid : Int) ≤ 7) = true := decide_eq_true (by omega)
    have h7' : (tid : Int) ≤ 7 := by omega
    cases lg
    · cases ba
      · by_cases ht : tid = 0
        · have et : ((tid : Int) == 0) = true := by simp [ht]
          by_cases hl : lid = 0
          · have el : ((lid : Int) == 0) = true := by simp [hl]
            have ex : ((tl : Int) == 0) = decide (tl = 0) := by rw [Bool.eq_iff_iff]; simp
            have HX := Lib.hid (show (decide (tid ≤ 7) && (false || (!false && decide (tid = 0) && decide (lid = 0) && decide (tl = 0)))) = decide (tl = 0) from by simp [ht, hl])
            rw [HX.out]
            generalize decide (tl = 0) = b at *
            clear h7 ht hl HX
            go_enter Try.func42, Try.ntmps42
            go_wp2
            go_ret
            exact ⟨rfl, (Only.refl _ _).alloc _⟩
          · have el : ((lid : Int) == 0) = false := by simp; omega
            have HX := Lib.hid (show (decide (tid ≤ 7) && (false || (!false && decide (tid = 0) && decide (lid = 0) && decide (tl = 0)))) = false from by simp [hl])
            rw [HX.out]
            clear h7 ht hl HX
            go_enter Try.func42, Try.ntmps42
            go_wp2
            go_ret
            exact ⟨rfl, (Only.refl _ _).alloc _⟩
        · have et : ((tid : Int) == 0) = false := by simp; omega
          have HX := Lib.hid (show (decide (tid ≤ 7) && (false || (!false && decide (tid = 0) && decide (lid = 0) && decide (tl = 0)))) = false from by simp [ht])
          rw [HX.out]
          clear h7 ht HX
          go_enter Try.func42, Try.ntmps42
          go_wp2
          go_ret
          exact ⟨rfl, (Only.refl _ _).alloc _⟩
      · have HX := Lib.hid (show (decide (tid ≤ 7) && (false || (!true && decide (tid = 0) && decide (lid = 0) && decide (tl = 0)))) = false from by simp)
        rw [HX.out]
        clear h7 HX
        go_enter Try.func42, Try.ntmps42
        go_wp2
        go_ret
        exact ⟨rfl, (Only.refl _ _).alloc _⟩
    · have HX := Lib.hid (show (decide (tid ≤ 7) && (true || (!ba && decide (tid = 0) && decide (lid = 0) && decide (tl = 0)))) = true from by simp [h7])
      rw [HX.out]
      clear h7 HX
      go_enter Try.func42, Try.ntmps42
      go_wp2
      go_ret
      exact ⟨rfl, (Only.refl _ _).alloc _⟩
  · have d7 : decide ((tid : Int) ≤ 7) = false := decide_eq_false (by omega)
    have h7' : ¬ (tid : Int) ≤ 7 := by omega
    have HX := Lib.hid (show (decide (tid ≤ 7) && (lg || (!ba && decide (tid = 0) && decide (lid = 0) && decide (tl = 0)))) = false from by simp [h7])
    rw [HX.out]
    clear h7 HX
    go_enter Try.func42, Try.ntmps42
    go_wp2
    go_ret
    exact ⟨rfl, (Only.refl _ _).alloc _⟩

theorem bn_le (b : Bool) (n : Nat) : bn b n ≤ n := by cases b <;> simp [bn]
set_option maxRecDepth 100000 in
set_option maxHeartbeats 2000000 in
theorem rmk_put (m : Mk) (w : World) : Calls Try.prog 38 #[.agg m.cells] w (PutB m.bad m.out w) := by
  have HR := Lib.hid (fun w => rmk_right m w)
  have I0 := Lib.hid (Is.made w 71 m.cells)
  have P0 := Lib.hid (show Only (fun _ => False) w (w.alloc (.cells m.cells 71)) from (Only.refl _ w).alloc _)
  cases hr : m.right
  · rw [hr] at HR
    have e1 : m.bad = 40 := by unfold Mk.bad; rw [hr]; rfl
    have e2 : m.out = [] := by unfold Mk.out; rw [hr]; rfl
    rw [e1, e2]
    clear hr e1 e2
    go_enter Try.func38, Try.ntmps38
    go_upto_region 1 with (fail)
    generalize (w.alloc (.cells m.cells 71)) = w0 at *
    go_wp2_with (first
      | (refine wpList_load_want rfl _ _ rfl w.heap.size rfl _ _ _ I0.out Try.underlying71 rfl Try.sizeRm ?_)
      | (go_at_call 42; refine (HR.out _).mono ?_; rintro e w1 ⟨rfl, ho1⟩; have O1 := Lib.hid (only_more P0.out ho1); clear ho1))
    go_ret2
    exact ⟨_, rfl, World.ownsRow_nil _ _ _ _, O1.out⟩
  · rw [hr] at HR
    have e1 : m.bad = 0 := by unfold Mk.bad; rw [hr]; rfl
    have e2 : m.out = m.enc := by unfold Mk.out; rw [hr]; rfl
    have h7 : m.tid ≤ 7 ∧ (m.lg = false → m.ba = false ∧ m.tid = 0) := by
      unfold Mk.right at hr
      simp at hr
      refine ⟨hr.1, fun h => ?_⟩
      rcases hr.2 with h2 | h2
      · rw [h] at h2; cases h2
      · exact ⟨h2.1.1.1, h2.1.1.2⟩
    rw [e1, e2]
    have HENC := Lib.hid (show m.enc = if m.lg then [m.first, m.lid, m.tl] else [m.first] from rfl)
    have HFI := Lib.hid (show m.first = bn m.st 128 + bn m.en 64 + bn m.ind 32 + bn m.dr 16 + bn m.ba 8 + m.tid from rfl)
    have HLO := Lib.hid h7.2
    have l1 := bn_le m.st 128
    have l2 := bn_le m.en 64
    have l3 := bn_le m.ind 32
    have l4 := bn_le m.dr 16
    have l5 := bn_le m.ba 8
    have l7 := h7.1
    have D1 := Lib.hid (fun w => rmk_digit m.st 128 128 rfl w)
    have D2 := Lib.hid (fun w => rmk_digit m.en 64 64 rfl w)
    have D3 := Lib.hid (fun w => rmk_digit m.ind 32 32 rfl w)
    have D4 := Lib.hid (fun w => rmk_digit m.dr 16 16 rfl w)
    have D5 := Lib.hid (fun w => rmk_digit m.ba 8 8 rfl w)
    have LO0 := Lib.hid (show m.lg = false → bn m.ba 8 = 0 ∧ m.tid = 0 from fun h => ⟨by rw [(h7.2 h).1]; rfl, (h7.2 h).2⟩)
    clear hr e1 e2 h7 HLO
    generalize m.first = fr at *
    generalize bn m.st 128 = a1 at *
    generalize bn m.en 64 = a2 at *
    generalize bn m.ind 32 = a3 at *
    generalize bn m.dr 16 = a4 at *
    generalize bn m.ba 8 = a5 at *
    have E6 := Lib.hid (show IntKind.u8.wrap ((a1 : Int) + (a2 : Int)) = (a1 : Int) + (a2 : Int) from by rw [IntKind.wrap_u8]; omega)
    have E10 := Lib.hid (show IntKind.u8.wrap ((a1 : Int) + (a2 : Int) + (a3 : Int)) = (a1 : Int) + (a2 : Int) + (a3 : Int) from by rw [IntKind.wrap_u8]; omega)
    have E14 := Lib.hid (show IntKind.u8.wrap ((a1 : Int) + (a2 : Int) + (a3 : Int) + (a4 : Int)) = (a1 : Int) + (a2 : Int) + (a3 : Int) + (a4 : Int) from by rw [IntKind.wrap_u8]; omega)
    have E4 := Lib.hid (show IntKind.u8.wrap ((a1 : Int) + (a2 : Int) + (a3 : Int) + (a4 : Int) + (a5 : Int)) = (a1 : Int) + (a2 : Int) + (a3 : Int) + (a4 : Int) + (a5 : Int) from by rw [IntKind.wrap_u8]; omega)
    have E7 := Lib.hid (show IntKind.u8.wrap ((a1 : Int) + (a2 : Int) + (a3 : Int) + (a4 : Int) + (a5 : Int) + (m.tid : Int)) = (fr : Int) from by rw [IntKind.wrap_u8, HFI.out]; omega)
    have E5 := Lib.hid (show m.lg = false → (a1 : Int) + (a2 : Int) + (a3 : Int) + (a4 : Int) = (fr : Int) from fun h => by have := LO0.out h; rw [HFI.out]; omega)
    clear l1 l2 l3 l4 l5 l7
    go_enter Try.func38, Try.ntmps38
    go_upto_region 1 with (fail)
    generalize (w.alloc (.cells m.cells 71)) = w0 at *
    obtain ⟨mb, hmb⟩ : ∃ k, w.heap.size = k := ⟨_, rfl⟩
    have HMB := Lib.hid hmb
    rw [hmb] at I0 ⊢
    clear hmb
    go_upto_region 3 with (first
      | (refine wpList_load_want (o := ⟨some 5, _, _, _, _, _⟩) rfl _ _ rfl mb rfl _ _ _ I0.out Try.underlying71 rfl Try.sizeRm ?_)
      | (go_at_call 42; refine (HR.out _).mono ?_; rintro e w1 ⟨rfl, ho1⟩; have O1 := Lib.hid ho1; clear ho1))
    have I1 := Lib.hid (I0.out.only O1.out (by simp))
    have P1 := Lib.hid (only_more P0.out O1.out)
    refine wp_region_posts [[], [0], [1, 0], [], [3], [4, 2, 3, 1, 0], [2, 5, 1, 0, 4, 3], [], [7], [8, 5, 7, 4, 2, 3, 1, 0], [6, 9, 2, 5, 1, 0, 4, 3, 8, 7], [], [11], [12, 9, 11, 8, 5, 7, 4, 2, 3, 1, 0], [10, 13, 6, 9, 2, 5, 1, 0, 4, 3, 8, 7, 12, 11], [14, 13, 0, 1, 2, 3, 4, 5, 6, 7, 8, 9, 10, 11, 12]] [2, 5, 9, 13] [] [[], [], [], [], [], [], [], [], [], [], [], [], [], [], [], []] [[], [], [], [], [], [], [], [], [], [], [], [], [], [], [], []] [] [] [] []
        [some ?v0, some ?v1, some (.int .u8 (a1 : Nat)), some ?v3, some ?v4, some (.int .u8 (a2 : Nat)), some (.int .u8 ((a1 : Int) + (a2 : Int))), some ?v7, some ?v8, some (.int .u8 (a3 : Nat)), some (.int .u8 ((a1 : Int) + (a2 : Int) + (a3 : Int))), some ?v11, some ?v12, some (.int .u8 (a4 : Nat)), some (.int .u8 ((a1 : Int) + (a2 : Int) + (a3 : Int) + (a4 : Int))), some (.int .u8 ((a1 : Int) + (a2 : Int) + (a3 : Int) + (a4 : Int)))]
        ?T (fun wx => Is wx mb 71 m.cells ∧ Only (fun _ => False) w1 wx) ?W ?E (by kernel_rfl) (by kernel_rfl) (by kernel_rfl) (fun x => ?hT) ?hF ?hini (Reg.all_ops ?runs) ?pres ?fin
    case W => exact fun j x w' => True
    case E => exact fun _ w' w'' => True
    case hT =>
      simp only [Reg.fillV, Act.put, List.setIfInBounds_toArray, List.set_cons_zero, List.set_cons_succ]
      rfl
    case runs =>
      refine And.intro ?_ ?_
      · refine Reg.ob_pure (fun _ => rfl) rfl rfl rfl rfl (fun x w1 hF => ?_)
        obtain ⟨hm, -⟩ := hF
        have q0 := hm.cell 0
        have q1 := hm.cell 1
        have q2 := hm.cell 2
        have q3 := hm.cell 3
        simp [Mk.cells] at q0 q1 q2 q3
        have e6 := E6.out
        have e10 := E10.out
        have e14 := E14.out
        go_simp
        with_reducible rfl
      refine And.intro ?_ ?_
      · refine Reg.ob_pure (fun _ => rfl) rfl rfl rfl rfl (fun x w1 hF => ?_)
        obtain ⟨hm, -⟩ := hF
        have q0 := hm.cell 0
        have q1 := hm.cell 1
        have q2 := hm.cell 2
        have q3 := hm.cell 3
        simp [Mk.cells] at q0 q1 q2 q3
        have e6 := E6.out
        have e10 := E10.out
        have e14 := E14.out
        go_simp
        with_reducible rfl
      refine And.intro ?_ ?_
      · refine Reg.ob_known (fun _ => rfl) rfl rfl (fun x w1 hF hU K hK => ?_)
        obtain ⟨hm, ho⟩ := hF rfl
        go_simp
        refine (D1.out _).mono ?_
        rintro e w3 ⟨rfl, rfl⟩
        exact hK _ (fun _ _ _ => ⟨hm, ho⟩) trivial
      refine And.intro ?_ ?_
      · refine Reg.ob_pure (fun _ => rfl) rfl rfl rfl rfl (fun x w1 hF => ?_)
        obtain ⟨hm, -⟩ := hF
        have q0 := hm.cell 0
        have q1 := hm.cell 1
        have q2 := hm.cell 2
        have q3 := hm.cell 3
        simp [Mk.cells] at q0 q1 q2 q3
        have e6 := E6.out
        have e10 := E10.out
        have e14 := E14.out
        go_simp
        with_reducible rfl
      refine And.intro ?_ ?_
      · refine Reg.ob_pure (fun _ => rfl) rfl rfl rfl rfl (fun x w1 hF => ?_)
        obtain ⟨hm, -⟩ := hF
        have q0 := hm.cell 0
        have q1 := hm.cell 1
        have q2 := hm.cell 2
        have q3 := hm.cell 3
        simp [Mk.cells] at q0 q1 q2 q3
        have e6 := E6.out
        have e10 := E10.out
        have e14 := E14.out
        go_simp
        with_reducible rfl
      refine And.intro ?_ ?_
      · refine Reg.ob_known (fun _ => rfl) rfl rfl (fun x w1 hF hU K hK => ?_)
        obtain ⟨hm, ho⟩ := hF rfl
        go_simp
        refine (D2.out _).mono ?_
        rintro e w3 ⟨rfl, rfl⟩
        exact hK _ (fun _ _ _ => ⟨hm, ho⟩) trivial
      refine And.intro ?_ ?_
      · refine Reg.ob_pure (fun _ => rfl) rfl rfl rfl rfl (fun x w1 hF => ?_)
        have e6 := E6.out
        have e10 := E10.out
        have e14 := E14.out
        go_simp
      refine And.intro ?_ ?_
      · refine Reg.ob_pure (fun _ => rfl) rfl rfl rfl rfl (fun x w1 hF => ?_)
        obtain ⟨hm, -⟩ := hF
        have q0 := hm.cell 0
        have q1 := hm.cell 1
        have q2 := hm.cell 2
        have q3 := hm.cell 3
        simp [Mk.cells] at q0 q1 q2 q3
        have e6 := E6.out
        have e10 := E10.out
        have e14 := E14.out
        go_simp
        with_reducible rfl
      refine And.intro ?_ ?_
      · refine Reg.ob_pure (fun _ => rfl) rfl rfl rfl rfl (fun x w1 hF => ?_)
        obtain ⟨hm, -⟩ := hF
        have q0 := hm.cell 0
        have q1 := hm.cell 1
        have q2 := hm.cell 2
        have q3 := hm.cell 3
        simp [Mk.cells] at q0 q1 q2 q3
        have e6 := E6.out
        have e10 := E10.out
        have e14 := E14.out
        go_simp
        with_reducible rfl
      refine And.intro ?_ ?_
      · refine Reg.ob_known (fun _ => rfl) rfl rfl (fun x w1 hF hU K hK => ?_)
        obtain ⟨hm, ho⟩ := hF rfl
        go_simp
        refine (D3.out _).mono ?_
        rintro e w3 ⟨rfl, rfl⟩
        exact hK _ (fun _ _ _ => ⟨hm, ho⟩) trivial
      refine And.intro ?_ ?_
      · refine Reg.ob_pure (fun _ => rfl) rfl rfl rfl rfl (fun x w1 hF => ?_)
        have e6 := E6.out
        have e10 := E10.out
        have e14 := E14.out
        go_simp
      refine And.intro ?_ ?_
      · refine Reg.ob_pure (fun _ => rfl) rfl rfl rfl rfl (fun x w1 hF => ?_)
        obtain ⟨hm, -⟩ := hF
        have q0 := hm.cell 0
        have q1 := hm.cell 1
        have q2 := hm.cell 2
        have q3 := hm.cell 3
        simp [Mk.cells] at q0 q1 q2 q3
        have e6 := E6.out
        have e10 := E10.out
        have e14 := E14.out
        go_simp
        with_reducible rfl
      refine And.intro ?_ ?_
      · refine Reg.ob_pure (fun _ => rfl) rfl rfl rfl rfl (fun x w1 hF => ?_)
        obtain ⟨hm, -⟩ := hF
        have q0 := hm.cell 0
        have q1 := hm.cell 1
        have q2 := hm.cell 2
        have q3 := hm.cell 3
        simp [Mk.cells] at q0 q1 q2 q3
        have e6 := E6.out
        have e10 := E10.out
        have e14 := E14.out
        go_simp
        with_reducible rfl
      refine And.intro ?_ ?_
      · refine Reg.ob_known (fun _ => rfl) rfl rfl (fun x w1 hF hU K hK => ?_)
        obtain ⟨hm, ho⟩ := hF rfl
        go_simp
        refine (D4.out _).mono ?_
        rintro e w3 ⟨rfl, rfl⟩
        exact hK _ (fun _ _ _ => ⟨hm, ho⟩) trivial
      refine And.intro ?_ ?_
      · refine Reg.ob_pure (fun _ => rfl) rfl rfl rfl rfl (fun x w1 hF => ?_)
        have e6 := E6.out
        have e10 := E10.out
        have e14 := E14.out
        go_simp
      refine And.intro ?_ ?_
      · refine Reg.ob_pure (fun _ => rfl) rfl rfl rfl rfl (fun x w1 hF => ?_)
        have e6 := E6.out
        have e10 := E10.out
        have e14 := E14.out
        go_simp
      exact trivial
    case hF =>
      exact ⟨I1.out.only (only_drewN _ 1) (by simp), only_drewN _ 1⟩
    case hini =>
      exact trivial
    case pres =>
      intro i hi j hj hc x w1 w2 hF hE hW
      trivial
    case fin =>
      rintro x w2 hF -
      replace hF := hF rfl
      have I2 := Lib.hid hF.1
      have P2 := Lib.hid (only_more P1.out hF.2)
      clear hF
      have c4 := I2.out.cell 4
      simp [Mk.cells] at c4
      cases hl : m.lg
      · rw [hl] at c4 HENC E5
        have e5 := E5.out rfl
        rw [e5]
        clear hl e5
        go_wp2
        go_ret2
        refine ⟨_, rfl, ?_, P2.out.alloc _⟩
        rw [HENC.out]
        exact own_lit w2 [fr] w.heap.size P2.out.size (by simp)
      · rw [hl] at c4 HENC
        clear hl
        go_upto_region 6 with (fail)
        clear c4
        refine wp_region_posts [[], [], [1], [2, 1], [0, 3, 2, 1], [], [5], [4, 6, 0, 3, 2, 1, 5], [], [8], [], [10], [7, 9, 11, 4, 6, 0, 3, 2, 1, 5, 8, 10], [12, 3, 0, 1, 2, 4, 5, 6, 7, 8, 9, 10, 11], [13, 0, 1, 2, 3, 4, 5, 6, 7, 8, 9, 10, 11, 12]] [3, 12, 13] [12, 13] [[], [], [], [], [], [], [], [], [], [], [], [], [], [12], []] [[], [], [], [], [], [], [], [], [], [], [], [], [], [12], []] [13] [] [] []
            [some ?vl0, some ?vl1, some ?vl2, some (.int .u8 (a5 : Nat)), some (.int .u8 ((a1 : Int) + (a2 : Int) + (a3 : Int) + (a4 : Int) + (a5 : Int))), some ?vl5, some ?vl6, some (.int .u8 (fr : Nat)), some ?vl8, some ?vl9, some ?vl10, some ?vl11, none, none, some ?vl14]
            ?Tl (fun wx => Is wx mb 71 m.cells ∧ Only (fun _ => False) w2 wx) ?Wl ?El (by kernel_rfl) (by kernel_rfl) (by kernel_rfl) (fun x => ?hTl) ?hFl ?hinil (Reg.all_ops ?runsl) ?presl ?finl
        case Wl => exact fun j x w' => match j with | 12 => w'.ownsRow w.heap.size 5 1 (x 12) 3 (cellsOf [fr, m.lid, m.tl]) ∧ (∃ g, x 12 = .slice (some ⟨g, 0, none⟩) 3 3) ∧ Only (fun _ => False) w w' | 13 => x 13 = x 12 ∧ w'.ownsRow w.heap.size 5 1 (x 12) 3 (cellsOf [fr, m.lid, m.tl]) ∧ (∃ g, x 12 = .slice (some ⟨g, 0, none⟩) 3 3) ∧ Only (fun _ => False) w w' | _ => True
        case El => exact fun _ w' w'' => True
        case hTl =>
          simp only [Reg.fillV, Act.put, List.setIfInBounds_toArray, List.set_cons_zero, List.set_cons_succ]
          rfl
        case runsl =>
          refine And.intro ?_ ?_
          · refine Reg.ob_pure (fun _ => rfl) rfl rfl rfl rfl (fun x w1 hF => ?_)
            obtain ⟨hm, -⟩ := hF
            have q5 := hm.cell 5
            have q6 := hm.cell 6
            have q7 := hm.cell 7
            have q8 := hm.cell 8
            simp [Mk.cells] at q5 q6 q7 q8
            have e4 := E4.out
            have e7 := E7.out
            go_simp
            with_reducible rfl
          refine And.intro ?_ ?_
          · refine Reg.ob_pure (fun _ => rfl) rfl rfl rfl rfl (fun x w1 hF => ?_)
            obtain ⟨hm, -⟩ := hF
            have q5 := hm.cell 5
            have q6 := hm.cell 6
            have q7 := hm.cell 7
            have q8 := hm.cell 8
            simp [Mk.cells] at q5 q6 q7 q8
            have e4 := E4.out
            have e7 := E7.out
            go_simp
            with_reducible rfl
          refine And.intro ?_ ?_
          · refine Reg.ob_pure (fun _ => rfl) rfl rfl rfl rfl (fun x w1 hF => ?_)
            obtain ⟨hm, -⟩ := hF
            have q5 := hm.cell 5
            have q6 := hm.cell 6
            have q7 := hm.cell 7
            have q8 := hm.cell 8
            simp [Mk.cells] at q5 q6 q7 q8
            have e4 := E4.out
            have e7 := E7.out
            go_simp
            with_reducible rfl
          refine And.intro ?_ ?_
          · refine Reg.ob_known (fun _ => rfl) rfl rfl (fun x w1 hF hU K hK => ?_)
            obtain ⟨hm, ho⟩ := hF rfl
            go_simp
            refine (D5.out _).mono ?_
            rintro e w3 ⟨rfl, rfl⟩
            exact hK _ (fun _ _ _ => ⟨hm, ho⟩) trivial
          refine And.intro ?_ ?_
          · refine Reg.ob_pure (fun _ => rfl) rfl rfl rfl rfl (fun x w1 hF => ?_)
            have e4 := E4.out
            go_simp
          refine And.intro ?_ ?_
          · refine Reg.ob_pure (fun _ => rfl) rfl rfl rfl rfl (fun x w1 hF => ?_)
            obtain ⟨hm, -⟩ := hF
            have q5 := hm.cell 5
            have q6 := hm.cell 6
            have q7 := hm.cell 7
            have q8 := hm.cell 8
            simp [Mk.cells] at q5 q6 q7 q8
            have e4 := E4.out
            have e7 := E7.out
            go_simp
            with_reducible rfl
          refine And.intro ?_ ?_
          · refine Reg.ob_pure (fun _ => rfl) rfl rfl rfl rfl (fun x w1 hF => ?_)
            obtain ⟨hm, -⟩ := hF
            have q5 := hm.cell 5
            have q6 := hm.cell 6
            have q7 := hm.cell 7
            have q8 := hm.cell 8
            simp [Mk.cells] at q5 q6 q7 q8
            have e4 := E4.out
            have e7 := E7.out
            go_simp
            with_reducible rfl
          refine And.intro ?_ ?_
          · refine Reg.ob_pure (fun _ => rfl) rfl rfl rfl rfl (fun x w1 hF => ?_)
            have e7 := E7.out
            go_simp
          refine And.intro ?_ ?_
          · refine Reg.ob_pure (fun _ => rfl) rfl rfl rfl rfl (fun x w1 hF => ?_)
            obtain ⟨hm, -⟩ := hF
            have q5 := hm.cell 5
            have q6 := hm.cell 6
            have q7 := hm.cell 7
            have q8 := hm.cell 8
            simp [Mk.cells] at q5 q6 q7 q8
            have e4 := E4.out
            have e7 := E7.out
            go_simp
            with_reducible rfl
          refine And.intro ?_ ?_
          · refine Reg.ob_pure (fun _ => rfl) rfl rfl rfl rfl (fun x w1 hF => ?_)
            obtain ⟨hm, -⟩ := hF
            have q5 := hm.cell 5
            have q6 := hm.cell 6
            have q7 := hm.cell 7
            have q8 := hm.cell 8
            simp [Mk.cells] at q5 q6 q7 q8
            have e4 := E4.out
            have e7 := E7.out
            go_simp
            with_reducible rfl
          refine And.intro ?_ ?_
          · refine Reg.ob_pure (fun _ => rfl) rfl rfl rfl rfl (fun x w1 hF => ?_)
            obtain ⟨hm, -⟩ := hF
            have q5 := hm.cell 5
            have q6 := hm.cell 6
            have q7 := hm.cell 7
            have q8 := hm.cell 8
            simp [Mk.cells] at q5 q6 q7 q8
            have e4 := E4.out
            have e7 := E7.out
            go_simp
            with_reducible rfl
          refine And.intro ?_ ?_
          · refine Reg.ob_pure (fun _ => rfl) rfl rfl rfl rfl (fun x w1 hF => ?_)
            obtain ⟨hm, -⟩ := hF
            have q5 := hm.cell 5
            have q6 := hm.cell 6
            have q7 := hm.cell 7
            have q8 := hm.cell 8
            simp [Mk.cells] at q5 q6 q7 q8
            have e4 := E4.out
            have e7 := E7.out
            go_simp
            with_reducible rfl
          refine And.intro ?_ ?_
          · refine Reg.ob_some (fun _ => rfl) rfl (fun x w1 hF hU K hK => ?_)
            obtain ⟨hm, ho⟩ := hF rfl
            go_simp
            exact hK _ _ (fun _ _ _ => ⟨hm.alloc _, ho.alloc _⟩) trivial ⟨own_lit w1 [fr, m.lid, m.tl] w.heap.size (Nat.le_trans P2.out.size ho.size) (by simp), ⟨_, rfl⟩, (only_more P2.out ho).alloc _⟩
          refine And.intro ?_ ?_
          · refine Reg.ob_some (fun _ => rfl) rfl (fun x w1 hF hU K hK => ?_)
            obtain ⟨hW, -⟩ := hU
            revert hK
            simp only [Nat.reduceAdd]
            intro hK
            go_simp
            exact hK _ _ (fun _ _ _ => hF rfl) trivial ⟨rfl, hW⟩
          refine And.intro ?_ ?_
          · refine Reg.ob_pure (fun _ => rfl) rfl rfl rfl rfl (fun x w1 hF => ?_)
            obtain ⟨hm, -⟩ := hF
            have q5 := hm.cell 5
            have q6 := hm.cell 6
            have q7 := hm.cell 7
            have q8 := hm.cell 8
            simp [Mk.cells] at q5 q6 q7 q8
            have e4 := E4.out
            have e7 := E7.out
            go_simp
            with_reducible rfl
          exact trivial
        case hFl =>
          exact ⟨I2.out.only (only_drewN _ 1) (by simp), only_drewN _ 1⟩
        case hinil =>
          exact trivial
        case presl =>
          intro i hi j hj hc x w1 w2 hF hE hW
          exfalso
          revert hc
          simp only [List.mem_cons, List.mem_nil_iff, or_false] at hi hj
          rcases hi with rfl | rfl | rfl <;> rcases hj with rfl | rfl <;> decide
        case finl =>
          rintro x w9 hF ⟨⟨h13, hown, ⟨g, h12⟩, hO⟩, -⟩
          have h13 : x 13 = x 12 := h13
          have h12 : x 12 = .slice (some ⟨g, 0, none⟩) 3 3 := h12
          rw [h12] at h13
          have hown : w9.ownsRow w.heap.size 5 1 (x 12) 3 (cellsOf [fr, m.lid, m.tl]) := hown
          rw [h12] at hown
          have OW := Lib.hid hown
          have OO := Lib.hid hO
          rw [h13, h12]
          clear hown hO hF h12 h13
          go_wp2
          go_ret2
          refine ⟨_, rfl, ?_, OO.out⟩
          rw [HENC.out]
          exact OW.out
      

end Go.Proofs.Ytcgfmjdlningpaa
