/- span.holds; Right of a Pli. Conditions: as each says. -/
import Derived.Test.YtefcimkopgcagaaFbL
set_option linter.unusedVariables false
namespace Go.Proofs.Ytefcimkopgcagaa
open Go.RowKit

set_option maxRecDepth 100000 in
set_option maxHeartbeats 1000000 in
theorem holds_yes (a b n : Int) (w : World) (h1 : a ≤ n) (h2 : n ≤ b) : Calls Try.prog 49 #[.agg #[.int .i64 a, .int .i64 b], .int .i64 n] w fun e w' => e = .returned (.bool true) ∧ Only (fun _ => False) w w' := by
  go_enter Try.func49, Try.ntmps49
  go_wp2
  go_ret
  exact ⟨rfl, (Only.refl _ w).alloc _⟩

/-- A Pli, as it is handed in. -/
def pliC (a b : Nat) : Array Value := #[.int .u8 2, .int .u32 (a : Nat), .int .u32 (b : Nat), .slice none 0 0, .slice none 0 0, .int .u8 0, .int .u32 0, .slice none 0 0]
theorem srt2_cells {w : World} {b : Nat} (h : Is w b 93 (srtV 2)) :
    w.cell? ⟨b, 3, none⟩ = some (.int .i64 0) ∧ w.cell? ⟨b, 4, none⟩ = some (.int .i64 0) ∧ w.cell? ⟨b, 5, none⟩ = some (.int .i64 0) ∧ w.cell? ⟨b, 6, none⟩ = some (.int .i64 0) ∧ w.cell? ⟨b, 7, none⟩ = some (.int .i64 0) ∧ w.cell? ⟨b, 8, none⟩ = some (.int .i64 0) ∧ w.cell? ⟨b, 9, none⟩ = some (.int .i64 0) ∧ w.cell? ⟨b, 10, none⟩ = some (.int .i64 0) ∧ w.cell? ⟨b, 11, none⟩ = some (.int .i64 0) ∧ w.cell? ⟨b, 12, none⟩ = some (.int .i64 0) :=
  ⟨h.cell 3, h.cell 4, h.cell 5, h.cell 6, h.cell 7, h.cell 8, h.cell 9, h.cell 10, h.cell 11, h.cell 12⟩
theorem pli_cells {w : World} {g a b : Nat} (h : Is w g 27 (pliC a b)) :
    w.cell? ⟨g, 0, none⟩ = some (.int .u8 2) ∧ w.cell? ⟨g, 1, none⟩ = some (.int .u32 (a : Nat)) ∧ w.cell? ⟨g, 2, none⟩ = some (.int .u32 (b : Nat)) ∧ w.cell? ⟨g, 3, none⟩ = some (.slice none 0 0) ∧ w.cell? ⟨g, 4, none⟩ = some (.slice none 0 0) ∧ w.cell? ⟨g, 5, none⟩ = some (.int .u8 0) ∧ w.cell? ⟨g, 6, none⟩ = some (.int .u32 0) ∧ w.cell? ⟨g, 7, none⟩ = some (.slice none 0 0) :=
  ⟨h.cell 0, h.cell 1, h.cell 2, h.cell 3, h.cell 4, h.cell 5, h.cell 6, h.cell 7⟩
set_option maxRecDepth 100000 in
set_option maxHeartbeats 4000000 in
theorem right_pli (a b : Nat) (w : World) : Calls Try.prog 15 #[.agg (pliC a b)] w fun e w' => e = .returned (.bool true) ∧ Only (fun _ => False) w w' := by
  have HSO := Lib.hid (fun w => sortof_is 2 w (by omega) (by omega))
  obtain ⟨pc, hpc⟩ : ∃ p, pliC a b = p := ⟨_, rfl⟩
  have HPC := Lib.hid hpc
  rw [hpc]
  clear hpc
  go_enter Try.func15, Try.ntmps15
  go_upto_region 1 with (fail)
  obtain ⟨mb, hmb⟩ : ∃ k, w.heap.size = k := ⟨_, rfl⟩
  generalize hw0 : World.alloc _ _ = w0
  have I0 := Lib.hid (show Is w0 w.heap.size 27 (pliC a b) from by rw [← hw0, HPC.out]; exact Is.made _ _ _)
  have P0 := Lib.hid (show Only (fun _ => False) w w0 from by rw [← hw0]; exact (Only.refl _ w).alloc _)
  rw [hmb] at I0 ⊢
  clear hw0 hmb
  obtain ⟨m0, -, -, -, -, -, -, -⟩ := pli_cells I0.out
  go_upto_region 2 with (first
    | (go_at_call 43; refine (HSO.out _).mono ?_; rintro e w1 ⟨rfl, ho1⟩; have O1 := Lib.hid ho1; clear ho1)
    | (refine wpList_store_is rfl 93 _ _ rfl w1.heap.size (srtV 2) rfl rfl 93 (srtV 0) (Is.made w1 _ (srtV 0)) (srt_size 2 (by omega) (by omega)) (srt_hold 2 (by omega) (by omega)) (srt_one 2 (by omega) (by omega)) ?_; intro w2 hi2 ho2; have O2 := Lib.hid (fb_made ho2); have S2 := Lib.hid hi2; clear hi2 ho2))
  clear m0
  have I2 := Lib.hid (I0.out.only (only_more O1.out O2.out) (by simp))
  have P2 := Lib.hid (only_more P0.out (only_more O1.out O2.out))
  generalize w1.heap.size = sb at *
  refine wp_region_text [[], [0], [1, 0], [2, 1, 0], [1, 0], [4, 1, 0], [5, 1, 4, 0], [3, 6, 1, 2, 0, 5, 4], [1, 7, 0, 3, 6, 2, 5, 4], [8, 7, 1, 0, 3, 6, 2, 5, 4], [9, 8, 7, 1, 0, 3, 6, 2, 5, 4], [10, 9, 8, 7, 1, 0, 3, 6, 2, 5, 4], [9, 8, 7, 1, 0, 3, 6, 2, 5, 4], [12, 9, 8, 7, 1, 0, 3, 6, 2, 5, 4], [13, 9, 12, 8, 7, 1, 0, 3, 6, 2, 5, 4], [11, 14, 9, 10, 8, 7, 1, 0, 3, 6, 2, 5, 4, 13, 12], [9, 15, 8, 7, 1, 0, 3, 6, 2, 5, 4, 11, 14, 10, 13, 12], [16, 15, 9, 8, 7, 1, 0, 3, 6, 2, 5, 4, 11, 14, 10, 13, 12], [17, 16, 15, 9, 8, 7, 1, 0, 3, 6, 2, 5, 4, 11, 14, 10, 13, 12], [18, 17, 16, 15, 9, 8, 7, 1, 0, 3, 6, 2, 5, 4, 11, 14, 10, 13, 12], [17, 16, 15, 9, 8, 7, 1, 0, 3, 6, 2, 5, 4, 11, 14, 10, 13, 12], [20, 17, 16, 15, 9, 8, 7, 1, 0, 3, 6, 2, 5, 4, 11, 14, 10, 13, 12], [21, 17, 20, 16, 15, 9, 8, 7, 1, 0, 3, 6, 2, 5, 4, 11, 14, 10, 13, 12], [19, 22, 17, 18, 16, 15, 9, 8, 7, 1, 0, 3, 6, 2, 5, 4, 11, 14, 10, 13, 12, 21, 20], [17, 23, 16, 15, 9, 8, 7, 1, 0, 3, 6, 2, 5, 4, 11, 14, 10, 13, 12, 19, 22, 18, 21, 20], [24, 23, 17, 16, 15, 9, 8, 7, 1, 0, 3, 6, 2, 5, 4, 11, 14, 10, 13, 12, 19, 22, 18, 21, 20], [25, 24, 23, 17, 16, 15, 9, 8, 7, 1, 0, 3, 6, 2, 5, 4, 11, 14, 10, 13, 12, 19, 22, 18, 21, 20], [26, 25, 24, 23, 17, 16, 15, 9, 8, 7, 1, 0, 3, 6, 2, 5, 4, 11, 14, 10, 13, 12, 19, 22, 18, 21, 20], [25, 24, 23, 17, 16, 15, 9, 8, 7, 1, 0, 3, 6, 2, 5, 4, 11, 14, 10, 13, 12, 19, 22, 18, 21, 20], [28, 25, 24, 23, 17, 16, 15, 9, 8, 7, 1, 0, 3, 6, 2, 5, 4, 11, 14, 10, 13, 12, 19, 22, 18, 21, 20], [29, 25, 28, 24, 23, 17, 16, 15, 9, 8, 7, 1, 0, 3, 6, 2, 5, 4, 11, 14, 10, 13, 12, 19, 22, 18, 21, 20], [27, 30, 25, 26, 24, 23, 17, 16, 15, 9, 8, 7, 1, 0, 3, 6, 2, 5, 4, 11, 14, 10, 13, 12, 19, 22, 18, 21, 20, 29, 28], [25, 31, 24, 23, 17, 16, 15, 9, 8, 7, 1, 0, 3, 6, 2, 5, 4, 11, 14, 10, 13, 12, 19, 22, 18, 21, 20, 27, 30, 26, 29, 28], [32, 31, 25, 24, 23, 17, 16, 15, 9, 8, 7, 1, 0, 3, 6, 2, 5, 4, 11, 14, 10, 13, 12, 19, 22, 18, 21, 20, 27, 30, 26, 29, 28], [33, 32, 31, 25, 24, 23, 17, 16, 15, 9, 8, 7, 1, 0, 3, 6, 2, 5, 4, 11, 14, 10, 13, 12, 19, 22, 18, 21, 20, 27, 30, 26, 29, 28], [34, 33, 32, 31, 25, 24, 23, 17, 16, 15, 9, 8, 7, 1, 0, 3, 6, 2, 5, 4, 11, 14, 10, 13, 12, 19, 22, 18, 21, 20, 27, 30, 26, 29, 28], [33, 32, 31, 25, 24, 23, 17, 16, 15, 9, 8, 7, 1, 0, 3, 6, 2, 5, 4, 11, 14, 10, 13, 12, 19, 22, 18, 21, 20, 27, 30, 26, 29, 28], [36, 33, 32, 31, 25, 24, 23, 17, 16, 15, 9, 8, 7, 1, 0, 3, 6, 2, 5, 4, 11, 14, 10, 13, 12, 19, 22, 18, 21, 20, 27, 30, 26, 29, 28], [37, 33, 36, 32, 31, 25, 24, 23, 17, 16, 15, 9, 8, 7, 1, 0, 3, 6, 2, 5, 4, 11, 14, 10, 13, 12, 19, 22, 18, 21, 20, 27, 30, 26, 29, 28], [35, 38, 33, 34, 32, 31, 25, 24, 23, 17, 16, 15, 9, 8, 7, 1, 0, 3, 6, 2, 5, 4, 11, 14, 10, 13, 12, 19, 22, 18, 21, 20, 27, 30, 26, 29, 28, 37, 36], [33, 39, 32, 31, 25, 24, 23, 17, 16, 15, 9, 8, 7, 1, 0, 3, 6, 2, 5, 4, 11, 14, 10, 13, 12, 19, 22, 18, 21, 20, 27, 30, 26, 29, 28, 35, 38, 34, 37, 36], [40, 39, 0, 1, 2, 3, 4, 5, 6, 7, 8, 9, 10, 11, 12, 13, 14, 15, 16, 17, 18, 19, 20, 21, 22, 23, 24, 25, 26, 27, 28, 29, 30, 31, 32, 33, 34, 35, 36, 37, 38]] [7, 15, 23, 31, 39] [] [[], [], [], [], [], [], [], [], [], [], [], [], [], [], [], [], [], [], [], [], [], [], [], [], [], [], [], [], [], [], [], [], [], [], [], [], [], [], [], [], [], []] [[], [], [], [], [], [], [], [], [], [], [], [], [], [], [], [], [], [], [], [], [], [], [], [], [], [], [], [], [], [], [], [], [], [], [], [], [], [], [], [], [], []] [] [] [] []
      [some ?v0, some ?v1, some ?v2, some ?v3, some ?v4, some ?v5, some ?v6, some (.bool true), some ?v8, some ?v9, some ?v10, some ?v11, some ?v12, some ?v13, some ?v14, some (.bool true), some ?v16, some ?v17, some ?v18, some ?v19, some ?v20, some ?v21, some ?v22, some (.bool true), some ?v24, some ?v25, some ?v26, some ?v27, some ?v28, some ?v29, some ?v30, some (.bool true), some ?v32, some ?v33, some ?v34, some ?v35, some ?v36, some ?v37, some ?v38, some (.bool true), some ?v40, some ?v41]
      ?T (fun wx => Is wx sb 93 (srtV 2) ∧ Is wx mb 27 (pliC a b) ∧ Only (fun _ => False) w2 wx) ?W ?E (by kernel_rfl) (by kernel_rfl) (by kernel_rfl) (fun x => ?hT) ?hF ?hini (Reg.all_ops ?runs) ?pres ?fin
  case W => exact fun j x w' => True
  case E => exact fun _ w' w'' => True
  case hT =>
    simp only [Reg.fillV, Act.put, List.setIfInBounds_toArray, List.set_cons_zero, List.set_cons_succ]
    rfl
  case runs =>
    refine And.intro ?_ ?_
    · refine Reg.ob_pure (fun _ => rfl) rfl rfl rfl rfl (fun x w1 hF => ?_)
      obtain ⟨c3, c4, c5, c6, c7, c8, c9, c10, c11, c12⟩ := srt2_cells hF.1
      obtain ⟨m0, m1, m2, m3, m4, m5, m6, m7⟩ := pli_cells hF.2.1
      go_simp
      with_reducible rfl
    refine And.intro ?_ ?_
    · refine Reg.ob_pure (fun _ => rfl) rfl rfl rfl rfl (fun x w1 hF => ?_)
      obtain ⟨c3, c4, c5, c6, c7, c8, c9, c10, c11, c12⟩ := srt2_cells hF.1
      obtain ⟨m0, m1, m2, m3, m4, m5, m6, m7⟩ := pli_cells hF.2.1
      go_simp
      with_reducible rfl
    refine And.intro ?_ ?_
    · refine Reg.ob_pure (fun _ => rfl) rfl rfl rfl rfl (fun x w1 hF => ?_)
      obtain ⟨c3, c4, c5, c6, c7, c8, c9, c10, c11, c12⟩ := srt2_cells hF.1
      obtain ⟨m0, m1, m2, m3, m4, m5, m6, m7⟩ := pli_cells hF.2.1
      go_simp
      with_reducible rfl
    refine And.intro ?_ ?_
    · refine Reg.ob_pure (fun _ => rfl) rfl rfl rfl rfl (fun x w1 hF => ?_)
      obtain ⟨c3, c4, c5, c6, c7, c8, c9, c10, c11, c12⟩ := srt2_cells hF.1
      obtain ⟨m0, m1, m2, m3, m4, m5, m6, m7⟩ := pli_cells hF.2.1
      go_simp
      with_reducible rfl
    refine And.intro ?_ ?_
    · refine Reg.ob_pure (fun _ => rfl) rfl rfl rfl rfl (fun x w1 hF => ?_)
      obtain ⟨c3, c4, c5, c6, c7, c8, c9, c10, c11, c12⟩ := srt2_cells hF.1
      obtain ⟨m0, m1, m2, m3, m4, m5, m6, m7⟩ := pli_cells hF.2.1
      go_simp
      with_reducible rfl
    refine And.intro ?_ ?_
    · refine Reg.ob_pure (fun _ => rfl) rfl rfl rfl rfl (fun x w1 hF => ?_)
      obtain ⟨c3, c4, c5, c6, c7, c8, c9, c10, c11, c12⟩ := srt2_cells hF.1
      obtain ⟨m0, m1, m2, m3, m4, m5, m6, m7⟩ := pli_cells hF.2.1
      go_simp
      with_reducible rfl
    refine And.intro ?_ ?_
    · refine Reg.ob_pure (fun _ => rfl) rfl rfl rfl rfl (fun x w1 hF => ?_)
      obtain ⟨c3, c4, c5, c6, c7, c8, c9, c10, c11, c12⟩ := srt2_cells hF.1
      obtain ⟨m0, m1, m2, m3, m4, m5, m6, m7⟩ := pli_cells hF.2.1
      go_simp
      with_reducible rfl
    refine And.intro ?_ ?_
    · refine Reg.ob_known (fun _ => rfl) rfl rfl (fun x w1 hF hU K hK => ?_)
      obtain ⟨h1, h2, h3⟩ := hF rfl
      go_simp
      refine (holds_yes _ _ _ w1 (by decide) (by decide)).mono ?_
      rintro e w3 ⟨rfl, ho⟩
      exact hK w3 (fun _ _ _ => ⟨h1.only ho (by simp), h2.only ho (by simp), only_more h3 ho⟩) trivial
    refine And.intro ?_ ?_
    · refine Reg.ob_pure (fun _ => rfl) rfl rfl rfl rfl (fun x w1 hF => ?_)
      obtain ⟨c3, c4, c5, c6, c7, c8, c9, c10, c11, c12⟩ := srt2_cells hF.1
      obtain ⟨m0, m1, m2, m3, m4, m5, m6, m7⟩ := pli_cells hF.2.1
      go_simp
      with_reducible rfl
    refine And.intro ?_ ?_
    · refine Reg.ob_pure (fun _ => rfl) rfl rfl rfl rfl (fun x w1 hF => ?_)
      obtain ⟨c3, c4, c5, c6, c7, c8, c9, c10, c11, c12⟩ := srt2_cells hF.1
      obtain ⟨m0, m1, m2, m3, m4, m5, m6, m7⟩ := pli_cells hF.2.1
      go_simp
      with_reducible rfl
    refine And.intro ?_ ?_
    · refine Reg.ob_pure (fun _ => rfl) rfl rfl rfl rfl (fun x w1 hF => ?_)
      obtain ⟨c3, c4, c5, c6, c7, c8, c9, c10, c11, c12⟩ := srt2_cells hF.1
      obtain ⟨m0, m1, m2, m3, m4, m5, m6, m7⟩ := pli_cells hF.2.1
      go_simp
      with_reducible rfl
    refine And.intro ?_ ?_
    · refine Reg.ob_pure (fun _ => rfl) rfl rfl rfl rfl (fun x w1 hF => ?_)
      obtain ⟨c3, c4, c5, c6, c7, c8, c9, c10, c11, c12⟩ := srt2_cells hF.1
      obtain ⟨m0, m1, m2, m3, m4, m5, m6, m7⟩ := pli_cells hF.2.1
      go_simp
      with_reducible rfl
    refine And.intro ?_ ?_
    · refine Reg.ob_pure (fun _ => rfl) rfl rfl rfl rfl (fun x w1 hF => ?_)
      obtain ⟨c3, c4, c5, c6, c7, c8, c9, c10, c11, c12⟩ := srt2_cells hF.1
      obtain ⟨m0, m1, m2, m3, m4, m5, m6, m7⟩ := pli_cells hF.2.1
      go_simp
      with_reducible rfl
    refine And.intro ?_ ?_
    · refine Reg.ob_pure (fun _ => rfl) rfl rfl rfl rfl (fun x w1 hF => ?_)
      obtain ⟨c3, c4, c5, c6, c7, c8, c9, c10, c11, c12⟩ := srt2_cells hF.1
      obtain ⟨m0, m1, m2, m3, m4, m5, m6, m7⟩ := pli_cells hF.2.1
      go_simp
      with_reducible rfl
    refine And.intro ?_ ?_
    · refine Reg.ob_pure (fun _ => rfl) rfl rfl rfl rfl (fun x w1 hF => ?_)
      obtain ⟨c3, c4, c5, c6, c7, c8, c9, c10, c11, c12⟩ := srt2_cells hF.1
      obtain ⟨m0, m1, m2, m3, m4, m5, m6, m7⟩ := pli_cells hF.2.1
      go_simp
      with_reducible rfl
    refine And.intro ?_ ?_
    · refine Reg.ob_known (fun _ => rfl) rfl rfl (fun x w1 hF hU K hK => ?_)
      obtain ⟨h1, h2, h3⟩ := hF rfl
      go_simp
      refine (holds_yes _ _ _ w1 (by decide) (by decide)).mono ?_
      rintro e w3 ⟨rfl, ho⟩
      exact hK w3 (fun _ _ _ => ⟨h1.only ho (by simp), h2.only ho (by simp), only_more h3 ho⟩) trivial
    refine And.intro ?_ ?_
    · refine Reg.ob_pure (fun _ => rfl) rfl rfl rfl rfl (fun x w1 hF => ?_)
      obtain ⟨c3, c4, c5, c6, c7, c8, c9, c10, c11, c12⟩ := srt2_cells hF.1
      obtain ⟨m0, m1, m2, m3, m4, m5, m6, m7⟩ := pli_cells hF.2.1
      go_simp
      with_reducible rfl
    refine And.intro ?_ ?_
    · refine Reg.ob_pure (fun _ => rfl) rfl rfl rfl rfl (fun x w1 hF => ?_)
      obtain ⟨c3, c4, c5, c6, c7, c8, c9, c10, c11, c12⟩ := srt2_cells hF.1
      obtain ⟨m0, m1, m2, m3, m4, m5, m6, m7⟩ := pli_cells hF.2.1
      go_simp
      with_reducible rfl
    refine And.intro ?_ ?_
    · refine Reg.ob_pure (fun _ => rfl) rfl rfl rfl rfl (fun x w1 hF => ?_)
      obtain ⟨c3, c4, c5, c6, c7, c8, c9, c10, c11, c12⟩ := srt2_cells hF.1
      obtain ⟨m0, m1, m2, m3, m4, m5, m6, m7⟩ := pli_cells hF.2.1
      go_simp
      with_reducible rfl
    refine And.intro ?_ ?_
    · refine Reg.ob_pure (fun _ => rfl) rfl rfl rfl rfl (fun x w1 hF => ?_)
      obtain ⟨c3, c4, c5, c6, c7, c8, c9, c10, c11, c12⟩ := srt2_cells hF.1
      obtain ⟨m0, m1, m2, m3, m4, m5, m6, m7⟩ := pli_cells hF.2.1
      go_simp
      with_reducible rfl
    refine And.intro ?_ ?_
    · refine Reg.ob_pure (fun _ => rfl) rfl rfl rfl rfl (fun x w1 hF => ?_)
      obtain ⟨c3, c4, c5, c6, c7, c8, c9, c10, c11, c12⟩ := srt2_cells hF.1
      obtain ⟨m0, m1, m2, m3, m4, m5, m6, m7⟩ := pli_cells hF.2.1
      go_simp
      with_reducible rfl
    refine And.intro ?_ ?_
    · refine Reg.ob_pure (fun _ => rfl) rfl rfl rfl rfl (fun x w1 hF => ?_)
      obtain ⟨c3, c4, c5, c6, c7, c8, c9, c10, c11, c12⟩ := srt2_cells hF.1
      obtain ⟨m0, m1, m2, m3, m4, m5, m6, m7⟩ := pli_cells hF.2.1
      go_simp
      with_reducible rfl
    refine And.intro ?_ ?_
    · refine Reg.ob_pure (fun _ => rfl) rfl rfl rfl rfl (fun x w1 hF => ?_)
      obtain ⟨c3, c4, c5, c6, c7, c8, c9, c10, c11, c12⟩ := srt2_cells hF.1
      obtain ⟨m0, m1, m2, m3, m4, m5, m6, m7⟩ := pli_cells hF.2.1
      go_simp
      with_reducible rfl
    refine And.intro ?_ ?_
    · refine Reg.ob_known (fun _ => rfl) rfl rfl (fun x w1 hF hU K hK => ?_)
      obtain ⟨h1, h2, h3⟩ := hF rfl
      go_simp
      refine (holds_yes _ _ _ w1 (by decide) (by decide)).mono ?_
      rintro e w3 ⟨rfl, ho⟩
      exact hK w3 (fun _ _ _ => ⟨h1.only ho (by simp), h2.only ho (by simp), only_more h3 ho⟩) trivial
    refine And.intro ?_ ?_
    · refine Reg.ob_pure (fun _ => rfl) rfl rfl rfl rfl (fun x w1 hF => ?_)
      obtain ⟨c3, c4, c5, c6, c7, c8, c9, c10, c11, c12⟩ := srt2_cells hF.1
      obtain ⟨m0, m1, m2, m3, m4, m5, m6, m7⟩ := pli_cells hF.2.1
      go_simp
      with_reducible rfl
    refine And.intro ?_ ?_
    · refine Reg.ob_pure (fun _ => rfl) rfl rfl rfl rfl (fun x w1 hF => ?_)
      obtain ⟨c3, c4, c5, c6, c7, c8, c9, c10, c11, c12⟩ := srt2_cells hF.1
      obtain ⟨m0, m1, m2, m3, m4, m5, m6, m7⟩ := pli_cells hF.2.1
      go_simp
      with_reducible rfl
    refine And.intro ?_ ?_
    · refine Reg.ob_pure (fun _ => rfl) rfl rfl rfl rfl (fun x w1 hF => ?_)
      obtain ⟨c3, c4, c5, c6, c7, c8, c9, c10, c11, c12⟩ := srt2_cells hF.1
      obtain ⟨m0, m1, m2, m3, m4, m5, m6, m7⟩ := pli_cells hF.2.1
      go_simp
      with_reducible rfl
    refine And.intro ?_ ?_
    · refine Reg.ob_pure (fun _ => rfl) rfl rfl rfl rfl (fun x w1 hF => ?_)
      obtain ⟨c3, c4, c5, c6, c7, c8, c9, c10, c11, c12⟩ := srt2_cells hF.1
      obtain ⟨m0, m1, m2, m3, m4, m5, m6, m7⟩ := pli_cells hF.2.1
      go_simp
      with_reducible rfl
    refine And.intro ?_ ?_
    · refine Reg.ob_pure (fun _ => rfl) rfl rfl rfl rfl (fun x w1 hF => ?_)
      obtain ⟨c3, c4, c5, c6, c7, c8, c9, c10, c11, c12⟩ := srt2_cells hF.1
      obtain ⟨m0, m1, m2, m3, m4, m5, m6, m7⟩ := pli_cells hF.2.1
      go_simp
      with_reducible rfl
    refine And.intro ?_ ?_
    · refine Reg.ob_pure (fun _ => rfl) rfl rfl rfl rfl (fun x w1 hF => ?_)
      obtain ⟨c3, c4, c5, c6, c7, c8, c9, c10, c11, c12⟩ := srt2_cells hF.1
      obtain ⟨m0, m1, m2, m3, m4, m5, m6, m7⟩ := pli_cells hF.2.1
      go_simp
      with_reducible rfl
    refine And.intro ?_ ?_
    · refine Reg.ob_pure (fun _ => rfl) rfl rfl rfl rfl (fun x w1 hF => ?_)
      obtain ⟨c3, c4, c5, c6, c7, c8, c9, c10, c11, c12⟩ := srt2_cells hF.1
      obtain ⟨m0, m1, m2, m3, m4, m5, m6, m7⟩ := pli_cells hF.2.1
      go_simp
      with_reducible rfl
    refine And.intro ?_ ?_
    · refine Reg.ob_known (fun _ => rfl) rfl rfl (fun x w1 hF hU K hK => ?_)
      obtain ⟨h1, h2, h3⟩ := hF rfl
      go_simp
      refine (holds_yes _ _ _ w1 (by decide) (by decide)).mono ?_
      rintro e w3 ⟨rfl, ho⟩
      exact hK w3 (fun _ _ _ => ⟨h1.only ho (by simp), h2.only ho (by simp), only_more h3 ho⟩) trivial
    refine And.intro ?_ ?_
    · refine Reg.ob_pure (fun _ => rfl) rfl rfl rfl rfl (fun x w1 hF => ?_)
      obtain ⟨c3, c4, c5, c6, c7, c8, c9, c10, c11, c12⟩ := srt2_cells hF.1
      obtain ⟨m0, m1, m2, m3, m4, m5, m6, m7⟩ := pli_cells hF.2.1
      go_simp
      with_reducible rfl
    refine And.intro ?_ ?_
    · refine Reg.ob_pure (fun _ => rfl) rfl rfl rfl rfl (fun x w1 hF => ?_)
      obtain ⟨c3, c4, c5, c6, c7, c8, c9, c10, c11, c12⟩ := srt2_cells hF.1
      obtain ⟨m0, m1, m2, m3, m4, m5, m6, m7⟩ := pli_cells hF.2.1
      go_simp
      with_reducible rfl
    refine And.intro ?_ ?_
    · refine Reg.ob_pure (fun _ => rfl) rfl rfl rfl rfl (fun x w1 hF => ?_)
      obtain ⟨c3, c4, c5, c6, c7, c8, c9, c10, c11, c12⟩ := srt2_cells hF.1
      obtain ⟨m0, m1, m2, m3, m4, m5, m6, m7⟩ := pli_cells hF.2.1
      go_simp
      with_reducible rfl
    refine And.intro ?_ ?_
    · refine Reg.ob_pure (fun _ => rfl) rfl rfl rfl rfl (fun x w1 hF => ?_)
      obtain ⟨c3, c4, c5, c6, c7, c8, c9, c10, c11, c12⟩ := srt2_cells hF.1
      obtain ⟨m0, m1, m2, m3, m4, m5, m6, m7⟩ := pli_cells hF.2.1
      go_simp
      with_reducible rfl
    refine And.intro ?_ ?_
    · refine Reg.ob_pure (fun _ => rfl) rfl rfl rfl rfl (fun x w1 hF => ?_)
      obtain ⟨c3, c4, c5, c6, c7, c8, c9, c10, c11, c12⟩ := srt2_cells hF.1
      obtain ⟨m0, m1, m2, m3, m4, m5, m6, m7⟩ := pli_cells hF.2.1
      go_simp
      with_reducible rfl
    refine And.intro ?_ ?_
    · refine Reg.ob_pure (fun _ => rfl) rfl rfl rfl rfl (fun x w1 hF => ?_)
      obtain ⟨c3, c4, c5, c6, c7, c8, c9, c10, c11, c12⟩ := srt2_cells hF.1
      obtain ⟨m0, m1, m2, m3, m4, m5, m6, m7⟩ := pli_cells hF.2.1
      go_simp
      with_reducible rfl
    refine And.intro ?_ ?_
    · refine Reg.ob_pure (fun _ => rfl) rfl rfl rfl rfl (fun x w1 hF => ?_)
      obtain ⟨c3, c4, c5, c6, c7, c8, c9, c10, c11, c12⟩ := srt2_cells hF.1
      obtain ⟨m0, m1, m2, m3, m4, m5, m6, m7⟩ := pli_cells hF.2.1
      go_simp
      with_reducible rfl
    refine And.intro ?_ ?_
    · refine Reg.ob_known (fun _ => rfl) rfl rfl (fun x w1 hF hU K hK => ?_)
      obtain ⟨h1, h2, h3⟩ := hF rfl
      go_simp
      refine (holds_yes _ _ _ w1 (by decide) (by decide)).mono ?_
      rintro e w3 ⟨rfl, ho⟩
      exact hK w3 (fun _ _ _ => ⟨h1.only ho (by simp), h2.only ho (by simp), only_more h3 ho⟩) trivial
    refine And.intro ?_ ?_
    · refine Reg.ob_pure (fun _ => rfl) rfl rfl rfl rfl (fun x w1 hF => ?_)
      obtain ⟨c3, c4, c5, c6, c7, c8, c9, c10, c11, c12⟩ := srt2_cells hF.1
      obtain ⟨m0, m1, m2, m3, m4, m5, m6, m7⟩ := pli_cells hF.2.1
      go_simp
      with_reducible rfl
    refine And.intro ?_ ?_
    · refine Reg.ob_pure (fun _ => rfl) rfl rfl rfl rfl (fun x w1 hF => ?_)
      obtain ⟨c3, c4, c5, c6, c7, c8, c9, c10, c11, c12⟩ := srt2_cells hF.1
      obtain ⟨m0, m1, m2, m3, m4, m5, m6, m7⟩ := pli_cells hF.2.1
      go_simp
      with_reducible rfl
    exact trivial
  case hF =>
    exact ⟨S2.out, I2.out, Only.refl _ _⟩
  case hini =>
    exact trivial
  case pres =>
    intro i hi j hj hc x w1 w2 hF hE hW
    trivial
  case fin =>
    rintro x w9 hF -
    have O9 := Lib.hid (hF rfl).2.2
    clear hF
    go_wp2
    go_ret
    exact ⟨rfl, only_more P2.out O9.out⟩
end Go.Proofs.Ytefcimkopgcagaa
