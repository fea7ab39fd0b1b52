/- roster: the chapter's examples, walked; RosterNone. Conditions: as each says. -/
import Derived.Test.YtglgmhdajmncjaaRyJ
set_option linter.unusedVariables false
set_option linter.unusedSimpArgs false
namespace Go.Proofs.Ytglgmhdajmncjaa
open Go Go.RowKit

set_option maxRecDepth 100000 in
set_option maxHeartbeats 8000000 in
theorem rworks_is (w : World) : Calls Try.prog 18 #[] w (SaysR (.bool true) w) := by
  have HN := Lib.hid (show Calls Try.prog 19 #[.int .i64 2] w (RMade 2 w) from mnew_yes 2 w (by decide))
  go_enter Try.func18, Try.ntmps18
  go_wp2_with fail
  refine HN.out.mono ?_
  rintro e w0 ⟨b, mb, rfl, h, ho⟩
  have H := Lib.hid (rs_new (by decide) h ho)
  clear h ho HN
  go_wp2_with fail
  refine (rk1 H.out).mono ?_
  rintro e w1 ⟨rfl, h, -⟩
  replace H := Lib.hid h
  clear h
  go_wp2_with fail
  refine (rk2 H.out).mono ?_
  rintro e w2 ⟨rfl, h, -⟩
  replace H := Lib.hid h
  clear h
  go_wp2_with fail
  refine (rk3 H.out).mono ?_
  rintro e w3 ⟨rfl, h, -⟩
  replace H := Lib.hid h
  clear h
  go_wp2_with fail
  refine (rk4 H.out).mono ?_
  rintro e w4 ⟨rfl, h, -⟩
  replace H := Lib.hid h
  clear h
  go_wp2_with fail
  refine (rk5 H.out).mono ?_
  rintro e w5 ⟨rfl, h, -⟩
  replace H := Lib.hid h
  clear h
  go_wp2_with fail
  refine (rk6 H.out).mono ?_
  rintro e w6 ⟨rfl, h, -⟩
  replace H := Lib.hid h
  clear h
  go_wp2_with fail
  refine (rk7 H.out).mono ?_
  rintro e w7 ⟨rfl, ho⟩
  replace H := Lib.hid (H.out.go ho)
  clear ho
  go_upto_region 7 with (fail)
  have hA := (Only.refl (fun _ => False) w7).alloc (.cells #[.int .i64 5, .int .u32 10, .int .u32 11, .bool false] 58)
  have h := H.out.more (T := fun k => k = w7.heap.size) hA (fun k hk => .inr (by rw [hk]; simp))
  replace H := Lib.hid h
  have G1 := Lib.hid (Is.made w7 58 #[.int .i64 5, .int .u32 10, .int .u32 11, .bool false])
  generalize w7.alloc (.cells #[.int .i64 5, .int .u32 10, .int .u32 11, .bool false] 58) = w8 at *
  generalize w7.heap.size = g1 at *
  clear hA h
  go_wp2_with fail
  refine (rk8 H.out).mono ?_
  rintro e w9 ⟨rfl, ho⟩
  replace G1 := Lib.hid (G1.out.only ho (by simp))
  replace H := Lib.hid (H.out.go ho)
  clear ho
  go_upto_region 8 with (fail)
  have hA := (Only.refl (fun _ => False) w9).alloc (.cells #[.int .i64 6, .int .u32 12, .int .u32 13, .bool false] 58)
  have h := H.out.more (T := fun k => k = g1 ∨ k = w9.heap.size) hA (fun k hk => hk.elim .inl (fun e => .inr (by rw [e]; simp)))
  replace H := Lib.hid h
  have G2 := Lib.hid (Is.made w9 58 #[.int .i64 6, .int .u32 12, .int .u32 13, .bool false])
  replace G1 := Lib.hid (G1.out.only hA (by simp))
  generalize w9.alloc (.cells #[.int .i64 6, .int .u32 12, .int .u32 13, .bool false] 58) = w10 at *
  generalize w9.heap.size = g2 at *
  clear hA h
  go_wp2_with fail
  refine (rk9 H.out).mono ?_
  rintro e w11 ⟨rfl, h, ho⟩
  replace G1 := Lib.hid (G1.out.only ho (by simp))
  replace G2 := Lib.hid (G2.out.only ho (by simp))
  replace H := Lib.hid h
  clear h ho
  go_wp2_with fail
  refine (rk10' H.out).mono ?_
  rintro e w12 ⟨v, rfl, hown, ho⟩
  obtain ⟨g, c, rfl, hc, -, -, hcell⟩ := hown.at_ (by simp)
  have r1 : w12.cell? ⟨g, 0, none⟩ = some (.int .i64 6) := hcell 0 0 _ rfl (by decide)
  have c1 : w12.cell? ⟨g1, 0, none⟩ = some (.int .i64 5) := (G1.out.only ho (by simp)).cell 0
  have c2 : w12.cell? ⟨g2, 0, none⟩ = some (.int .i64 6) := (G2.out.only ho (by simp)).cell 0
  have HO := Lib.hid (H.out.only.trans ho (fun _ _ e => e))
  clear ho hown hcell
  go_wp2
  go_ret
  exact ⟨rfl, HO.out⟩
theorem get_nil0 (id : Int) (w : World) : Calls Try.prog 27 #[.pointer none, .int .i64 id] w (SaysR (.tuple #[.agg #[.int .i64 0, .int .u32 0, .int .u32 0, .bool false], .bool false]) w) := get_nil id w
theorem source_nil0 (s : Nat) (w : World) : Calls Try.prog 28 #[.pointer none, .int .u32 (s : Int)] w (SaysR (.tuple #[.agg #[.int .i64 0, .int .u32 0, .int .u32 0, .bool false], .bool false, .bool false]) w) := source_nil s w
theorem eq_mb0 (w : World) : (binOp .eql 58 (.agg #[.int .i64 0, .int .u32 0, .int .u32 0, .bool false]) (.agg #[.int .i64 0, .int .u32 0, .int .u32 0, .bool false])).run Try.prog w = .ok (.bool true) w := by kernel_rfl
set_option maxRecDepth 100000 in
set_option maxHeartbeats 1000000 in
theorem join_nil (m : Mb) (w : World) : Calls Try.prog 23 #[.pointer none, mbV m] w (SaysR (.int .i64 1) w) := by
  go_enter Try.func23, Try.ntmps23
  go_wp2_with fail
  refine (rthere_nil _).mono ?_
  rintro e w1 ⟨rfl, rfl⟩
  go_wp2
  go_ret
  exact ⟨rfl, (Only.refl _ w).alloc _⟩
set_option maxRecDepth 100000 in
set_option maxHeartbeats 1000000 in
theorem leave_nil (id : Int) (w : World) : Calls Try.prog 21 #[.pointer none, .int .i64 id] w (SaysR (.int .i64 1) w) := by
  go_enter Try.func21, Try.ntmps21
  go_wp2_with fail
  refine (rthere_nil _).mono ?_
  rintro e w1 ⟨rfl, rfl⟩
  go_wp2
  go_ret
  exact ⟨rfl, Only.refl _ w⟩
set_option maxRecDepth 100000 in
set_option maxHeartbeats 8000000 in
theorem rnone_walk (m : Mb) (w : World) : Calls Try.prog 7 #[mbV m] w (SaysR (.bool true) w) := by
  obtain ⟨mi, mc, ma, mm⟩ := m
  go_enter Try.func7, Try.ntmps7
  go_wp2_with fail
  have hA := Is.made w 58 #[.int .i64 mi, .int .u32 (mc : Int), .int .u32 (ma : Int), .bool mm]
  have hO := (Only.refl (fun _ => False) w).alloc (.cells #[.int .i64 mi, .int .u32 (mc : Int), .int .u32 (ma : Int), .bool mm] 58)
  generalize w.heap.size = g0 at *
  refine (get_nil0 mi _).mono ?_
  rintro e w1 ⟨rfl, ho⟩
  have HA := Lib.hid (hA.only ho (by simp))
  have HO := Lib.hid (hO.trans ho (fun _ _ e => e))
  clear hA hO ho
  go_upto_region 3 with (fail)
  have hS := (Only.refl (fun _ => False) w1).alloc (.cells #[.int .i64 0, .int .u32 0, .int .u32 0, .bool false] 58)
  have G1 := Lib.hid (Is.made w1 58 #[.int .i64 0, .int .u32 0, .int .u32 0, .bool false])
  replace HA := Lib.hid (HA.out.only hS (by simp))
  replace HO := Lib.hid (HO.out.trans hS (fun _ _ e => e))
  generalize w1.alloc (.cells #[.int .i64 0, .int .u32 0, .int .u32 0, .bool false] 58) = w2 at *
  generalize w1.heap.size = g1 at *
  clear hS
  have c1 : w2.cell? ⟨g0, 1, none⟩ = some (.int .u32 (mc : Int)) := HA.out.cell 1
  go_wp2_with fail
  refine (source_nil0 mc w2).mono ?_
  rintro e w3 ⟨rfl, ho⟩
  replace HA := Lib.hid (HA.out.only ho (by simp))
  replace G1 := Lib.hid (G1.out.only ho (by simp))
  replace HO := Lib.hid (HO.out.trans ho (fun _ _ e => e))
  clear ho c1
  go_upto_region 4 with (fail)
  have hS := (Only.refl (fun _ => False) w3).alloc (.cells #[.int .i64 0, .int .u32 0, .int .u32 0, .bool false] 58)
  have G2 := Lib.hid (Is.made w3 58 #[.int .i64 0, .int .u32 0, .int .u32 0, .bool false])
  replace HA := Lib.hid (HA.out.only hS (by simp))
  replace G1 := Lib.hid (G1.out.only hS (by simp))
  replace HO := Lib.hid (HO.out.trans hS (fun _ _ e => e))
  generalize w3.alloc (.cells #[.int .i64 0, .int .u32 0, .int .u32 0, .bool false] 58) = w4 at *
  generalize w3.heap.size = g2 at *
  clear hS
  go_wp2_with (refine wpList_load_row (o := ⟨some 25, _, _, _, _, _⟩) rfl _ _ rfl g0 rfl _ _ _ _ HA.out Try.underlying58 rfl Try.sizeMb ?_)
  refine (join_nil ⟨mi, mc, ma, mm⟩ w4).mono ?_
  rintro e w5 ⟨rfl, ho⟩
  replace HA := Lib.hid (HA.out.only ho (by simp))
  replace G1 := Lib.hid (G1.out.only ho (by simp))
  replace G2 := Lib.hid (G2.out.only ho (by simp))
  replace HO := Lib.hid (HO.out.trans ho (fun _ _ e => e))
  clear ho
  have c0 : w5.cell? ⟨g0, 0, none⟩ = some (.int .i64 mi) := HA.out.cell 0
  go_wp2_with fail
  refine (leave_nil mi w5).mono ?_
  rintro e w6 ⟨rfl, ho⟩
  replace G1 := Lib.hid (G1.out.only ho (by simp))
  replace G2 := Lib.hid (G2.out.only ho (by simp))
  replace HO := Lib.hid (HO.out.trans ho (fun _ _ e => e))
  clear ho c0 HA
  have hq := eq_mb0 w6
  go_wp2_with (first
    | (refine wpList_load_want (o := ⟨some 36, _, _, _, _, _⟩) rfl _ _ rfl g1 rfl _ _ _ G1.out Try.underlying58 rfl Try.sizeMb ?_)
    | (refine wpList_load_want (o := ⟨some 45, _, _, _, _, _⟩) rfl _ _ rfl g2 rfl _ _ _ G2.out Try.underlying58 rfl Try.sizeMb ?_))
  refine (ids_nil _).mono ?_
  rintro e w7 ⟨rfl, rfl⟩
  go_wp2_with fail
  refine (all_nil _).mono ?_
  rintro e w7 ⟨rfl, rfl⟩
  go_wp2_with fail
  refine (rlen_nil _).mono ?_
  rintro e w7 ⟨rfl, rfl⟩
  go_wp2_with fail
  refine (rworks_is _).mono ?_
  rintro e w7 ⟨rfl, ho⟩
  go_wp2
  go_ret
  exact ⟨rfl, HO.out.trans ho (fun _ _ e => e)⟩
end Go.Proofs.Ytglgmhdajmncjaa
