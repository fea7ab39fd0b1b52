/- slices.Sort of numbers of 32 digits: choosePivot; the random numbers; breakPatterns. Conditions: as each says. -/
import Derived.Test.YtelfeedaadkhnaaSoG
import Derived.Test.YtelfeedaadkhnaaFbF
import Derived.Laws.BitsAllLaws
set_option linter.unusedVariables false
set_option linter.unusedSimpArgs false
namespace Go.Proofs.Ytelfeedaadkhnaa
open Go Go.RowKit

set_option maxRecDepth 100000 in
set_option maxHeartbeats 4000000 in
theorem pivot_is (B g c N a b : Nat) (f : Nat → Nat) (w : World) (hN : N ≤ 1000) (hab : a + 8 ≤ b) (hs : b < a + 50) (hb : b ≤ N) (hR : Rw B g c N f w w) :
    Calls Try.prog 69 #[.slice (some ⟨g, 0, none⟩) N c, .int .i64 (a : Int), .int .i64 (b : Int)] w fun e w' => ∃ p hint : Nat, e = .returned (.tuple #[.int .i64 (p : Int), .int .i64 (hint : Int)]) ∧ (a ≤ p ∧ p < b) ∧ Rw B g c N f w w' := by
  obtain ⟨l, hl⟩ : ∃ l, b = a + l := ⟨b - a, by omega⟩
  obtain ⟨q, hq⟩ : ∃ q, l / 4 = q := ⟨_, rfl⟩
  have eD : IntKind.i64.wrap ((b : Int) - (a : Int)) = (l : Int) := by rw [IntKind.wrap_i64]; omega
  have eA : (l : Int).tdiv 4 = (q : Int) := by rw [Int.tdiv_eq_ediv_of_nonneg (by omega)]; omega
  have eB : (l : Int) / 4 = (q : Int) := by omega
  have eC : IntKind.i64.wrap (q : Int) = (q : Int) := by rw [IntKind.wrap_i64]; omega
  have e2 : IntKind.i64.wrap ((q : Int) * 2) = (q : Int) * 2 := by rw [IntKind.wrap_i64]; omega
  have e3 : IntKind.i64.wrap ((q : Int) * 3) = (q : Int) * 3 := by rw [IntKind.wrap_i64]; omega
  have e4 : IntKind.i64.wrap ((a : Int) + (q : Int)) = (a : Int) + (q : Int) := by rw [IntKind.wrap_i64]; omega
  have e5 : IntKind.i64.wrap ((a : Int) + (q : Int) * 2) = (a : Int) + (q : Int) * 2 := by rw [IntKind.wrap_i64]; omega
  have e6 : IntKind.i64.wrap ((a : Int) + (q : Int) * 3) = (a : Int) + (q : Int) * 3 := by rw [IntKind.wrap_i64]; omega
  have h1 : (l : Int) ≥ 8 := by omega
  have h2 : ¬ (l : Int) ≥ 50 := by omega
  have HP := Lib.hid (show ∀ x : Nat, (x = a + q ∨ x = a + q * 2 ∨ x = a + q * 3) → a ≤ x ∧ x < b from fun x hx => by omega)
  have HQ := Lib.hid (show a + q * 3 < N from by omega)
  have R0 := Lib.hid hR
  clear hl hq hR
  go_enter Try.func69, Try.ntmps69
  go_wp2_with fail
  have ho : Only (fun _ => False) w (w.alloc (.cells #[.int .i64 0] 3)) := (Only.refl _ w).alloc _
  refine (show Calls Try.prog 81 #[.slice (some ⟨g, 0, none⟩) N c, .int .i64 ((a : Int) + (q : Int)), .int .i64 ((a : Int) + (q : Int) * 2), .int .i64 ((a : Int) + (q : Int) * 3), ptr w.heap.size] (w.alloc (.cells #[.int .i64 0] 3)) _ from median_is B g c N (a + q) (a + q * 2) (a + q * 3) w.heap.size 0 f w (w.alloc (.cells #[.int .i64 0] 3)) hN (by have := HQ.out; omega) (by have := HQ.out; omega) HQ.out (by omega) ⟨R0.out.go ho, Is.made w _ _, Nat.le_refl _⟩).mono ?_
  rintro e w2 ⟨x, z, rfl, hx, hz, hC⟩
  have HX := Lib.hid (HP.out x hx)
  have HC := Lib.hid hC.rw_
  have c0 : w2.cell? ⟨w.heap.size, 0, none⟩ = some (.int .i64 (z : Int)) := hC.is.cell 0
  clear hC hx ho
  have z12 : ¬ (z : Int) = 12 := by omega
  by_cases hz0 : z = 0
  · subst hz0
    go_wp2
    go_ret2
    exact ⟨x, 1, rfl, HX.out, HC.out⟩
  · have hzI : ¬ (z : Int) = 0 := by omega
    go_wp2
    go_ret2
    exact ⟨x, 0, rfl, HX.out, HC.out⟩
theorem len_is (x : Nat) (w : World) (hx : x < 18446744073709551616) : Calls Try.prog 65 #[.int .u64 (x : Int)] w fun e w' => e = .returned (.int .i64 (Lib.bitLen x : Nat)) ∧ w' = w := by
  have HL := Lib.hid (fun w => len64_is x w hx)
  clear hx
  go_enter Try.func65, Try.ntmps65
  go_wp2_with fail
  refine (HL.out _).mono ?_
  rintro e w1 ⟨rfl, rfl⟩
  go_wp2
  go_ret
  exact ⟨rfl, rfl⟩
theorem xor_nat (a b : Int) (h1 : 0 ≤ a ∧ a < 18446744073709551616) (h2 : 0 ≤ b ∧ b < 18446744073709551616) : ∃ y : Nat, bits .xor .u64 a b = (y : Int) ∧ y < 18446744073709551616 := by
  refine ⟨_, u64_xor a b h1.1 h1.2 h2.1 h2.2, ?_⟩
  exact Nat.xor_lt_two_pow (n := 64) (by omega) (by omega)
set_option maxRecDepth 100000 in
set_option maxHeartbeats 1000000 in
theorem next_is (rb r : Nat) (w : World) (hr : r < 18446744073709551616) (hI : Is w rb 115 #[.int .u64 (r : Int)]) :
    Calls Try.prog 79 #[ptr rb] w fun e w' => ∃ y : Nat, e = .returned (.int .u64 (y : Int)) ∧ y < 18446744073709551616 ∧ Is w' rb 115 #[.int .u64 (y : Int)] ∧ Only (fun k => k = rb) w w' := by
  have c0 : w.cell? ⟨rb, 0, none⟩ = some (.int .u64 (r : Int)) := hI.cell 0
  have f0 := hI.free 0
  go_enter Try.func79, Try.ntmps79
  have hI1 := hI
  have hO1 := Only.refl (fun k => k = rb) w
  go_upto_region 1 with (fail)
  go_still_tail 9, (by kernel_rfl)
  obtain ⟨y1, hy1, hl1⟩ := xor_nat (r : Int) (IntKind.u64.wrap ((r : Int) * 8192)) (by omega) (by first | (rw [IntKind.wrap_u64]; omega) | omega)
  rw [hy1]
  obtain ⟨v1, hv1⟩ : ∃ v, v = w.drew := ⟨_, rfl⟩
  have hJ1 : Is v1 rb 115 #[.int .u64 (r : Int)] := by rw [hv1]; exact hI1
  have hP1 : Only (fun k => k = rb) w v1 := by rw [hv1]; exact hO1.drew
  change wpList _ _ _ _ _ w.drew
  rw [← hv1]
  have c1 : v1.cell? ⟨rb, 0, none⟩ = some (.int .u64 (r : Int)) := hJ1.cell 0
  have f1 := hJ1.free 0
  clear hv1 hy1
  go_upto_region 2 with (fail)
  obtain ⟨x1, hx1⟩ : ∃ x, x = v1.setCell ⟨rb, 0, none⟩ (.int .u64 (y1 : Int)) := ⟨_, rfl⟩
  have hI2 : Is x1 rb 115 #[.int .u64 (y1 : Int)] := by rw [hx1]; exact hJ1.put 0 _
  have hO2 : Only (fun k => k = rb) w x1 := by rw [hx1]; exact hP1.set (fun _ => rfl) _
  rw [← hx1]
  have d1 : x1.cell? ⟨rb, 0, none⟩ = some (.int .u64 (y1 : Int)) := hI2.cell 0
  clear hx1 c1 f1 hJ1 hP1
  go_upto_region 2 with (fail)
  go_still_tail 9, (by kernel_rfl)
  obtain ⟨y2, hy2, hl2⟩ := xor_nat (y1 : Int) (((y1 : Int) / 128)) (by omega) (by first | (rw [IntKind.wrap_u64]; omega) | omega)
  rw [hy2]
  obtain ⟨v2, hv2⟩ : ∃ v, v = x1.drew := ⟨_, rfl⟩
  have hJ2 : Is v2 rb 115 #[.int .u64 (y1 : Int)] := by rw [hv2]; exact hI2
  have hP2 : Only (fun k => k = rb) w v2 := by rw [hv2]; exact hO2.drew
  change wpList _ _ _ _ _ x1.drew
  rw [← hv2]
  have c2 : v2.cell? ⟨rb, 0, none⟩ = some (.int .u64 (y1 : Int)) := hJ2.cell 0
  have f2 := hJ2.free 0
  clear hv2 hy2
  go_upto_region 3 with (fail)
  obtain ⟨x2, hx2⟩ : ∃ x, x = v2.setCell ⟨rb, 0, none⟩ (.int .u64 (y2 : Int)) := ⟨_, rfl⟩
  have hI3 : Is x2 rb 115 #[.int .u64 (y2 : Int)] := by rw [hx2]; exact hJ2.put 0 _
  have hO3 : Only (fun k => k = rb) w x2 := by rw [hx2]; exact hP2.set (fun _ => rfl) _
  rw [← hx2]
  have d2 : x2.cell? ⟨rb, 0, none⟩ = some (.int .u64 (y2 : Int)) := hI3.cell 0
  clear hx2 c2 f2 hJ2 hP2
  go_upto_region 3 with (fail)
  go_still_tail 9, (by kernel_rfl)
  obtain ⟨y3, hy3, hl3⟩ := xor_nat (y2 : Int) (IntKind.u64.wrap ((y2 : Int) * 131072)) (by omega) (by first | (rw [IntKind.wrap_u64]; omega) | omega)
  rw [hy3]
  obtain ⟨v3, hv3⟩ : ∃ v, v = x2.drew := ⟨_, rfl⟩
  have hJ3 : Is v3 rb 115 #[.int .u64 (y2 : Int)] := by rw [hv3]; exact hI3
  have hP3 : Only (fun k => k = rb) w v3 := by rw [hv3]; exact hO3.drew
  change wpList _ _ _ _ _ x2.drew
  rw [← hv3]
  have c3 : v3.cell? ⟨rb, 0, none⟩ = some (.int .u64 (y2 : Int)) := hJ3.cell 0
  have f3 := hJ3.free 0
  clear hv3 hy3
  go_upto_region 4 with (fail)
  obtain ⟨x3, hx3⟩ : ∃ x, x = v3.setCell ⟨rb, 0, none⟩ (.int .u64 (y3 : Int)) := ⟨_, rfl⟩
  have hI4 : Is x3 rb 115 #[.int .u64 (y3 : Int)] := by rw [hx3]; exact hJ3.put 0 _
  have hO4 : Only (fun k => k = rb) w x3 := by rw [hx3]; exact hP3.set (fun _ => rfl) _
  rw [← hx3]
  have d3 : x3.cell? ⟨rb, 0, none⟩ = some (.int .u64 (y3 : Int)) := hI4.cell 0
  clear hx3 c3 f3 hJ3 hP3
  go_wp2
  go_ret
  exact ⟨y3, rfl, hl3, hI4, hO4⟩
end Go.Proofs.Ytelfeedaadkhnaa
