/- floor: FloorNone's walk. Conditions: as each says. -/
import Derived.Test.YtelfeedaadkhnaaFlM
set_option linter.unusedVariables false
set_option linter.unusedSimpArgs false
namespace Go.Proofs.Ytelfeedaadkhnaa
open Go Go.RowKit

set_option maxRecDepth 20000 in
set_option maxHeartbeats 1000000 in
theorem holder_nil (w : World) : Calls Try.prog 15 #[.pointer none] w (SaysF (.tuple #[gV 0 0 0, .bool false]) w) := by
  go_enter Try.func15, Try.ntmps15
  go_wp2_with fail
  refine (there_nil _).mono ?_
  rintro e w1 ⟨rfl, rfl⟩
  go_wp2
  refine bodyPost_ret (results_is Try.results15 _ _ w.heap.size 48 _ _ (.bool false) rfl rfl (Is.made w _ zeroGr) Try.underlying48 rfl Try.sizeGr) rfl ?_
  exact ⟨rfl, (Only.refl _ w).alloc _⟩
theorem does_nil (k who other now by_ : Nat) (flag : Bool) (w : World) (hk : k < 6) : Calls Try.prog 11 #[.pointer none, actV (k : Int) who other flag by_, .int .u64 (now : Int)] w (SaysF (.int .i64 1) w) := by
  refine (does_go (.pointer none) (k : Int) who other now by_ flag w (fun v w' => v = .int .i64 1 ∧ Only (fun _ => False) w w') k (by omega) (by omega) ?_).mono (fun e w' h => ?_)
  · have ho : Only (fun _ => False) w (w.alloc (.cells #[.int .i64 (k : Int), .int .u32 (who : Int), .int .u32 (other : Int), .bool flag, .int .u8 (by_ : Int)] 40)) := (Only.refl _ w).alloc _
    have : k = 0 ∨ k = 1 ∨ k = 2 ∨ k = 3 ∨ k = 4 ∨ k = 5 := by omega
    rcases this with rfl | rfl | rfl | rfl | rfl | rfl
    · exact (join_nil who flag _).mono (fun e w' ⟨h1, h2⟩ => ⟨_, h1, rfl, h2 ▸ ho⟩)
    · exact (leave_nil who now _).mono (fun e w' ⟨h1, h2⟩ => ⟨_, h1, rfl, h2 ▸ ho⟩)
    · exact (request_nil who now _).mono (fun e w' ⟨h1, h2⟩ => ⟨_, h1, rfl, h2 ▸ ho⟩)
    · exact (request_nil who now _).mono (fun e w' ⟨h1, h2⟩ => ⟨_, h1, rfl, h2 ▸ ho⟩)
    · exact (release_nil who now _).mono (fun e w' ⟨h1, h2⟩ => ⟨_, h1, rfl, h2 ▸ ho⟩)
    · exact (revoke_nil who other now _).mono (fun e w' ⟨h1, h2⟩ => ⟨_, h1, rfl, h2 ▸ ho⟩)
  · obtain ⟨v, rfl, rfl, h⟩ := h
    exact ⟨rfl, h⟩
set_option maxRecDepth 20000 in
set_option maxHeartbeats 1000000 in
theorem tick_nil (now : Nat) (w : World) : Calls Try.prog 21 #[.pointer none, .int .u64 (now : Int)] w (SaysF (.bool false) w) := by
  go_enter Try.func21, Try.ntmps21
  go_upto_region 1 with (fail)
  refine ftk0 w _ _ _ _ _ _ _ _ _ _ _ _ _ _ _ _ _ _ _ _ _ _ _ _ w (Only.refl _ w) ?_
  rintro y5 y6 y7 y8 y9 y10 y11 y12 y13 y14 y15 y16 y17 y18 y19 w2 hG
  have HG := Lib.hid hG
  clear hG
  go_wp2
  go_ret
  exact ⟨rfl, HG.out⟩
theorem eq_000 (w : World) : (binOp .eql 48 (.agg #[.int .u64 0, .int .u32 0, .int .u64 0]) (.agg #[.int .u64 0, .int .u32 0, .int .u64 0])).run Try.prog w = .ok (.bool true) w := by kernel_rfl
theorem Try.sizeAct : (Try.prog.info? 40).map (·.size) = some 5 := by kernel_rfl
set_option maxRecDepth 100000 in
set_option maxHeartbeats 8000000 in
theorem fnone_walk (d : Int) (who other by_ : Nat) (flag : Bool) (w : World) : Calls Try.prog 5 #[actV d who other flag by_] w (SaysF (.bool true) w) := by
  go_enter Try.func5, Try.ntmps5
  go_wp2_with fail
  have hA := Is.made w 40 #[.int .i64 d, .int .u32 (who : Int), .int .u32 (other : Int), .bool flag, .int .u8 (by_ : Int)]
  have hO := (Only.refl (fun _ => False) w).alloc (.cells #[.int .i64 d, .int .u32 (who : Int), .int .u32 (other : Int), .bool flag, .int .u8 (by_ : Int)] 40)
  refine (holder_nil _).mono ?_
  rintro e w1 ⟨rfl, ho⟩
  have HA := Lib.hid (hA.only ho (by simp))
  have HO := Lib.hid (hO.trans ho (fun _ _ e => e))
  clear hA hO ho
  go_wp2
  have hG := Is.made w1 48 #[.int .u64 0, .int .u32 0, .int .u64 0]
  have hO1 := HO.out.alloc (.cells #[.int .u64 0, .int .u32 0, .int .u64 0] 48)
  have hA1 := HA.out.alloc (.cells #[.int .u64 0, .int .u32 0, .int .u64 0] 48)
  have hwg := HO.out.size
  generalize w1.alloc (.cells #[.int .u64 0, .int .u32 0, .int .u64 0] 48) = w2 at *
  generalize w1.heap.size = gb at *
  have hne := Lib.hid (hA1.apart hG (by decide))
  have R0 := Lib.hid (And.intro hA1 (And.intro hG hO1))
  clear HA HO hG hO1 hA1
  go_loopw [6] (fun s6 wr => ∃ k : Nat, k ≤ 6 ∧ s6 = .int .i64 (k : Int) ∧ ∃ z : Int, Hid (Is wr w.heap.size 40 #[.int .i64 z, .int .u32 (who : Int), .int .u32 (other : Int), .bool flag, .int .u8 (by_ : Int)] ∧ Is wr gb 48 #[.int .u64 0, .int .u32 0, .int .u64 0] ∧ Only (fun _ => False) w wr)) (fun s6 _ => 6 - (intOf s6).toNat)
  case atStart => exact ⟨0, by omega, rfl, d, R0⟩
  case round =>
    obtain ⟨k, hk, rfl, z, hR⟩ := hrel
    by_cases hlt : k < 6
    · have hltI : (k : Int) < 6 := by omega
      have c0 : wr.cell? ⟨w.heap.size, 0, none⟩ = some (.int .i64 z) := hR.out.1.cell 0
      have f0 := hR.out.1.free 0
      have hS : Only (fun j => j = w.heap.size) wr (wr.setCell ⟨w.heap.size, 0, none⟩ (.int .i64 (k : Int))) := Only.set (S := fun j => j = w.heap.size) (p := ⟨w.heap.size, 0, none⟩) (Only.refl _ wr) (fun _ => rfl) _
      have H3 := Lib.hid (show Is (wr.setCell ⟨w.heap.size, 0, none⟩ (.int .i64 (k : Int))) w.heap.size 40 #[.int .i64 (k : Int), .int .u32 (who : Int), .int .u32 (other : Int), .bool flag, .int .u8 (by_ : Int)] ∧ Is (wr.setCell ⟨w.heap.size, 0, none⟩ (.int .i64 (k : Int))) gb 48 #[.int .u64 0, .int .u32 0, .int .u64 0] ∧ Only (fun _ => False) w (wr.setCell ⟨w.heap.size, 0, none⟩ (.int .i64 (k : Int))) from ⟨hR.out.1.put 0 _, hR.out.2.1.only hS (fun e => hne.out e.symm), hR.out.2.2.trans hS (fun i hi e => by omega)⟩)
      clear hS hR
      go_upto_region 7 with (fail)
      generalize wr.setCell ⟨w.heap.size, 0, none⟩ (.int .i64 (k : Int)) = w3 at *
      clear c0 f0
      go_wp2_with (refine wpList_load_row (o := ⟨some 19, _, _, _, _, _⟩) rfl _ _ rfl w.heap.size rfl _ _ _ _ H3.out.1 Try.underlying40 rfl Try.sizeAct ?_)
      refine (does_nil k who other 3 by_ flag _ hlt).mono ?_
      rintro e w4 ⟨rfl, ho⟩
      have H4 := Lib.hid (And.intro (H3.out.1.only ho (by simp)) (And.intro (H3.out.2.1.only ho (by simp)) (H3.out.2.2.trans ho (fun _ _ e => e))))
      clear ho
      go_wp2
      exact ⟨⟨k + 1, by omega, by go_num, (k : Int), H4⟩, by simp [intOf]; omega⟩
    · obtain rfl : k = 6 := by omega
      have c1 : wr.cell? ⟨w.heap.size, 1, none⟩ = some (.int .u32 (who : Int)) := hR.out.1.cell 1
      have HG := Lib.hid hR.out.2.1
      have HO := Lib.hid hR.out.2.2
      clear hR
      go_wp2_with fail
      refine (heard_nil who 1 true _).mono ?_
      rintro e w4 ⟨rfl, rfl⟩
      go_wp2_with fail
      refine (tick_nil 9 _).mono ?_
      rintro e w4 ⟨rfl, ho⟩
      replace HO := Lib.hid (HO.out.trans ho (fun _ _ e => e))
      replace HG := Lib.hid (HG.out.only ho (by simp))
      clear ho
      have hq := eq_000 w4
      go_wp2_with (refine wpList_load_midW (op := ⟨some 33, _, _, _, _, _⟩) rfl 48 _ rfl gb 0 rfl _ _ (World.rangeAt_of_block HG.out 0 3) Try.underlying48 rfl Try.sizeGr ?_)
      refine (pending_nil _).mono ?_
      rintro e w5 ⟨rfl, rfl⟩
      go_wp2_with fail
      refine (waiting_nil _).mono ?_
      rintro e w5 ⟨rfl, rfl⟩
      go_wp2_with fail
      refine (members_nil _).mono ?_
      rintro e w5 ⟨rfl, rfl⟩
      go_wp2_with fail
      refine (grants_nil _).mono ?_
      rintro e w5 ⟨rfl, rfl⟩
      go_wp2_with fail
      refine (works_is _).mono ?_
      rintro e w5 ⟨rfl, ho⟩
      go_wp2
      go_ret
      exact ⟨rfl, HO.out.trans ho (fun _ _ e => e)⟩
end Go.Proofs.Ytelfeedaadkhnaa
