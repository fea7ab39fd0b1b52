/- feedback.Right, of every number of a sort. Conditions: as it says. -/
import Derived.Test.YtefcimkopgcagaaFcA
set_option linter.unusedVariables false
namespace Go.Proofs.Ytefcimkopgcagaa
open Go.RowKit

theorem srt0_size : (Try.prog.info? 93).map (·.size) = some (srtV 0).size := by
  rw [Try.sizeSort]
  rfl
theorem srt0_one : (srtV 0).all (·.oneCell') = true := by simp [srtV, srt, mkSrt, Value.oneCell']
set_option maxRecDepth 100000 in
set_option maxHeartbeats 1000000 in
theorem sortof_bad (s : Nat) (w : World) (h : s < 1 ∨ 4 < s) : Calls Try.prog 43 #[.int .u8 s] w fun e w' => e = .returned (.tuple #[.agg (srtV 0), .bool false]) ∧ Only (fun _ => False) w w' := by
  go_enter Try.func43, Try.ntmps43
  by_cases h1 : s < 1
  · have z1 : (s : Int) < 1 := by omega
    clear h
    go_wp2_with (first
      | (refine wpList_build_is (o := ⟨some 10, _, _, _, _, _⟩) rfl _ _ rfl (srtV 0) (by kernel_rfl) ?_)
      | (refine wpList_store_is rfl 93 _ _ rfl w.heap.size (srtV 0) rfl rfl 93 (srtV 0) (Is.made w _ (srtV 0)) srt0_size rfl srt0_one ?_; intro w5 hi5 ho5; have O5 := Lib.hid (fb_made ho5); have I5 := Lib.hid hi5; clear hi5 ho5))
    exact bodyPost_ret (res_pair Try.results43 _ w5 w.heap.size 93 (srtV 0) _ (.bool false) rfl rfl I5.out Try.underlying93 rfl srt0_size) rfl ⟨rfl, O5.out⟩
  · have z1 : ¬ (s : Int) < 1 := by omega
    have z4 : (4 : Int) < (s : Int) := by omega
    clear h h1
    go_wp2_with (first
      | (refine wpList_build_is (o := ⟨some 10, _, _, _, _, _⟩) rfl _ _ rfl (srtV 0) (by kernel_rfl) ?_)
      | (refine wpList_store_is rfl 93 _ _ rfl w.heap.size (srtV 0) rfl rfl 93 (srtV 0) (Is.made w _ (srtV 0)) srt0_size rfl srt0_one ?_; intro w5 hi5 ho5; have O5 := Lib.hid (fb_made ho5); have I5 := Lib.hid hi5; clear hi5 ho5))
    exact bodyPost_ret (res_pair Try.results43 _ w5 w.heap.size 93 (srtV 0) _ (.bool false) rfl rfl I5.out Try.underlying93 rfl srt0_size) rfl ⟨rfl, O5.out⟩
set_option maxRecDepth 100000 in
set_option maxHeartbeats 2000000 in
theorem fright_is (m : Ms) (p1 o1 s1 : Value) (w : World) (h1 : RdM m p1 o1 s1 w) (hl : m.pairs.length ≤ 1000000 ∧ m.orders.length ≤ 1000000 ∧ m.srcs.length ≤ 1000000) (hm : m.mant < 4294967296) (he : m.exp < 256) :
    Calls Try.prog 15 #[.agg (m.cls p1 o1 s1)] w fun e w' => e = .returned (.bool (rightMs m)) ∧ Only (fun _ => False) w w' := by
  by_cases g1 : m.sort = 1
  · exact fright_1 m p1 o1 s1 w h1 g1 hl hm he
  by_cases g2 : m.sort = 2
  · exact fright_2 m p1 o1 s1 w h1 g2 hl hm he
  by_cases g3 : m.sort = 3
  · exact fright_3 m p1 o1 s1 w h1 g3 hl hm he
  by_cases g4 : m.sort = 4
  · exact fright_4 m p1 o1 s1 w h1 g4 hl hm he
  have hf : rightMs m = false := decide_eq_false (by unfold okMs; omega)
  rw [hf]
  have HSO := Lib.hid (fun w => sortof_bad m.sort w (by omega))
  have HC := Lib.hid (fun b wx => @cls_cells m p1 o1 s1 wx b 27)
  generalize m.sort = s at *
  obtain ⟨A, hA⟩ : ∃ a, m.cls p1 o1 s1 = a := ⟨_, rfl⟩
  rw [hA] at HC ⊢
  clear hA h1 hf hl hm he g1 g2 g3 g4
  go_enter Try.func15, Try.ntmps15
  go_upto_region 1 with (fail)
  generalize hw0 : World.alloc _ _ = w0
  have I0 := Lib.hid (show Is w0 w.heap.size 27 A from by rw [← hw0]; exact Is.made _ _ _)
  have T0 := Lib.hid (show Only (fun _ => False) w w0 from by rw [← hw0]; exact (Only.refl _ w).alloc _)
  obtain ⟨mb, hmb⟩ : ∃ k, w.heap.size = k := ⟨_, rfl⟩
  rw [hmb] at I0 ⊢
  clear hw0 hmb
  obtain ⟨m0, -, -, -, -, -, -, -⟩ := HC.out mb w0 I0.out
  go_wp2_with (first
    | (go_at_call 43; refine (HSO.out _).mono ?_; rintro e w1 ⟨rfl, ho1⟩; have O1' := Lib.hid ho1; clear ho1)
    | (refine wpList_store_is rfl 93 _ _ rfl w1.heap.size (srtV 0) rfl rfl 93 (srtV 0) (Is.made w1 _ (srtV 0)) srt0_size rfl srt0_one ?_; intro w2 hi2 ho2; have O2' := Lib.hid (fb_made ho2); clear hi2 ho2))
  go_ret
  exact ⟨rfl, only_more T0.out (only_more O1'.out O2'.out)⟩
end Go.Proofs.Ytefcimkopgcagaa
