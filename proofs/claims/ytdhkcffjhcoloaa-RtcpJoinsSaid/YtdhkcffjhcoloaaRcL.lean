/- rtcp: an RR without blocks. Conditions: as each says. -/
import Derived.Test.YtdhkcffjhcoloaaRcK
import Derived.Test.YtdhkcffjhcoloaaReg
set_option linter.unusedVariables false
namespace Go.Proofs.Ytdhkcffjhcoloaa
open Go.RowKit

set_option maxRecDepth 100000 in
set_option maxHeartbeats 1000000 in
theorem putBlocks_nil (kd : Nat) (A : Option Addr) (n c : Nat) (w : World) :
    Calls Try.prog 55 #[.int .u8 kd, .slice A n c, .slice none 0 0] w fun e w' => e = .returned (.tuple #[.agg #[.int .u8 0, .int .u8 kd, .slice A n c, .int .u8 0], .int .i64 0]) ∧ Only (fun _ => False) w w' := by
  have HI := Lib.hid (Is.made w 36 zeroP)
  have V1 := Lib.hid (show (#[.int .u8 0, .int .u8 kd, .slice A n c, .int .u8 0] : Array Value).all (·.oneCell') = true from by simp [Value.oneCell'])
  go_enter Try.func55, Try.ntmps55
  go_wp2
  go_loopw [1, 17] (fun s1 s17 wr => s1 = .slice A n c ∧ s17 = .int .i64 0 ∧ wr = w.alloc (.cells zeroP 36)) (fun _ _ _ => 0)
  case atStart => exact ⟨rfl, rfl, rfl⟩
  case round =>
    obtain ⟨rfl, rfl, hwr⟩ := hrel
    have I1 := Lib.hid (show Is wr w.heap.size 36 zeroP from by rw [hwr]; exact HI.out)
    have O1 := Lib.hid (show Only (fun _ => False) w wr from by rw [hwr]; exact (Only.refl _ w).alloc _)
    clear hwr
    go_wp2_with (refine wpList_store_is rfl 36 _ _ rfl w.heap.size #[.int .u8 0, .int .u8 kd, .slice A n c, .int .u8 0] rfl rfl 36 zeroP I1.out Try.sizeRc rfl V1.out ?_; intro w5 hi5 ho5)
    exact bodyPost_ret (results_two Try.results55 _ w5 w.heap.size 36 _ _ _ rfl rfl hi5 Try.underlying36 rfl Try.sizeRc) rfl ⟨rfl, O1.out.trans ho5 (fun i hi e => by omega)⟩

/-- An RR of one number. -/
def RecvEnd (n : Nat) (w : World) (e : Ending) (w' : World) : Prop := ∃ A c, e = .returned (.tuple #[.agg #[.int .u8 0, .int .u8 201, .slice A 4 c, .int .u8 0], .int .i64 0]) ∧ Acc w (.slice A 4 c) (b4 n) w'
theorem b4_len (n : Nat) : (b4 n).length = 4 := rfl
set_option maxRecDepth 100000 in
set_option maxHeartbeats 2000000 in
theorem recv_put (n : Nat) (w : World) (hn : n < 4294967296) : Calls Try.prog 25 #[.agg #[.int .u32 n, .slice none 0 0]] w (RecvEnd n w) := by
  go_enter Try.func25, Try.ntmps25
  obtain ⟨bx, hbx⟩ : ∃ b, w.heap.size = b := ⟨_, rfl⟩
  have HBX := Lib.hid hbx
  go_upto_region 1 with (fail)
  obtain ⟨rb, hrb⟩ : ∃ b, bx + 1 = b := ⟨_, rfl⟩
  generalize hw1 : World.alloc _ _ = w1
  have I1 := Lib.hid (show Is w1 bx 59 #[.int .u32 n, .slice none 0 0] from by rw [← hw1, ← hbx]; exact (Is.made _ _ _).alloc _)
  have R1 := Lib.hid (show Is w1 rb 36 zeroP from by rw [← hw1, ← hrb, ← hbx]; have h := Is.made (w.alloc (.cells #[.int .u32 n, .slice none 0 0] 59)) 36 zeroP; rw [show ∀ o : Obj, (w.alloc o).heap.size = w.heap.size + 1 from fun o => by simp] at h; exact h)
  have O1 := Lib.hid (show Only (fun _ => False) w w1 from by rw [← hw1]; exact ((Only.refl _ w).alloc _).alloc _)
  have RB := Lib.hid (show w.heap.size < rb from by omega)
  rw [hrb]
  clear hw1 hbx hrb
  refine wp_region_posts [[], [0], [1, 0], [2, 1, 0], [], [4], [3, 5, 2, 1, 0, 4], [6, 3, 5, 2, 1, 0, 4], [6, 3, 5, 2, 1, 0, 4], [7, 6, 0, 1, 2, 3, 4, 5, 8], [8, 9, 0, 1, 2, 3, 4, 5, 6, 7]] [2, 3, 6, 9] [2, 3, 6, 7, 8, 9, 10] [[], [], [], [2], [], [], [2], [], [], [2, 3], []] [[], [], [], [2], [], [], [3], [6], [6], [3, 7], [8]] [9, 10] [9] [10] []
      [some ?v0, some ?v1, none, none, some ?v4, some ?v5, none, none, none, none, none]
      ?T (fun wx => Is wx bx 59 #[.int .u32 n, .slice none 0 0] ∧ Is wx rb 36 zeroP ∧ Only (fun _ => False) w wx) ?W ?E (by kernel_rfl) (by kernel_rfl) (by kernel_rfl) (fun x => ?hT) ?hF ?hini (Reg.all_ops ?runs) ?pres ?fin
  case W => exact fun j x w' => match j with | 2 => Nums w' (x 2) [n] | 3 => (∃ A c, x 3 = .slice A 4 c) ∧ Acc w (x 3) (b4 n) w' | 6 => x 6 = .tuple #[.agg #[.int .u8 0, .int .u8 201, x 3, .int .u8 0], .int .i64 0] | 7 => x 7 = .agg #[.int .u8 0, .int .u8 201, x 3, .int .u8 0] | 8 => x 8 = .int .i64 0 | 9 => (∃ A c, x 3 = .slice A 4 c) ∧ Acc w (x 3) (b4 n) w' ∧ Is w' rb 36 #[.int .u8 0, .int .u8 201, x 3, .int .u8 0] | 10 => x 10 = .int .i64 0 | _ => True
  case E => exact fun i w' w'' => match i with | 6 => Only (fun _ => False) w' w'' | _ => True
  case hT =>
    simp only [Reg.fillV, Act.put, List.setIfInBounds_toArray, List.set_cons_zero, List.set_cons_succ]
    rfl
  case runs =>
    refine And.intro ?_ ?_
    · refine Reg.ob_pure (fun _ => rfl) rfl rfl rfl rfl (fun x w1 hF => ?_)
      obtain ⟨hI, hR, hO⟩ := hF
      have g0 := hI.cell 0
      have g1 := hI.cell 1
      simp at g0 g1
      clear hI hR hO
      go_simp
      with_reducible rfl
    refine And.intro ?_ ?_
    · refine Reg.ob_pure (fun _ => rfl) rfl rfl rfl rfl (fun x w1 hF => ?_)
      obtain ⟨hI, hR, hO⟩ := hF
      have g0 := hI.cell 0
      have g1 := hI.cell 1
      simp at g0 g1
      clear hI hR hO
      go_simp
      with_reducible rfl
    refine And.intro ?_ ?_
    · refine Reg.ob_some (fun _ => rfl) rfl (fun x w1 hF hU K hK => ?_)
      obtain ⟨hI, hR, hO⟩ := hF rfl
      go_simp
      exact hK _ _ (fun _ _ _ => ⟨hI.alloc _, hR.alloc _, hO.alloc _⟩) trivial (nums_lit w1 n)
    refine And.intro ?_ ?_
    · refine Reg.ob_some (fun _ => rfl) rfl (fun x w1 hF hU K hK => ?_)
      obtain ⟨hI, hR, hO⟩ := hF rfl
      obtain ⟨hN, -⟩ := hU
      have hN : Nums w1 (x 2) [n] := hN
      go_simp
      refine (appended_is w w1 (.slice none 0 0) (x 2) [] [n] ⟨World.ownsRow_nil _ _ _ _, hO⟩ hN (by simpa using hn) (by simp) (by simp)).mono ?_
      rintro e w3 ⟨v, rfl, hacc, -, hk⟩
      have hacc : Acc w v (b4 n) w3 := by simpa using hacc
      obtain ⟨A1, k1, rfl⟩ := hacc.slice
      exact hK _ w3 (fun _ _ _ => ⟨hk _ _ _ (by decide) hI, hk _ _ _ (by decide) hR, hacc.pure⟩) trivial ⟨⟨A1, k1, rfl⟩, hacc⟩
    refine And.intro ?_ ?_
    · refine Reg.ob_pure (fun _ => rfl) rfl rfl rfl rfl (fun x w1 hF => ?_)
      obtain ⟨hI, hR, hO⟩ := hF
      have g0 := hI.cell 0
      have g1 := hI.cell 1
      simp at g0 g1
      clear hI hR hO
      go_simp
      with_reducible rfl
    refine And.intro ?_ ?_
    · refine Reg.ob_pure (fun _ => rfl) rfl rfl rfl rfl (fun x w1 hF => ?_)
      obtain ⟨hI, hR, hO⟩ := hF
      have g0 := hI.cell 0
      have g1 := hI.cell 1
      simp at g0 g1
      clear hI hR hO
      go_simp
      with_reducible rfl
    refine And.intro ?_ ?_
    · refine Reg.ob_some (fun _ => rfl) rfl (fun x w1 hF hU K hK => ?_)
      obtain ⟨hI, hR, hO⟩ := hF rfl
      obtain ⟨⟨⟨A1, k1, h3⟩, hacc⟩, -⟩ := hU
      have h3 : x 3 = .slice A1 4 k1 := h3
      revert hK
      simp only [Nat.reduceAdd, h3]
      intro hK
      go_simp
      refine (putBlocks_nil 201 A1 4 k1 w1).mono ?_
      rintro e w3 ⟨rfl, ho⟩
      exact hK _ w3 (fun _ _ _ => ⟨hI.only ho (by simp), hR.only ho (by simp), only_more hO ho⟩) ho (by show _ = Value.tuple #[Value.agg #[_, _, x 3, _], _]; rw [h3]; rfl)
    refine And.intro ?_ ?_
    · refine Reg.ob_some (fun _ => rfl) rfl (fun x w1 hF hU K hK => ?_)
      obtain ⟨h6, -⟩ := hU
      have h6 : x 6 = .tuple #[.agg #[.int .u8 0, .int .u8 201, x 3, .int .u8 0], .int .i64 0] := h6
      revert hK
      simp only [Nat.reduceAdd, h6]
      intro hK
      go_simp
      exact hK _ w1 (fun h => by cases h) rfl rfl
    refine And.intro ?_ ?_
    · refine Reg.ob_some (fun _ => rfl) rfl (fun x w1 hF hU K hK => ?_)
      obtain ⟨h6, -⟩ := hU
      have h6 : x 6 = .tuple #[.agg #[.int .u8 0, .int .u8 201, x 3, .int .u8 0], .int .i64 0] := h6
      revert hK
      simp only [Nat.reduceAdd, h6]
      intro hK
      go_simp
      exact hK _ w1 (fun h => by cases h) rfl rfl
    refine And.intro ?_ ?_
    · refine Reg.ob_some (fun _ => rfl) rfl (fun x w1 hF hU K hK => ?_)
      obtain ⟨hI, hR, hO⟩ := hF rfl
      obtain ⟨⟨⟨A1, k1, h3⟩, hacc⟩, h7, -⟩ := hU
      have h3 : x 3 = .slice A1 4 k1 := h3
      have hacc : Acc w (x 3) (b4 n) w1 := hacc
      have h7 : x 7 = .agg #[.int .u8 0, .int .u8 201, x 3, .int .u8 0] := h7
      refine wp_store_row 36 _ _ rfl rb #[.int .u8 0, .int .u8 201, x 3, .int .u8 0] rfl (by simpa [Act.eval] using h7) 36 zeroP hR Try.sizeRc rfl (by rw [h3]; simp [Value.oneCell']) ?_
      have ho : Only (fun j => j = rb) w1 (w1.setRow rb #[.int .u8 0, .int .u8 201, x 3, .int .u8 0]) := Only.setRow (S := fun j => j = rb) (Only.refl _ w1) (fun _ => rfl) _
      have ha : Acc w (x 3) (b4 n) (w1.setRow rb #[.int .u8 0, .int .u8 201, x 3, .int .u8 0]) := ⟨owned_only hacc.own ho (fun q hq e => row_apart hR hacc.own (by decide) (by rw [hq, e])), hacc.pure.trans ho (fun i hi e => by have := RB.out; omega)⟩
      exact hK _ _ (fun _ h _ => by cases h) trivial ⟨⟨A1, k1, h3⟩, ha, hR.setRow _⟩
    refine And.intro ?_ ?_
    · refine Reg.ob_some (fun _ => rfl) rfl (fun x w1 hF hU K hK => ?_)
      obtain ⟨h8, -⟩ := hU
      have h8 : x 8 = .int .i64 0 := h8
      revert hK
      simp only [Nat.reduceAdd, h8]
      intro hK
      go_simp
      exact hK _ w1 (fun h => by cases h) rfl rfl
    exact trivial
  case hF =>
    exact ⟨I1.out, R1.out, O1.out.drewN 1⟩
  case hini =>
    exact trivial
  case pres =>
    intro i hi j hj hc x w1 w2 hF hE hW
    simp only [List.mem_cons, List.mem_nil_iff, or_false] at hi hj
    rcases hj with rfl | rfl | rfl | rfl | rfl | rfl | rfl <;> rcases hi with rfl | rfl | rfl | rfl
    all_goals first
      | (exfalso; revert hc; decide)
      | exact hW
      | (obtain ⟨h3, hacc⟩ := hW; exact ⟨h3, Acc.go hacc hE⟩)
  case fin =>
    rintro x w1 - ⟨⟨⟨A1, k1, h3⟩, hacc, hI⟩, h10, -⟩
    have h3 : x 3 = .slice A1 4 k1 := h3
    have hacc : Acc w (x 3) (b4 n) w1 := hacc
    have hI : Is w1 rb 36 #[.int .u8 0, .int .u8 201, x 3, .int .u8 0] := hI
    have h10 : x 10 = .int .i64 0 := h10
    simp only [Nat.reduceAdd, h3, h10] at hacc hI ⊢
    go_wp2_with fail
    exact bodyPost_ret (results_two Try.results25 _ w1 rb 36 _ _ _ rfl rfl hI Try.underlying36 rfl Try.sizeRc) rfl ⟨A1, k1, rfl, hacc⟩
end Go.Proofs.Ytdhkcffjhcoloaa
