/- easellaw06.works: the chapter's examples. Conditions: none. -/
import Derived.Test.YtdhkcffjhcoloaaRcD
import Derived.Test.YtdhkcffjhcoloaaRcJ
import Derived.Test.YtdhkcffjhcoloaaRcL
import Derived.Test.YtdhkcffjhcoloaaConv
set_option linter.unusedVariables false
namespace Go.Proofs.Ytdhkcffjhcoloaa
open Go.RowKit

def wkP : Pkt := ⟨0, 201, 0, [0, 0, 0, 1]⟩
def wkQ : Pkt := ⟨1, 202, 0, [0, 0, 0, 2, 1, 2, 97, 98, 0, 0, 0, 0]⟩
theorem wk_body : [((2 : Nat), (ByteArray.mk #[97, 98]))].foldl encC [] = wkQ.body := by decide +kernel
theorem wk_encs : encs [wkP, wkQ] = [128, 201, 0, 1, 0, 0, 0, 1, 129, 202, 0, 3, 0, 0, 0, 2, 1, 2, 97, 98, 0, 0, 0, 0] := by decide +kernel
theorem wk_join : joinErr [wkP, wkQ] = 0 := by decide +kernel
theorem spl_err {bs : List Nat} {e : Nat} (h : oneErr bs true = e) (h0 : e ≠ 0) : (spl true bs).1 = e := by
  rw [spl_bad (by simp) (by rw [h]; exact h0), h]
theorem rdp_two (w : World) (p q : Pkt) (u v : Value) (hu : Src w u p.body) (hv : Src w v q.body) :
    RdP (w.alloc (.cells #[.int .u8 (p.count : Nat), .int .u8 (p.kind : Nat), u, .int .u8 (p.pad : Nat), .int .u8 (q.count : Nat), .int .u8 (q.kind : Nat), v, .int .u8 (q.pad : Nat)] 36)) (.slice (some ⟨w.heap.size, 0, none⟩) 2 2) [p, q] := by
  refine ⟨_, 2, rfl, Nat.le_refl _, fun _ => ⟨w.heap.size, 0, rfl, fun i x hx => ?_⟩⟩
  have hI := Is.made w 36 #[.int .u8 (p.count : Nat), .int .u8 (p.kind : Nat), u, .int .u8 (p.pad : Nat), .int .u8 (q.count : Nat), .int .u8 (q.kind : Nat), v, .int .u8 (q.pad : Nat)]
  have ho : Only (fun _ => False) w (w.alloc (.cells #[.int .u8 (p.count : Nat), .int .u8 (p.kind : Nat), u, .int .u8 (p.pad : Nat), .int .u8 (q.count : Nat), .int .u8 (q.kind : Nat), v, .int .u8 (q.pad : Nat)] 36)) := (Only.refl _ w).alloc _
  match i, hx with
  | 0, hx =>
    obtain rfl : p = x := by simpa using hx
    exact ⟨u, ⟨hI.cell 0, hI.cell 1, hI.cell 2, hI.cell 3⟩, hu.of_only ho⟩
  | 1, hx =>
    obtain rfl : q = x := by simpa using hx
    exact ⟨v, ⟨hI.cell 4, hI.cell 5, hI.cell 6, hI.cell 7⟩, hv.of_only ho⟩
  | i + 2, hx => simp at hx
theorem rdc_one (w : World) (n : Nat) (s : ByteArray) : RdC (w.alloc (.cells #[.int .u32 (n : Nat), .string s] 97)) (.slice (some ⟨w.heap.size, 0, none⟩) 1 1) [(n, s)] := by
  refine ⟨_, 1, rfl, fun _ => ⟨w.heap.size, 0, rfl, fun i x hx => ?_⟩⟩
  have hI := Is.made w 97 #[.int .u32 (n : Nat), .string s]
  match i, hx with
  | 0, hx =>
    obtain rfl : (n, s) = x := by simpa using hx
    exact ⟨hI.cell 0, hI.cell 1⟩
  | i + 1, hx => simp at hx
theorem chunks_wk (w : World) : Calls Try.prog 26 #[.slice (some ⟨w.heap.size, 0, none⟩) 1 1] (w.alloc (.cells #[.int .u32 2, .string (ByteArray.mk #[97, 98])] 97)) fun e w' => ∃ A c, e = .returned (.tuple #[.agg #[.int .u8 1, .int .u8 202, .slice A 12 c, .int .u8 0], .int .i64 0]) ∧ Src w' (.slice A 12 c) wkQ.body ∧ Only (fun _ => False) w w' := by
  refine (chunks_is _ [(2, ByteArray.mk #[97, 98])] _ (rdc_one w 2 (ByteArray.mk #[97, 98])) (by intro c hc; rw [List.mem_singleton.1 hc]; decide) (by decide) (by intro c hc; rw [List.mem_singleton.1 hc]; decide)).mono ?_
  rintro e w' ⟨ho, ⟨h, _⟩ | ⟨_, A, c, rfl, hacc⟩⟩
  · exact absurd ⟨by decide, by intro c hc; rw [List.mem_singleton.1 hc]; decide⟩ h
  · rw [wk_body] at hacc ⊢
    exact ⟨A, c, rfl, Src.of_own hacc.own, ((Only.refl _ w).alloc _).trans ho (fun _ _ e => e)⟩
theorem split_err (w : World) (bs : List Nat) (er : Nat) (h : oneErr bs true = er) (h0 : er ≠ 0) (hb : ∀ x ∈ bs, x < 256) (hl : bs.length ≤ 1000) :
    Calls Try.prog 22 #[.slice (some ⟨w.heap.size, 0, none⟩) bs.length bs.length] (w.alloc (.cells (cellsOf bs).toArray 5)) fun e w' => e = .returned (.tuple #[.slice none 0 0, .int .i64 er]) ∧ Only (fun _ => False) w w' := by
  refine (split_is _ bs _ (src_lit w bs) hb (by omega)).mono ?_
  rintro e w' ⟨ho, ⟨_, rfl⟩ | ⟨h1, _⟩⟩
  · rw [spl_err h h0]
    exact ⟨rfl, ((Only.refl _ w).alloc _).trans ho (fun _ _ e => e)⟩
  · rw [spl_err h h0] at h1
    exact absurd h1 h0
theorem wk_fit : ∀ p ∈ [wkP, wkQ], p.Fit := by
  intro p hp
  rcases List.mem_cons.1 hp with rfl | hp
  · exact ⟨by decide, by decide, by decide, by decide⟩
  · rw [List.mem_singleton.1 hp]
    exact ⟨by decide, by decide, by decide, by decide⟩
theorem wk_short : ∀ p ∈ [wkP, wkQ], p.body.length ≤ 1000000 := by
  intro p hp
  rcases List.mem_cons.1 hp with rfl | hp
  · decide
  · rw [List.mem_singleton.1 hp]; decide

set_option maxRecDepth 100000 in
set_option maxHeartbeats 2000000 in
theorem works_any (w : World) : Calls Try.prog 9 #[] w fun e w' => e = .returned (.bool true) ∧ Only (fun _ => False) w w' := by
  go_enter Try.func9, Try.ntmps9
  go_wp2_with fail
  refine (recv_put 1 w (by decide)).mono ?_
  rintro e w1 ⟨A1, c1, rfl, hacc1⟩
  have S1 := Lib.hid (show Src w1 (.slice A1 4 c1) wkP.body from Src.of_own hacc1.own)
  have O1 := Lib.hid hacc1.pure
  have V1 := Lib.hid (show (#[.int .u8 0, .int .u8 201, .slice A1 4 c1, .int .u8 0] : Array Value).all (·.oneCell') = true from by simp [Value.oneCell'])
  clear hacc1
  go_upto_region 2 with (refine wpList_store_is rfl 36 _ _ rfl w1.heap.size #[.int .u8 0, .int .u8 201, .slice A1 4 c1, .int .u8 0] rfl rfl 36 zeroP (Is.made _ _ zeroP) Try.sizeRc rfl V1.out ?_; intro w2 hi2 ho2)
  have I2 := Lib.hid hi2
  have O2 := Lib.hid (only_made ho2)
  generalize w1.heap.size = pb at *
  clear hi2 ho2
  go_wp2_with fail
  refine (chunks_wk w2).mono ?_
  rintro e w3 ⟨A3, c3, rfl, hs3, ho3⟩
  have S3 := Lib.hid hs3
  have O3 := Lib.hid ho3
  have V3 := Lib.hid (show (#[.int .u8 1, .int .u8 202, .slice A3 12 c3, .int .u8 0] : Array Value).all (·.oneCell') = true from by simp [Value.oneCell'])
  clear hs3 ho3
  go_upto_region 3 with (refine wpList_store_is rfl 36 _ _ rfl w3.heap.size #[.int .u8 1, .int .u8 202, .slice A3 12 c3, .int .u8 0] rfl rfl 36 zeroP (Is.made _ _ zeroP) Try.sizeRc rfl V3.out ?_; intro w4 hi4 ho4)
  have I4 := Lib.hid hi4
  have O4 := Lib.hid (only_made ho4)
  generalize w3.heap.size = qb at *
  clear hi4 ho4
  have I24 := I2.out.only (only_more O3.out O4.out) (by simp)
  have S14 := Lib.hid (S1.out.of_only (only_more O2.out (only_more O3.out O4.out)))
  have S34 := Lib.hid (S3.out.of_only O4.out)
  have T4 := Lib.hid (only_more (only_more O1.out O2.out) (only_more O3.out O4.out))
  have a0 := I24.cell 0
  have a1 := I24.cell 1
  have a2 := I24.cell 2
  have a3 := I24.cell 3
  have b0 := I4.out.cell 0
  have b1 := I4.out.cell 1
  have b2 := I4.out.cell 2
  have b3 := I4.out.cell 3
  simp at a0 a1 a2 a3 b0 b1 b2 b3
  clear I24
  go_wp2_with fail
  refine (join_is _ [wkP, wkQ] _ (rdp_two w4 wkP wkQ _ _ S14.out S34.out) wk_fit (by decide) wk_short (fun _ => by rw [wk_encs]; decide)).mono ?_
  rintro e w5 ⟨ho5, ⟨h, _⟩ | ⟨_, v5, rfl, hv5⟩⟩
  · exact absurd wk_join h
  rw [wk_encs] at hv5
  have hv5' : w5.ownsRow _ 5 1 v5 24 (cellsOf [128, 201, 0, 1, 0, 0, 0, 1, 129, 202, 0, 3, 0, 0, 0, 2, 1, 2, 97, 98, 0, 0, 0, 0]) := hv5
  clear hv5
  obtain ⟨A5, c5, rfl, -⟩ := own_slice hv5'
  have O5 := Lib.hid (show Only (fun _ => False) w4 w5 from ((Only.refl _ w4).alloc _).trans ho5 (fun _ _ e => e))
  have S5 := Lib.hid (show Src w5 (.slice A5 24 c5) [128, 201, 0, 1, 0, 0, 0, 1, 129, 202, 0, 3, 0, 0, 0, 2, 1, 2, 97, 98, 0, 0, 0, 0] from Src.of_own hv5')
  clear ho5 hv5' a0 a1 a2 a3 b0 b1 b2 b3
  go_wp2_with fail
  refine (split_err _ [128, 200, 0, 5] 61 (by decide) (by decide) (by decide) (by decide)).mono ?_
  rintro e w6 ⟨rfl, ho6⟩
  have O6 := Lib.hid ho6
  clear ho6
  go_wp2_with fail
  refine (split_err _ [128, 202, 0, 0] 60 (by decide) (by decide) (by decide) (by decide)).mono ?_
  rintro e w7 ⟨rfl, ho7⟩
  have O7 := Lib.hid ho7
  clear ho7
  go_wp2_with fail
  refine (split_err _ [64, 201, 0, 0] 20 (by decide) (by decide) (by decide) (by decide)).mono ?_
  rintro e w8 ⟨rfl, ho8⟩
  have O8 := Lib.hid ho8
  clear ho8
  have q1 := conv_src (S5.out.of_only (only_more O6.out (only_more O7.out O8.out))) rfl
  have hs1 : ((strOfNums (nats [128, 201, 0, 1, 0, 0, 0, 1, 129, 202, 0, 3, 0, 0, 0, 2, 1, 2, 97, 98, 0, 0, 0, 0])).toList == [128, 201, 0, 1, 0, 0, 0, 1, 129, 202, 0, 3, 0, 0, 0, 2, 1, 2, 97, 98, 0, 0, 0, 0]) = true := by rw [ByteArray.toList_eq, strOfNums_data]; decide +kernel
  generalize strOfNums (nats [128, 201, 0, 1, 0, 0, 0, 1, 129, 202, 0, 3, 0, 0, 0, 2, 1, 2, 97, 98, 0, 0, 0, 0]) = s1 at q1 hs1
  have T8 := Lib.hid (only_more T4.out (only_more O5.out (only_more O6.out (only_more O7.out O8.out))))
  go_wp2
  go_ret
  exact ⟨rfl, T8.out⟩
end Go.Proofs.Ytdhkcffjhcoloaa
