/- floor: slices.AppendSeq, Collect, Sorted of maps.Keys; Members. Conditions: as each says. -/
import Derived.Test.YtelfeedaadkhnaaFmA
import Derived.Test.YtelfeedaadkhnaaSoL
import Derived.Test.YtelfeedaadkhnaaFlK
import Derived.Maps.AppendAt
import Derived.Shelf.Abstract
set_option linter.unusedVariables false
set_option linter.unusedSimpArgs false
namespace Go.Proofs.Ytelfeedaadkhnaa
open Go Go.RowKit Go.Shelf
attribute [local go_sem] Oper.semAt_some

abbrev keyF (Bm : Nat) : Value := .func (.func 59) #[] #[.pointer (some ⟨Bm, 0, none⟩)]
/-- The keys, in some order, in new memory. -/
def Coll (ms : List (Nat × Value)) (w : World) (e : Ending) (w' : World) : Prop := ∃ v ys, e = .returned v ∧ ys.Perm (ms.map (·.1)) ∧ OwnS w' w.heap.size 30 1 v (rows32 ys) ∧ Only (fun _ => False) w w'
theorem own_rows32 {w : World} {B : Nat} {v : Value} {l : List Nat} (h : w.ownsRow B 30 1 v l.length (cells32 l)) : OwnS w B 30 1 v (rows32 l) := ⟨by rw [rows32_length, rows32_flat]; exact h, rows32_one l⟩
set_option maxRecDepth 100000 in
set_option maxHeartbeats 2000000 in
theorem appendseq_is (Bm b : Nat) (ms : List (Nat × Value)) (hlen : ms.length ≤ 1000) (w : World) (hBm : Is w Bm 62 #[.map (some b)]) (hown : MapAt w b .u32 ms) :
    Calls Try.prog 63 #[.slice none 0 0, keyF Bm] w (Coll ms w) := by
  obtain ⟨i0, hi, hz0, hz1, hz2⟩ := info_parts Try.infoU32
  refine (callsIn_wide (n := 4)).1 ?_
  refine callsIn_of_wp_marks Try.func63 rfl trivial ?_ rfl
  simp only [Try.ntmps63, List.size_toArray, List.length_cons, List.length_nil, Nat.reduceAdd, Nat.reduceSub, Array.replicate_succ, Array.replicate_zero, List.push_toArray, List.append_toArray, List.nil_append, List.cons_append]
  gi_wp2
  have bO := Boxed.new w 33 (.slice none 0 0)
  have hB0 : Below w.heap.size w (w.alloc (.cells #[.slice none 0 0] 33)) := (Below.refl _ w).alloc (Nat.le_refl _) _
  have hM0 := hBm.alloc (.cells #[.slice none 0 0] 33)
  have hK0 := hown.only ((Only.refl (fun _ => False) w).alloc (.cells #[.slice none 0 0] 33)) (by simp)
  refine wpIn_rangeFunc_ownG rfl (by decide) (gf := 59) (lb := #[.pointer (some ⟨Bm, 0, none⟩)]) rfl trivial (enters_of Try.func59 (by kernel_rfl) rfl)
    (keys_stops Bm b ms hlen _ hM0.lt (hM0.cell 0) hK0) walksK_t walksK_b (Below.refl _ _) (fun _ => rfl)
    (fun pre W => (∃ v, Boxed W w.heap.size 33 v ∧ W.ownsRow w.heap.size 30 1 v pre.length (cells32 pre) ∧ True) ∧ Below w.heap.size w W)
    (fun _ _ _ => False)
    (OwnFrom.and (Own.from (holdsRow_own w.heap.size w.heap.size 33 30 1 (fun pre : List Nat => pre.length) cells32 (fun _ _ => True)) _) (ownFrom_below (Nat.le_refl _) (by simp)))
    (fun _ _ _ _ _ hs _ _ => hs)
    ⟨⟨_, bO, World.ownsRow_nil _ _ _ _, trivial⟩, hB0⟩
    (fun x => { tmps := #[Value.slice none 0 0, keyF Bm, Value.pointer (some { block := w.heap.size, off := 0 }), undef, Value.slice none 0 0, .int .u32 (x : Int), keyF Bm, .int .u32 (x : Int), undef, undef, undef, undef, undef], defers := [] }) ?assign ?body ?done ?stop
  case assign =>
    intro l x W K hK
    gi_wp2
    exact hK
  case body =>
    rintro l pre x W ⟨⟨v, hv, hrow, -⟩, hB⟩ hlt
    have hc := hv.cell
    have hpl : pre.length < 1000 := by omega
    gi_wp2_with (gi_at_builtin; refine wpListIn_append_own _ rfl _ _ 33 rfl w.heap.size 30 i0 (.int .u32 0) 1 4 Try.underlying33 hi hz0 hz1 hz2 rfl (by decide) _ _ _ rfl (hrow.alloc _) ⟨W.heap.size, 0, none⟩ 1 1 [.int .u32 (x : Int)] rfl rfl (cell_one_new _ _ _) (by simp [Value.oneCell']) (by unfold maxLen; omega) (by omega) (by have := hB.size; simp; omega) ?_; intro v' w1 hown' hgrow _; obtain ⟨g', cap', rfl⟩ := ownsRow_succ hown'; obtain ⟨hv1, hv2, hr2, hk2, hb2⟩ := hv.appended (by decide) hrow hB.size (Nat.le_refl _) hown' hgrow; have hc1 := hv1.cell; have hf1 := hv1.frozen)
    exact ⟨hk2.from _, hk2.walks, ⟨_, hv2, by simpa [cells32] using hr2, trivial⟩, hB.trans hb2⟩
  case done =>
    rintro D2 ys W hD hys ⟨⟨v, hv, hrow, -⟩, hB⟩ hK
    have hc := hv.cell
    gi_wp2
    refine ⟨by simp, .inl ⟨_, _, rfl, run_takeDeferred hK, ?_⟩⟩
    exact ⟨_, results_tmp rfl _ _ _, v, ys, rfl, hys, own_rows32 (ownsRow_putObj hrow _ hK rfl), Only.of_below (hB.trans (belowK_b (w := w) (Nat.le_refl _) W D2 _ _ (by simp at hD; omega) hK rfl rfl))⟩
  case stop =>
    rintro D2 c pre W _ _ h _
    exact h.elim
set_option maxRecDepth 100000 in
set_option maxHeartbeats 1000000 in
theorem collect_is (Bm b : Nat) (ms : List (Nat × Value)) (hlen : ms.length ≤ 1000) (w : World) (hBm : Is w Bm 62 #[.map (some b)]) (hown : MapAt w b .u32 ms) :
    Calls Try.prog 57 #[keyF Bm] w (Coll ms w) := by
  have HA := Lib.hid (appendseq_is Bm b ms hlen w hBm hown)
  clear hBm hown
  go_enter Try.func57, Try.ntmps57
  go_wp2_with fail
  refine HA.out.mono ?_
  rintro e w1 ⟨v, ys, rfl, h1, h2, h3⟩
  have H := Lib.hid (And.intro h1 (And.intro h2 h3))
  clear h1 h2 h3
  go_wp2
  go_ret
  exact ⟨v, ys, rfl, H.out⟩
/-- The keys, none less than the one ahead of it, in new memory. -/
def KeysOf (ms : List (Nat × Value)) (w : World) (e : Ending) (w' : World) : Prop := ∃ v ys, e = .returned v ∧ ys.Perm (ms.map (·.1)) ∧ ys.Pairwise (fun a b => a ≤ b) ∧ OwnS w' w.heap.size 30 1 v (rows32 ys) ∧ Only (fun _ => False) w w'
set_option maxRecDepth 100000 in
set_option maxHeartbeats 1000000 in
theorem sorted_is (Bm b : Nat) (ms : List (Nat × Value)) (hlen : ms.length < 50) (w : World) (hBm : Is w Bm 62 #[.map (some b)]) (hown : MapAt w b .u32 ms) :
    Calls Try.prog 41 #[keyF Bm] w (KeysOf ms w) := by
  have HA := Lib.hid (collect_is Bm b ms (by omega) w hBm hown)
  clear hBm hown
  go_enter Try.func41, Try.ntmps41
  go_wp2_with fail
  refine HA.out.mono ?_
  rintro e w1 ⟨v, ys, rfl, h1, h2, h3⟩
  have H := Lib.hid (And.intro h1 (And.intro h2 h3))
  have hl : ys.length < 50 := by have := h1.length_eq; simp at this; omega
  clear h1 h2 h3
  go_wp2_with fail
  refine (sort_is w.heap.size v ys _ H.out.2.1 hl).mono ?_
  rintro e w2 ⟨rfl, l', h1, h2, h3, h4⟩
  have H2 := Lib.hid (And.intro h1 (And.intro h2 (And.intro h3 h4)))
  clear h1 h2 h3 h4
  go_wp2
  go_ret
  refine ⟨v, l', rfl, H2.out.2.1.trans H.out.1, H2.out.2.2.1, H2.out.1, H.out.2.2.trans H2.out.2.2.2 (fun i hi e => ?_)⟩
  have := (H.out.2.1.lt i e).1
  omega
set_option maxRecDepth 100000 in
set_option maxHeartbeats 1000000 in
theorem members_is (B b mb : Nat) (m : Fl) (vw vg : Value) (w : World) (h : Flr w B b mb m vw vg) (hlen : m.ms.length < 50) : Calls Try.prog 17 #[ptr b] w (KeysOf (msV m.ms) w) := by
  have HF := Lib.hid h
  have c2 : w.cell? ⟨b, 2, none⟩ = some (.map (some mb)) := h.cell 2
  have hl2 : (msV m.ms).length < 50 := by simpa [msV] using hlen
  clear h
  go_enter Try.func17, Try.ntmps17
  go_wp2_with fail
  refine (there_is B b mb m vw vg w HF.out).mono ?_
  rintro e w1 ⟨rfl, rfl⟩
  go_wp2_with fail
  refine (keys_is mb _).mono ?_
  rintro e w1 ⟨rfl, rfl⟩
  go_wp2_with fail
  have ho := (Only.refl (fun _ => False) w).alloc (.cells #[.map (some mb)] 62)
  refine (sorted_is w.heap.size mb (msV m.ms) hl2 (w.alloc (.cells #[.map (some mb)] 62)) (Is.made w _ _) (HF.out.mp.only ho (by simp))).mono ?_
  rintro e w2 ⟨v, ys, rfl, h1, h2, h3, h4⟩
  have H := Lib.hid (And.intro h1 (And.intro h2 (And.intro h3 h4)))
  have HO := Lib.hid ho
  clear h1 h2 h3 h4 ho
  go_wp2
  go_ret
  refine ⟨v, ys, rfl, H.out.1, H.out.2.1, ⟨owned_low H.out.2.2.1.1 (by simp), H.out.2.2.1.2⟩, HO.out.trans H.out.2.2.2 (fun _ _ e => e)⟩
end Go.Proofs.Ytelfeedaadkhnaa
