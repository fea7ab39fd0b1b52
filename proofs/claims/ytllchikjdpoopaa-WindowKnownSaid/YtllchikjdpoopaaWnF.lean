/- Missing. Conditions: as each says. -/
import Derived.Test.YtllchikjdpoopaaWnE
set_option linter.unusedVariables false
namespace Go.Proofs.Ytllchikjdpoopaa
open Go Go.RowKit Go.Shelf
attribute [local go_sem] Oper.semAt_some

theorem Try.infoU64 : (Try.prog.info? 23).map (fun i => (i.zero, i.size, i.bytes)) = some (some (.int .u64 0), 1, 8) := by kernel_rfl
theorem Only.of_below {w w1 : World} (h : Below w.heap.size w w1) : Only (fun _ => False) w w1 := ⟨h.os, h.tape, h.output, h.size, fun k hk _ => h.block k hk⟩
/-- Cells of 64 digits. -/
def cells64 (l : List Nat) : List Value := l.map fun (x : Nat) => Value.int .u64 (x : Int)
theorem miss_len {m : Wm} (hf : m.Fit) : m.miss.length ≤ 1024 := by
  unfold Wm.miss
  refine Nat.le_trans (List.length_filter_le _ _) ?_
  rw [List.length_range']
  have h1 := hf.le
  have h2 := hf.one
  unfold Wm.low
  omega
theorem Mem.alloc {Bn b : Nat} {m : Wm} {D : Nat → Nat} {w : World} (h : Mem Bn b m D w) (o : Obj) : Mem Bn b m D (w.alloc o) := h.only ((Only.refl _ w).alloc o)
theorem Mem.putObj {Bn b : Nat} {m : Wm} {D : Nat → Nat} {w : World} (h : Mem Bn b m D w) {l : Nat} {o : Obj} (o' : Obj) (hl : w.heap[l]? = some o) (ho : o.isCells = false) : Mem Bn b m D (w.putObj l o') := by
  refine ⟨?_, ?_, h.2.dw⟩
  · refine (World.putObj_heap_other (fun e => ?_)).trans h.1
    have h1 : w.heap[Bn]? = _ := h.1
    first | rw [← e, hl] at h1 | rw [e, hl] at h1
    cases h1
    cases ho
  · refine (World.putObj_heap_other (fun e => ?_)).trans h.2.is
    have h1 : w.heap[b]? = _ := h.2.is
    first | rw [← e, hl] at h1 | rw [e, hl] at h1
    cases h1
    cases ho
set_option maxHeartbeats 1000000 in
theorem miss_made (b : Nat) (w : World) : Calls Try.prog 28 #[ptr b] w fun e w' => e = .returned (.func (.func 32) #[] #[.pointer (some ⟨w.heap.size, 0, none⟩)]) ∧ w' = w.alloc (.cells #[ptr b] 25) := by
  go_enter Try.func28, Try.ntmps28
  go_wp2
  go_ret
  exact ⟨rfl, rfl⟩
theorem miss_stops (Bn b : Nat) (m : Wm) (D : Nat → Nat) (hf : m.Fit) (w : World) (hM : Mem Bn b m D w) :
    SeqStopsK Fence.wide 3 Try.prog 32 #[.pointer (some ⟨Bn, 0, none⟩)] (fun x : Nat => #[Value.int .u64 (x : Int)]) (fun A B => Mem Bn b m D A → Mem Bn b m D B) (fun ys => ys = m.miss) (fun pre => pre <+: m.miss) m.miss.length w := fun l J Jx W hW hJ hJx hY h0 =>
  miss1_in Bn b l m D hf J Jx W (fun s A B hs ho => hJ s A B none hs ho.grownNone (fun r e => by cases e)) hY (hM.only (Only.of_below hW)) h0
/-- What Missing answers. -/
def Missed (m : Wm) (w : World) (e : Ending) (w' : World) : Prop := ∃ v, e = .returned v ∧ w'.ownsRow w.heap.size 23 1 v m.miss.length (cells64 m.miss) ∧ Below w.heap.size w w'
set_option maxHeartbeats 1000000 in
theorem missing_nil (w : World) : Calls Try.prog 15 #[.pointer none] w fun e w' => e = .returned (.slice none 0 0) ∧ w = w' := by
  go_enter Try.func15, Try.ntmps15
  go_wp2_with fail
  refine (reaches_nil _).mono ?_
  rintro e w1 ⟨rfl, rfl⟩
  go_wp2
  go_ret
  exact ⟨rfl, rfl⟩
set_option maxRecDepth 100000 in
set_option maxHeartbeats 2000000 in
theorem missing_is (b : Nat) (m : Wm) (D : Nat → Nat) (w : World) (h : WIs w b m D) (hf : m.Fit) : Calls Try.prog 15 #[ptr b] w (Missed m w) := by
  obtain ⟨i0, hi, hz0, hz1, hz2⟩ := info_parts Try.infoU64
  have HR := Lib.hid (reaches_is b m D w h hf)
  have HLEN := miss_len hf
  have HST := Lib.hid (fun Bn (w1 : World) (hM : Mem Bn b m D w1) => miss_stops Bn b m D hf w1 hM)
  have H := Lib.hid h
  clear hf
  unfold Missed
  generalize m.miss = ms at *
  refine (callsIn_wide (n := 4)).1 ?_
  refine callsIn_of_wp_marks Try.func15 rfl trivial ?_ rfl
  simp only [Try.ntmps15, List.size_toArray, List.length_cons, List.length_nil, Nat.reduceAdd, Nat.reduceSub, Array.replicate_succ, Array.replicate_zero, List.push_toArray, List.append_toArray, List.nil_append, List.cons_append]
  gi_wp2_with (refine ⟨trivial, ?_⟩; first | (gi_at_call 22; refine (callsIn_wide.2 HR.out).mono ?_; rintro e w' ⟨rfl, rfl⟩) | (gi_at_call 28; refine (callsIn_wide.2 (miss_made b _)).mono ?_; rintro e w' ⟨rfl, rfl⟩))
  have bO := Boxed.new w 22 (.slice none 0 0)
  have bN := Boxed.new (w.alloc (.cells #[.slice none 0 0] 22)) 25 (ptr b)
  rw [World.size_alloc] at bN
  have hB0 : Below w.heap.size w ((w.alloc (.cells #[.slice none 0 0] 22)).alloc (.cells #[ptr b] 25)) := ((Below.refl _ w).alloc (Nat.le_refl _) _).alloc (by simp) _
  have hM0 : Mem (w.heap.size + 1) b m D ((w.alloc (.cells #[.slice none 0 0] 22)).alloc (.cells #[ptr b] 25)) := ⟨bN, (H.out.only (Only.of_below hB0) (by simp))⟩
  have hbw : b < w.heap.size := H.out.lt
  refine wpIn_rangeFunc_ownG rfl (by decide) (gf := 32) (lb := #[.pointer (some ⟨w.heap.size + 1, 0, none⟩)]) rfl trivial (enters_of Try.func32 (by kernel_rfl) rfl)
    (HST.out (w.heap.size + 1) _ hM0) (fun {A B C} (h : Mem (w.heap.size + 1) b m D A → Mem (w.heap.size + 1) b m D B) (k : Mem (w.heap.size + 1) b m D B → Mem (w.heap.size + 1) b m D C) x => k (h x)) (fun W l o o' _ hl ho _ hm => hm.putObj o' hl ho) (Below.refl _ _) (fun _ => rfl)
    (fun pre W => ((∃ v, Boxed W w.heap.size 22 v ∧ W.ownsRow w.heap.size 23 1 v pre.length (cells64 pre) ∧ True) ∧ Boxed W (w.heap.size + 1) 25 (ptr b)) ∧ Below w.heap.size w W)
    (fun _ _ _ => False)
    (OwnFrom.and (OwnFrom.and (Own.from (holdsRow_own w.heap.size w.heap.size 22 23 1 (fun pre : List Nat => pre.length) cells64 (fun _ _ => True)) _) (Own.from (fun s X Y row hs hg hrow => hs.kept hg (fun e' => by obtain ⟨o, ho, hc⟩ := hrow _ e'.symm; rw [show X.heap[w.heap.size + 1]? = _ from hs] at ho; cases ho; cases hc)) _)) (ownFrom_below (Nat.le_refl _) (by simp; omega)))
    (fun _ _ _ _ _ hs _ _ => hs)
    ⟨⟨⟨_, bO.alloc _, World.ownsRow_nil _ _ _ _, trivial⟩, bN⟩, hB0⟩
    (fun x => { tmps := #[ptr b, undef, Value.slice none 0 0, Value.pointer (some { block := w.heap.size, off := 0 }), .int .u64 (x : Int), ptr b, Value.bool true, Value.bool false, ptr b, Value.func (Fn.func 32) #[] #[Value.pointer (some { block := w.heap.size + 1, off := 0 })], .int .u64 (x : Int), undef, undef, undef, undef, undef], defers := [] }) ?assign ?body ?done ?stop
  case assign =>
    intro l x W K hK
    gi_wp2
    exact hK
  case body =>
    rintro l pre x W ⟨⟨⟨v, hv, hrow, -⟩, hbn⟩, hB⟩ hlt
    have hc := hv.cell
    have hpl : pre.length < 1024 := by omega
    gi_wp2_with (gi_at_builtin; refine wpListIn_append_own _ rfl _ _ 22 rfl w.heap.size 23 i0 (.int .u64 0) 1 8 Try.underlying22 hi hz0 hz1 hz2 rfl (by decide) _ _ _ rfl (hrow.alloc _) ⟨W.heap.size, 0, none⟩ 1 1 [.int .u64 (x : Int)] rfl rfl (cell_one_new _ _ _) (by simp [Value.oneCell']) (by unfold maxLen; omega) (by omega) (by have := hB.size; simp; omega) ?_; intro v' w1 hown' hgrow _; obtain ⟨g', cap', rfl⟩ := ownsRow_succ hown'; obtain ⟨hv1, hv2, hr2, hk2, hb2⟩ := hv.appended (by decide) hrow hB.size (Nat.le_refl _) hown' hgrow; have hc1 := hv1.cell; have hf1 := hv1.frozen)
    have hbn2 : Boxed w1 (w.heap.size + 1) 25 (ptr b) := (hbn.alloc _).kept hgrow (hbn.not_row (by decide) hrow)
    have hbn3 := hbn2.kept (grownBy_setCell' w1 w.heap.size (Value.slice (some ⟨g', 0, none⟩) (pre.length + 1) cap')) (fun e => by injection e with e; omega)
    exact ⟨hk2.from _, fun hm => ⟨hbn3, (hb2.block b hbw).trans hm.2.is, hm.2.dw⟩, ⟨⟨_, hv2, by simpa [cells64] using hr2, trivial⟩, hbn3⟩, hB.trans hb2⟩
  case done =>
    rintro D2 ys W hD rfl ⟨⟨⟨v, hv, hrow, -⟩, -⟩, hB⟩ hK
    have hc := hv.cell
    gi_wp2
    refine ⟨by simp, .inl ⟨_, _, rfl, run_takeDeferred hK, ?_⟩⟩
    exact ⟨_, results_tmp rfl _ _ _, v, rfl, ownsRow_putObj hrow _ hK rfl, hB.trans (belowK_b (w := w) (Nat.le_refl _) W D2 _ _ (by simp at hD; omega) hK rfl rfl)⟩
  case stop =>
    rintro D2 c pre W _ _ h _
    exact h.elim
end Go.Proofs.Ytllchikjdpoopaa
