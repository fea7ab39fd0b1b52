/- floor: what FloorOrder's walk gives for the statement's arguments: a row of calls, opened. Conditions: none. -/
import Derived.Test.YtelfeedaadkhnaaFoK
import Derived.Test.YtelfeedaadkhnaaLawR
set_option linter.unusedVariables false
namespace Go.Proofs.Ytelfeedaadkhnaa
open Go.Joins Go.ChangeShapes Go.WideShapes Go.RowKit Go.Deep

theorem wf_i64 {z : Int} (h : (Lit.int .i64 z).wf = true) : -9223372036854775808 ≤ z ∧ z ≤ 9223372036854775807 := by
  simp [Lit.wf, IntKind.min, IntKind.max, IntKind.signed, IntKind.bits] at h
  omega
theorem open_a13s {H : Type} {enc : TypeId × Value → H} {w : World} {base : Nat} {spare : Nat → Bool} {held : Bool} {n : Nat} {c : Value} {y : DataW H × List MemPlace} (h : DataW.trod enc Try.prog w base spare held n 23 [c] = some y) :
    ∃ l : List A13, RdA w c l ∧ (∀ x ∈ l, x.Fit) ∧ l.length ≤ 9223372036854775807 := by
  rcases open_rows Try.underlying23 Try.underlying40 (by kernel_rfl) (by kernel_rfl) h with rfl | ⟨⟨g, o, spot⟩, len, cap, rfl, hlc, hcm, hi⟩
  · exact ⟨[], ⟨none, 0, rfl, by simp, fun h => by simp at h⟩, by simp, by simp⟩
  · rcases Nat.eq_zero_or_pos len with hz | hpos
    · subst hz
      exact ⟨[], ⟨_, cap, rfl, hlc, fun h => by simp at h⟩, by simp, by simp⟩
    have hsp : spot = none := by
      obtain ⟨cs, hl, hcell, _⟩ := hi 0 hpos
      obtain _ | ⟨c0, cs⟩ := cs
      · cases hl
      have q0 := hcell 0 (by decide)
      simpa [Addr.add] using World.cell?_spot q0
    subst hsp
    have hQ : ∀ i, i < len → ∃ p : A13, p.Fit ∧ w.rangeAt g (o + i * 5) p.cells.toList := by
      intro i hil
      obtain ⟨cs, hl, hcell, hf⟩ := hi i hil
      obtain _ | ⟨c0, cs⟩ := cs
      · cases hl
      obtain _ | ⟨c1, cs⟩ := cs
      · cases hl
      obtain _ | ⟨c2, cs⟩ := cs
      · cases hl
      obtain _ | ⟨c3, cs⟩ := cs
      · cases hl
      obtain _ | ⟨c4, cs⟩ := cs
      · cases hl
      obtain rfl : cs = [] := by
        obtain _ | ⟨c5, cs⟩ := cs
        · rfl
        · cases hl
      obtain ⟨m0, y0, e0⟩ := hf 0 _ c0 rfl rfl
      obtain ⟨m1, y1, e1⟩ := hf 1 _ c1 rfl rfl
      obtain ⟨m2, y2, e2⟩ := hf 2 _ c2 rfl rfl
      obtain ⟨m3, y3, e3⟩ := hf 3 _ c3 rfl rfl
      obtain ⟨m4, y4, e4⟩ := hf 4 _ c4 rfl rfl
      obtain ⟨x0, rfl, hx0⟩ := field_int Try.underlying3 e0
      obtain ⟨x1, rfl, hx1⟩ := field_nat Try.underlying30 (.inr (.inr (.inl ⟨rfl, rfl⟩))) e1
      obtain ⟨x2, rfl, hx2⟩ := field_nat Try.underlying30 (.inr (.inr (.inl ⟨rfl, rfl⟩))) e2
      obtain ⟨x3, rfl⟩ := field_bool Try.underlying4 e3
      obtain ⟨x4, rfl, hx4⟩ := field_nat Try.underlying5 (.inl ⟨rfl, rfl⟩) e4
      have q0 := hcell 0 (by decide)
      have q1 := hcell 1 (by decide)
      have q2 := hcell 2 (by decide)
      have q3 := hcell 3 (by decide)
      have q4 := hcell 4 (by decide)
      rw [add_plain] at q0 q1 q2 q3 q4
      refine ⟨⟨x0, x1, x2, x3, x4⟩, ⟨wf_i64 hx0, hx1, hx2, hx4⟩, fun j v hv => ?_⟩
      have hv' : [Value.int .i64 x0, .int .u32 (x1 : Int), .int .u32 (x2 : Int), .bool x3, .int .u8 (x4 : Int)][j]? = some v := hv
      rw [Nat.add_assoc, ← hv']
      match j with
      | 0 => exact q0
      | 1 => exact q1
      | 2 => exact q2
      | 3 => exact q3
      | 4 => exact q4
      | j + 5 => simp at hv'
    obtain ⟨l, hl, hq⟩ := list_of len hQ
    refine ⟨l, ⟨_, cap, by rw [hl], by rw [hl]; exact hlc, fun hp => ?_⟩, fun p hp => ?_, by rw [hl]; unfold maxLen at hcm; omega⟩
    · exact ⟨g, o, rfl, fun i p hip => (hq i p hip).2⟩
    · obtain ⟨i, hi⟩ := List.getElem?_of_mem hp
      exact (hq i p hi).1
theorem forder_args {z : Int} {s : Nat} {v : Value} {l : List A13} {w : World} (hz : (Lit.int .i64 z).wf = true) (hv : RdA w v l) (hf : ∀ x ∈ l, x.Fit) : Calls Try.prog 4 #[.int .i64 z, .int .u64 (s : Int), v] w fun e w' => e = .returned (.bool true) ∧ Below w.heap.size w w' :=
  (forder_walk z s v l w (wf_i64 hz) hv hf).mono fun _ _ h => ⟨h.1, h.2.below (by simp) (Nat.le_refl _)⟩
end Go.Proofs.Ytelfeedaadkhnaa
