/- FeedbackBack: what is put is parsed as it was; what is parsed is right, and put as a packet of the same kind, count and as many bytes; the numbers of the pairs of some numbers are just these; a rate is told closely: for every input the function of the statement returns true, and its arguments read afterwards as before. Conditions: none. -/
import Derived.Test.YtefcimkopgcagaaRows
import Derived.Test.YtefcimkopgcagaaBase
import Derived.Test.YtefcimkopgcagaaFeK
import Derived.WalkKit
import Derived.ProofKit
import Derived.OpenShut
import Derived.ShutString
import Derived.ChangeOld
import Derived.Below
namespace Go.Proofs.Ytefcimkopgcagaa.feedbackBack
open Go.ChangeShapes Go.WideShapes Go.ChangeAt Go.RowKit
set_option linter.unusedVariables false

theorem own : ownKnob Try.prog.godebug = none := by kernel_rfl
theorem laidOut : laidOutB Try.prog = true := by kernel_rfl

set_option maxRecDepth 100000 in
theorem lifted (os : Os) (started : os.Started) (H : Type) (enc : TypeId × Value → H) :
    ReturnsInHanded {} Try.checked os 6 .any (Rows.feedbackBackSpec.pre6 enc Try.prog Try.f6 Rows.feedbackBackRow.domain false) (Rows.feedbackBackSpec.post enc Try.prog Try.f6 false true false false) := by
  refine returnsInHanded_of_change (C := Try.checked) own started (by kernel_rfl) Try.func6
    (ChangeSpec.witness6 (enc := enc) (C := Try.checked) false ⟨#[], #[.agg #[.int .u8 0, .int .u32 0, .int .u32 0, .slice none 0 0, .slice none 0 0, .int .u8 0, .int .u32 0, .slice none 0 0], .agg #[.int .u8 0, .int .u8 0, .slice none 0 0, .int .u8 0], .slice none 0 0, .int .u64 0], []⟩ 8 (by kernel_rfl) (by kernel_rfl) (by kernel_rfl) (by kernel_rfl)) ?_
  intro W base args ds gs before hval0 hW hcnd _
  have hval : ∀ (j : Nat) t v, Try.f6.params[j]? = some t → args[j]? = some v → Value.okWide Try.prog W .any base t v := hval0
  have hW' := hW
  obtain ⟨p, q, hA0, hV, rfl, hfz, hnd⟩ := hW
  have hA : DataW.TrodAll enc Try.prog W 0 (fun _ => true) true Try.f6.params.toList args.toList ds p := hA0
  rw [Try.params6] at hA hval
  obtain ⟨v0, vs0, d0, ds0, p0, q0, hargs, rfl, rfl, h0, r0⟩ := trodAll_cons hA
  obtain ⟨v1, vs1, d1, ds1, p1, q1, rfl, rfl, rfl, h1, r1⟩ := trodAll_cons r0
  obtain ⟨v2, vs2, d2, ds2, p2, q2, rfl, rfl, rfl, h2, r2⟩ := trodAll_cons r1
  obtain ⟨v3, vs3, d3, ds3, p3, q3, rfl, rfl, rfl, h3, r3⟩ := trodAll_cons r2
  obtain ⟨rfl, rfl, rfl⟩ := trodAll_nil r3
  obtain rfl : args = #[v0, v1, v2, v3] := by cases args; simp_all
  obtain ⟨rfl, rfl⟩ := trodVars_none hV
  have k0 := h0
  have lt0 : ∀ x ∈ p0, x.block < W.heap.size := by obtain ⟨m, hm⟩ := k0; exact DataW.trod_lt m _ _ _ hm
  obtain ⟨cs0, rfl, hsz0, hf0⟩ := open_agg Try.underlying27 (by kernel_rfl) (by kernel_rfl) (hval 0 27 v0 rfl rfl) h0
  have hn0 : cs0.length = 8 := hsz0
  clear hsz0
  obtain _ | ⟨v0_0, cs0⟩ := cs0
  · simp at hn0
  obtain _ | ⟨v0_1, cs0⟩ := cs0
  · simp at hn0
  obtain _ | ⟨v0_2, cs0⟩ := cs0
  · simp at hn0
  obtain _ | ⟨v0_3, cs0⟩ := cs0
  · simp at hn0
  obtain _ | ⟨v0_4, cs0⟩ := cs0
  · simp at hn0
  obtain _ | ⟨v0_5, cs0⟩ := cs0
  · simp at hn0
  obtain _ | ⟨v0_6, cs0⟩ := cs0
  · simp at hn0
  obtain _ | ⟨v0_7, cs0⟩ := cs0
  · simp at hn0
  obtain rfl : cs0 = [] := List.eq_nil_of_length_eq_zero (by simpa using hn0)
  obtain ⟨m0_0, y0_0, e0_0⟩ := hf0 0 _ v0_0 rfl rfl
  obtain ⟨m0_1, y0_1, e0_1⟩ := hf0 1 _ v0_1 rfl rfl
  obtain ⟨m0_2, y0_2, e0_2⟩ := hf0 2 _ v0_2 rfl rfl
  obtain ⟨m0_3, y0_3, e0_3⟩ := hf0 3 _ v0_3 rfl rfl
  obtain ⟨m0_4, y0_4, e0_4⟩ := hf0 4 _ v0_4 rfl rfl
  obtain ⟨m0_5, y0_5, e0_5⟩ := hf0 5 _ v0_5 rfl rfl
  obtain ⟨m0_6, y0_6, e0_6⟩ := hf0 6 _ v0_6 rfl rfl
  obtain ⟨m0_7, y0_7, e0_7⟩ := hf0 7 _ v0_7 rfl rfl
  clear hf0
  obtain ⟨x0_0, rfl, hx0_0⟩ := field_nat Try.underlying5 (.inl ⟨rfl, rfl⟩) e0_0
  obtain ⟨x0_1, rfl, hx0_1⟩ := field_nat Try.underlying22 (.inr (.inr (.inl ⟨rfl, rfl⟩))) e0_1
  obtain ⟨x0_2, rfl, hx0_2⟩ := field_nat Try.underlying22 (.inr (.inr (.inl ⟨rfl, rfl⟩))) e0_2
  obtain ⟨l0_3, hr0_3, hf0_3, hl0_3⟩ := open_prs e0_3
  obtain ⟨l0_4, hr0_4, hf0_4, hl0_4⟩ := open_ods e0_4
  obtain ⟨x0_5, rfl, hx0_5⟩ := field_nat Try.underlying5 (.inl ⟨rfl, rfl⟩) e0_5
  obtain ⟨x0_6, rfl, hx0_6⟩ := field_nat Try.underlying22 (.inr (.inr (.inl ⟨rfl, rfl⟩))) e0_6
  obtain ⟨zs0_7, hr0_7, hw0_7, hl0_7, hn0_7⟩ := field_rdn Try.underlying25 Try.underlying22 (by kernel_rfl) e0_7
  have k1 := h1
  have lt1 : ∀ x ∈ p1, x.block < W.heap.size := by obtain ⟨m, hm⟩ := k1; exact DataW.trod_lt m _ _ _ hm
  obtain ⟨cs1, rfl, hsz1, hf1⟩ := open_agg Try.underlying41 (by kernel_rfl) (by kernel_rfl) (hval 1 41 v1 rfl rfl) h1
  have hn1 : cs1.length = 4 := hsz1
  clear hsz1
  obtain _ | ⟨v1_0, cs1⟩ := cs1
  · simp at hn1
  obtain _ | ⟨v1_1, cs1⟩ := cs1
  · simp at hn1
  obtain _ | ⟨v1_2, cs1⟩ := cs1
  · simp at hn1
  obtain _ | ⟨v1_3, cs1⟩ := cs1
  · simp at hn1
  obtain rfl : cs1 = [] := List.eq_nil_of_length_eq_zero (by simpa using hn1)
  obtain ⟨m1_0, y1_0, e1_0⟩ := hf1 0 _ v1_0 rfl rfl
  obtain ⟨m1_1, y1_1, e1_1⟩ := hf1 1 _ v1_1 rfl rfl
  obtain ⟨m1_2, y1_2, e1_2⟩ := hf1 2 _ v1_2 rfl rfl
  obtain ⟨m1_3, y1_3, e1_3⟩ := hf1 3 _ v1_3 rfl rfl
  clear hf1
  obtain ⟨x1_0, rfl, hx1_0⟩ := field_nat Try.underlying5 (.inl ⟨rfl, rfl⟩) e1_0
  obtain ⟨x1_1, rfl, hx1_1⟩ := field_nat Try.underlying5 (.inl ⟨rfl, rfl⟩) e1_1
  obtain ⟨bs1_2, hs1_2, hb1_2, hl1_2⟩ := field_bytes Try.underlying35 Try.underlying5 (by kernel_rfl) e1_2
  obtain ⟨x1_3, rfl, hx1_3⟩ := field_nat Try.underlying5 (.inl ⟨rfl, rfl⟩) e1_3
  have k2 := h2
  have lt2 : ∀ x ∈ p2, x.block < W.heap.size := by obtain ⟨m, hm⟩ := k2; exact DataW.trod_lt m _ _ _ hm
  obtain ⟨a2, len2, cap2, rfl⟩ := okWide_slice Try.underlying62 (hval 2 62 v2 rfl rfl)
  obtain ⟨fuel2, e2⟩ := h2
  obtain ⟨zs2, hr2, hw2, hl2⟩ := field_rd Try.underlying62 Try.underlying75 (by kernel_rfl) e2
  have k3 := h3
  have lt3 : ∀ x ∈ p3, x.block < W.heap.size := by obtain ⟨m, hm⟩ := k3; exact DataW.trod_lt m _ _ _ hm
  obtain ⟨z3, rfl, _, _, hz3⟩ := open_int Try.underlying51 (hval 3 51 v3 rfl rfl) h3
  obtain ⟨x3, rfl, hx3⟩ := nat_of_wf (.inr (.inr (.inr ⟨rfl, rfl⟩))) hz3
  clear hA0 hval0
  refine (fback_args hx0_0 hx0_1 hx0_2 hr0_3 hf0_3 hr0_4 hf0_4 hx0_5 hx0_6 hr0_7 hw0_7 hs1_2 hb1_2 hr2 hw2 hx3).mono fun e W' ⟨he, bel0⟩ => ?_
  subst he
  have bel : Below W.heap.size W W' := bel0
  exact ⟨_, rfl, _, _, _, [], _, [], hW', trodAll_mk1 (shut_bool Try.underlying4 _), (trodAll_cons_mk (Below.trod laidOut (by kernel_rfl) (of_decide_eq_true (by kernel_rfl)) k0 bel lt0) (trodAll_cons_mk (Below.trod laidOut (by kernel_rfl) (of_decide_eq_true (by kernel_rfl)) k1 bel lt1) (trodAll_cons_mk (Below.trod laidOut (by kernel_rfl) (of_decide_eq_true (by kernel_rfl)) k2 bel lt2) (trodAll_cons_mk (Below.trod laidOut (by kernel_rfl) (of_decide_eq_true (by kernel_rfl)) k3 bel lt3) trodAll_mk0)))), rfl, bel.frame _, fun h => by cases h⟩

theorem over : Rows.feedbackBackRow.holds Try.pinned (OpenSpec.ofChange Rows.feedbackBackSpec) :=
  OpenClaim.holds_of_wide 6 Try.f6 rfl rfl rfl rfl rfl rfl rfl ⟨rfl, rfl, rfl, rfl, rfl⟩ rfl rfl rfl rfl rfl (by kernel_rfl) Try.func6 (by kernel_rfl)
    (of_decide_eq_true (by kernel_rfl)) (by unfold Func.isWrapper; first | (rw [if_pos (by decide +kernel)]; kernel_rfl) | (rw [if_neg (by decide +kernel)]; exact ⟨rfl, rfl⟩))
    (fun os started H enc _ => lifted os started H enc)

theorem proved : Rows.FeedbackBackSaid := over
#print axioms proved
end Go.Proofs.Ytefcimkopgcagaa.feedbackBack
