/- MarkBack: a marking that is written reads so again, bytes that are a marking are right and written so, and a packet that was given one has it, and is else the same: for every input the function of the statement returns true, and its arguments read afterwards as before. Conditions: none. -/
import Derived.Test.YtcgfmjdlningpaaRows
import Derived.Test.YtcgfmjdlningpaaBase
import Derived.Test.YtcgfmjdlningpaaMkP
import Derived.WalkKit
import Derived.ProofKit
import Derived.OpenShut
import Derived.ShutString
import Derived.ChangeOld
import Derived.Below
namespace Go.Proofs.Ytcgfmjdlningpaa.markBack
open Go.ChangeShapes Go.WideShapes Go.ChangeAt Go.RowKit
set_option linter.unusedVariables false

theorem own : ownKnob Try.prog.godebug = none := by kernel_rfl
theorem laidOut : laidOutB Try.prog = true := by kernel_rfl

set_option maxRecDepth 100000 in
theorem lifted (os : Os) (started : os.Started) (H : Type) (enc : TypeId × Value → H) :
    ReturnsInHanded {} Try.checked os 11 .any (Rows.markBackSpec.pre6 enc Try.prog Try.f11 Rows.markBackRow.domain false) (Rows.markBackSpec.post enc Try.prog Try.f11 false true false false) := by
  refine returnsInHanded_of_change (C := Try.checked) own started (by kernel_rfl) Try.func11
    (ChangeSpec.witness6 (enc := enc) (C := Try.checked) false ⟨#[], #[.agg #[.bool false, .bool false, .bool false, .bool false, .bool false, .bool false, .int .u8 0, .int .u8 0, .int .u8 0], .slice none 0 0, .agg #[.bool false, .int .u8 0, .int .u16 0, .int .u32 0, .int .u32 0, .slice none 0 0, .bool false, .int .u16 0, .slice none 0 0, .slice none 0 0, .int .u8 0], .int .u8 0], []⟩ 8 (by kernel_rfl) (by kernel_rfl) (by kernel_rfl) (by kernel_rfl)) ?_
  intro W base args ds gs before hval0 hW hcnd _
  have hval : ∀ (j : Nat) t v, Try.f11.params[j]? = some t → args[j]? = some v → Value.okWide Try.prog W .any base t v := hval0
  have hW' := hW
  obtain ⟨p, q, hA0, hV, rfl, hfz, hnd⟩ := hW
  have hA : DataW.TrodAll enc Try.prog W 0 (fun _ => true) true Try.f11.params.toList args.toList ds p := hA0
  rw [Try.params11] at hA hval
  obtain ⟨v0, vs0, d0, ds0, p0, q0, hargs, rfl, rfl, h0, r0⟩ := trodAll_cons hA
  obtain ⟨v1, vs1, d1, ds1, p1, q1, rfl, rfl, rfl, h1, r1⟩ := trodAll_cons r0
  obtain ⟨v2, vs2, d2, ds2, p2, q2, rfl, rfl, rfl, h2, r2⟩ := trodAll_cons r1
  obtain ⟨v3, vs3, d3, ds3, p3, q3, rfl, rfl, rfl, h3, r3⟩ := trodAll_cons r2
  obtain ⟨rfl, rfl, rfl⟩ := trodAll_nil r3
  obtain rfl : args = #[v0, v1, v2, v3] := by cases args; simp_all
  obtain ⟨rfl, rfl⟩ := trodVars_none hV
  have k0 := h0
  have lt0 : ∀ x ∈ p0, x.block < W.heap.size := by obtain ⟨m, hm⟩ := k0; exact DataW.trod_lt m _ _ _ hm
  obtain ⟨cs0, rfl, hsz0, hf0⟩ := open_agg Try.underlying69 (by kernel_rfl) (by kernel_rfl) (hval 0 69 v0 rfl rfl) h0
  have hn0 : cs0.length = 9 := hsz0
  clear hsz0
  obtain _ | ⟨v0_0, cs0⟩ := cs0
  · simp at hn0
  obtain _ | ⟨v0_1, cs0⟩ := cs0
  · simp at hn0
  obtain _ | ⟨v0_2, cs0⟩ := cs0
  · simp at hn0
  obtain _ | ⟨v0_3, cs0⟩ := cs0
  · simp at hn0
  obtain _ | ⟨v0_4, cs0⟩ := cs0
  · simp at hn0
  obtain _ | ⟨v0_5, cs0⟩ := cs0
  · simp at hn0
  obtain _ | ⟨v0_6, cs0⟩ := cs0
  · simp at hn0
  obtain _ | ⟨v0_7, cs0⟩ := cs0
  · simp at hn0
  obtain _ | ⟨v0_8, cs0⟩ := cs0
  · simp at hn0
  obtain rfl : cs0 = [] := List.eq_nil_of_length_eq_zero (by simpa using hn0)
  obtain ⟨m0_0, y0_0, e0_0⟩ := hf0 0 _ v0_0 rfl rfl
  obtain ⟨m0_1, y0_1, e0_1⟩ := hf0 1 _ v0_1 rfl rfl
  obtain ⟨m0_2, y0_2, e0_2⟩ := hf0 2 _ v0_2 rfl rfl
  obtain ⟨m0_3, y0_3, e0_3⟩ := hf0 3 _ v0_3 rfl rfl
  obtain ⟨m0_4, y0_4, e0_4⟩ := hf0 4 _ v0_4 rfl rfl
  obtain ⟨m0_5, y0_5, e0_5⟩ := hf0 5 _ v0_5 rfl rfl
  obtain ⟨m0_6, y0_6, e0_6⟩ := hf0 6 _ v0_6 rfl rfl
  obtain ⟨m0_7, y0_7, e0_7⟩ := hf0 7 _ v0_7 rfl rfl
  obtain ⟨m0_8, y0_8, e0_8⟩ := hf0 8 _ v0_8 rfl rfl
  clear hf0
  obtain ⟨b0_0, rfl⟩ := field_bool Try.underlying4 e0_0
  obtain ⟨b0_1, rfl⟩ := field_bool Try.underlying4 e0_1
  obtain ⟨b0_2, rfl⟩ := field_bool Try.underlying4 e0_2
  obtain ⟨b0_3, rfl⟩ := field_bool Try.underlying4 e0_3
  obtain ⟨b0_4, rfl⟩ := field_bool Try.underlying4 e0_4
  obtain ⟨b0_5, rfl⟩ := field_bool Try.underlying4 e0_5
  obtain ⟨x0_6, rfl, hx0_6⟩ := field_nat Try.underlying5 (.inl ⟨rfl, rfl⟩) e0_6
  obtain ⟨x0_7, rfl, hx0_7⟩ := field_nat Try.underlying5 (.inl ⟨rfl, rfl⟩) e0_7
  obtain ⟨x0_8, rfl, hx0_8⟩ := field_nat Try.underlying5 (.inl ⟨rfl, rfl⟩) e0_8
  have k1 := h1
  have lt1 : ∀ x ∈ p1, x.block < W.heap.size := by obtain ⟨m, hm⟩ := k1; exact DataW.trod_lt m _ _ _ hm
  obtain ⟨a1, len1, cap1, rfl⟩ := okWide_slice Try.underlying22 (hval 1 22 v1 rfl rfl)
  obtain ⟨fuel1, e1⟩ := h1
  obtain ⟨bs1, hs1, hb1, hl1⟩ := field_bytes Try.underlying22 Try.underlying5 (by kernel_rfl) e1
  have k2 := h2
  have lt2 : ∀ x ∈ p2, x.block < W.heap.size := by obtain ⟨m, hm⟩ := k2; exact DataW.trod_lt m _ _ _ hm
  obtain ⟨cs2, rfl, hsz2, hf2⟩ := open_agg Try.underlying33 (by kernel_rfl) (by kernel_rfl) (hval 2 33 v2 rfl rfl) h2
  have hn2 : cs2.length = 11 := hsz2
  clear hsz2
  obtain _ | ⟨v2_0, cs2⟩ := cs2
  · simp at hn2
  obtain _ | ⟨v2_1, cs2⟩ := cs2
  · simp at hn2
  obtain _ | ⟨v2_2, cs2⟩ := cs2
  · simp at hn2
  obtain _ | ⟨v2_3, cs2⟩ := cs2
  · simp at hn2
  obtain _ | ⟨v2_4, cs2⟩ := cs2
  · simp at hn2
  obtain _ | ⟨v2_5, cs2⟩ := cs2
  · simp at hn2
  obtain _ | ⟨v2_6, cs2⟩ := cs2
  · simp at hn2
  obtain _ | ⟨v2_7, cs2⟩ := cs2
  · simp at hn2
  obtain _ | ⟨v2_8, cs2⟩ := cs2
  · simp at hn2
  obtain _ | ⟨v2_9, cs2⟩ := cs2
  · simp at hn2
  obtain _ | ⟨v2_10, cs2⟩ := cs2
  · simp at hn2
  obtain rfl : cs2 = [] := List.eq_nil_of_length_eq_zero (by simpa using hn2)
  obtain ⟨m2_0, y2_0, e2_0⟩ := hf2 0 _ v2_0 rfl rfl
  obtain ⟨m2_1, y2_1, e2_1⟩ := hf2 1 _ v2_1 rfl rfl
  obtain ⟨m2_2, y2_2, e2_2⟩ := hf2 2 _ v2_2 rfl rfl
  obtain ⟨m2_3, y2_3, e2_3⟩ := hf2 3 _ v2_3 rfl rfl
  obtain ⟨m2_4, y2_4, e2_4⟩ := hf2 4 _ v2_4 rfl rfl
  obtain ⟨m2_5, y2_5, e2_5⟩ := hf2 5 _ v2_5 rfl rfl
  obtain ⟨m2_6, y2_6, e2_6⟩ := hf2 6 _ v2_6 rfl rfl
  obtain ⟨m2_7, y2_7, e2_7⟩ := hf2 7 _ v2_7 rfl rfl
  obtain ⟨m2_8, y2_8, e2_8⟩ := hf2 8 _ v2_8 rfl rfl
  obtain ⟨m2_9, y2_9, e2_9⟩ := hf2 9 _ v2_9 rfl rfl
  obtain ⟨m2_10, y2_10, e2_10⟩ := hf2 10 _ v2_10 rfl rfl
  clear hf2
  obtain ⟨b2_0, rfl⟩ := field_bool Try.underlying4 e2_0
  obtain ⟨x2_1, rfl, hx2_1⟩ := field_nat Try.underlying5 (.inl ⟨rfl, rfl⟩) e2_1
  obtain ⟨x2_2, rfl, hx2_2⟩ := field_nat Try.underlying25 (.inr (.inl ⟨rfl, rfl⟩)) e2_2
  obtain ⟨x2_3, rfl, hx2_3⟩ := field_nat Try.underlying26 (.inr (.inr (.inl ⟨rfl, rfl⟩))) e2_3
  obtain ⟨x2_4, rfl, hx2_4⟩ := field_nat Try.underlying26 (.inr (.inr (.inl ⟨rfl, rfl⟩))) e2_4
  obtain ⟨zs2_5, hr2_5, hw2_5, hl2_5, hn2_5⟩ := field_rdn Try.underlying27 Try.underlying26 (by kernel_rfl) e2_5
  obtain ⟨b2_6, rfl⟩ := field_bool Try.underlying4 e2_6
  obtain ⟨x2_7, rfl, hx2_7⟩ := field_nat Try.underlying25 (.inr (.inl ⟨rfl, rfl⟩)) e2_7
  obtain ⟨bs2_8, hs2_8, hb2_8, hl2_8⟩ := field_bytes Try.underlying22 Try.underlying5 (by kernel_rfl) e2_8
  obtain ⟨bs2_9, hs2_9, hb2_9, hl2_9⟩ := field_bytes Try.underlying22 Try.underlying5 (by kernel_rfl) e2_9
  obtain ⟨x2_10, rfl, hx2_10⟩ := field_nat Try.underlying5 (.inl ⟨rfl, rfl⟩) e2_10
  have k3 := h3
  have lt3 : ∀ x ∈ p3, x.block < W.heap.size := by obtain ⟨m, hm⟩ := k3; exact DataW.trod_lt m _ _ _ hm
  obtain ⟨z3, rfl, _, _, hz3⟩ := open_int Try.underlying5 (hval 3 5 v3 rfl rfl) h3
  obtain ⟨x3, rfl, hx3⟩ := nat_of_wf (.inl ⟨rfl, rfl⟩) hz3
  clear hA0 hval0
  refine (mback_law hx0_6 hx0_7 hx0_8 hs1 hb1 hx2_1 hx2_2 hx2_3 hx2_4 hr2_5 hw2_5 hn2_5 hx2_7 hs2_8 hb2_8 hs2_9 hb2_9 hx2_10 hx3).mono fun e W' ⟨he, bel0⟩ => ?_
  subst he
  have bel : Below W.heap.size W W' := bel0
  exact ⟨_, rfl, _, _, _, [], _, [], hW', trodAll_mk1 (shut_bool Try.underlying4 _), (trodAll_cons_mk (Below.trod laidOut (by kernel_rfl) (of_decide_eq_true (by kernel_rfl)) k0 bel lt0) (trodAll_cons_mk (Below.trod laidOut (by kernel_rfl) (of_decide_eq_true (by kernel_rfl)) k1 bel lt1) (trodAll_cons_mk (Below.trod laidOut (by kernel_rfl) (of_decide_eq_true (by kernel_rfl)) k2 bel lt2) (trodAll_cons_mk (Below.trod laidOut (by kernel_rfl) (of_decide_eq_true (by kernel_rfl)) k3 bel lt3) trodAll_mk0)))), rfl, bel.frame _, fun h => by cases h⟩

theorem over : Rows.markBackRow.holds Try.pinned (OpenSpec.ofChange Rows.markBackSpec) :=
  OpenClaim.holds_of_wide 11 Try.f11 rfl rfl rfl rfl rfl rfl rfl ⟨rfl, rfl, rfl, rfl, rfl⟩ rfl rfl rfl rfl rfl (by kernel_rfl) Try.func11 (by kernel_rfl)
    (of_decide_eq_true (by kernel_rfl)) (by unfold Func.isWrapper; first | (rw [if_pos (by decide +kernel)]; kernel_rfl) | (rw [if_neg (by decide +kernel)]; exact ⟨rfl, rfl⟩))
    (fun os started H enc _ => lifted os started H enc)

theorem proved : Rows.MarkBackSaid := over
#print axioms proved
end Go.Proofs.Ytcgfmjdlningpaa.markBack
