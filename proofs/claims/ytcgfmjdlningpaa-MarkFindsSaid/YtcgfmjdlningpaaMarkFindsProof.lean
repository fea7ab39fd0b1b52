/- MarkFinds: of any packet the marking of any id is the one that the document tells, or there is none; and what it becomes, when it is given one; it stays: for every input the function of the statement returns true, and its arguments read afterwards as before. Conditions: none. -/
import Derived.Test.YtcgfmjdlningpaaRows
import Derived.Test.YtcgfmjdlningpaaBase
import Derived.Test.YtcgfmjdlningpaaMkM
import Derived.WalkKit
import Derived.ProofKit
import Derived.OpenShut
import Derived.ShutString
import Derived.ChangeOld
import Derived.Below
namespace Go.Proofs.Ytcgfmjdlningpaa.markFinds
open Go.ChangeShapes Go.WideShapes Go.ChangeAt Go.RowKit
set_option linter.unusedVariables false

theorem own : ownKnob Try.prog.godebug = none := by kernel_rfl
theorem laidOut : laidOutB Try.prog = true := by kernel_rfl

set_option maxRecDepth 100000 in
theorem lifted (os : Os) (started : os.Started) (H : Type) (enc : TypeId × Value → H) :
    ReturnsInHanded {} Try.checked os 10 .any (Rows.markFindsSpec.pre6 enc Try.prog Try.f10 Rows.markFindsRow.domain false) (Rows.markFindsSpec.post enc Try.prog Try.f10 false true false false) := by
  refine returnsInHanded_of_change (C := Try.checked) own started (by kernel_rfl) Try.func10
    (ChangeSpec.witness6 (enc := enc) (C := Try.checked) false ⟨#[], #[.agg #[.bool false, .int .u8 0, .int .u16 0, .int .u32 0, .int .u32 0, .slice none 0 0, .bool false, .int .u16 0, .slice none 0 0, .slice none 0 0, .int .u8 0], .int .u8 0, .agg #[.bool false, .bool false, .bool false, .bool false, .bool false, .bool false, .int .u8 0, .int .u8 0, .int .u8 0]], []⟩ 8 (by kernel_rfl) (by kernel_rfl) (by kernel_rfl) (by kernel_rfl)) ?_
  intro W base args ds gs before hval0 hW hcnd _
  have hval : ∀ (j : Nat) t v, Try.f10.params[j]? = some t → args[j]? = some v → Value.okWide Try.prog W .any base t v := hval0
  have hW' := hW
  obtain ⟨p, q, hA0, hV, rfl, hfz, hnd⟩ := hW
  have hA : DataW.TrodAll enc Try.prog W 0 (fun _ => true) true Try.f10.params.toList args.toList ds p := hA0
  rw [Try.params10] at hA hval
  obtain ⟨v0, vs0, d0, ds0, p0, q0, hargs, rfl, rfl, h0, r0⟩ := trodAll_cons hA
  obtain ⟨v1, vs1, d1, ds1, p1, q1, rfl, rfl, rfl, h1, r1⟩ := trodAll_cons r0
  obtain ⟨v2, vs2, d2, ds2, p2, q2, rfl, rfl, rfl, h2, r2⟩ := trodAll_cons r1
  obtain ⟨rfl, rfl, rfl⟩ := trodAll_nil r2
  obtain rfl : args = #[v0, v1, v2] := by cases args; simp_all
  obtain ⟨rfl, rfl⟩ := trodVars_none hV
  have k0 := h0
  have lt0 : ∀ x ∈ p0, x.block < W.heap.size := by obtain ⟨m, hm⟩ := k0; exact DataW.trod_lt m _ _ _ hm
  obtain ⟨cs0, rfl, hsz0, hf0⟩ := open_agg Try.underlying33 (by kernel_rfl) (by kernel_rfl) (hval 0 33 v0 rfl rfl) h0
  have hn0 : cs0.length = 11 := hsz0
  clear hsz0
  obtain _ | ⟨v0_0, cs0⟩ := cs0
  · simp at hn0
  obtain _ | ⟨v0_1, cs0⟩ := cs0
  · simp at hn0
  obtain _ | ⟨v0_2, cs0⟩ := cs0
  · simp at hn0
  obtain _ | ⟨v0_3, cs0⟩ := cs0
  · simp at hn0
  obtain _ | ⟨v0_4, cs0⟩ := cs0
  · simp at hn0
  obtain _ | ⟨v0_5, cs0⟩ := cs0
  · simp at hn0
  obtain _ | ⟨v0_6, cs0⟩ := cs0
  · simp at hn0
  obtain _ | ⟨v0_7, cs0⟩ := cs0
  · simp at hn0
  obtain _ | ⟨v0_8, cs0⟩ := cs0
  · simp at hn0
  obtain _ | ⟨v0_9, cs0⟩ := cs0
  · simp at hn0
  obtain _ | ⟨v0_10, cs0⟩ := cs0
  · simp at hn0
  obtain rfl : cs0 = [] := List.eq_nil_of_length_eq_zero (by simpa using hn0)
  obtain ⟨m0_0, y0_0, e0_0⟩ := hf0 0 _ v0_0 rfl rfl
  obtain ⟨m0_1, y0_1, e0_1⟩ := hf0 1 _ v0_1 rfl rfl
  obtain ⟨m0_2, y0_2, e0_2⟩ := hf0 2 _ v0_2 rfl rfl
  obtain ⟨m0_3, y0_3, e0_3⟩ := hf0 3 _ v0_3 rfl rfl
  obtain ⟨m0_4, y0_4, e0_4⟩ := hf0 4 _ v0_4 rfl rfl
  obtain ⟨m0_5, y0_5, e0_5⟩ := hf0 5 _ v0_5 rfl rfl
  obtain ⟨m0_6, y0_6, e0_6⟩ := hf0 6 _ v0_6 rfl rfl
  obtain ⟨m0_7, y0_7, e0_7⟩ := hf0 7 _ v0_7 rfl rfl
  obtain ⟨m0_8, y0_8, e0_8⟩ := hf0 8 _ v0_8 rfl rfl
  obtain ⟨m0_9, y0_9, e0_9⟩ := hf0 9 _ v0_9 rfl rfl
  obtain ⟨m0_10, y0_10, e0_10⟩ := hf0 10 _ v0_10 rfl rfl
  clear hf0
  obtain ⟨b0_0, rfl⟩ := field_bool Try.underlying4 e0_0
  obtain ⟨x0_1, rfl, hx0_1⟩ := field_nat Try.underlying5 (.inl ⟨rfl, rfl⟩) e0_1
  obtain ⟨x0_2, rfl, hx0_2⟩ := field_nat Try.underlying25 (.inr (.inl ⟨rfl, rfl⟩)) e0_2
  obtain ⟨x0_3, rfl, hx0_3⟩ := field_nat Try.underlying26 (.inr (.inr (.inl ⟨rfl, rfl⟩))) e0_3
  obtain ⟨x0_4, rfl, hx0_4⟩ := field_nat Try.underlying26 (.inr (.inr (.inl ⟨rfl, rfl⟩))) e0_4
  obtain ⟨zs0_5, hr0_5, hw0_5, hl0_5, hn0_5⟩ := field_rdn Try.underlying27 Try.underlying26 (by kernel_rfl) e0_5
  obtain ⟨b0_6, rfl⟩ := field_bool Try.underlying4 e0_6
  obtain ⟨x0_7, rfl, hx0_7⟩ := field_nat Try.underlying25 (.inr (.inl ⟨rfl, rfl⟩)) e0_7
  obtain ⟨bs0_8, hs0_8, hb0_8, hl0_8⟩ := field_bytes Try.underlying22 Try.underlying5 (by kernel_rfl) e0_8
  obtain ⟨bs0_9, hs0_9, hb0_9, hl0_9⟩ := field_bytes Try.underlying22 Try.underlying5 (by kernel_rfl) e0_9
  obtain ⟨x0_10, rfl, hx0_10⟩ := field_nat Try.underlying5 (.inl ⟨rfl, rfl⟩) e0_10
  have k1 := h1
  have lt1 : ∀ x ∈ p1, x.block < W.heap.size := by obtain ⟨m, hm⟩ := k1; exact DataW.trod_lt m _ _ _ hm
  obtain ⟨z1, rfl, _, _, hz1⟩ := open_int Try.underlying5 (hval 1 5 v1 rfl rfl) h1
  obtain ⟨x1, rfl, hx1⟩ := nat_of_wf (.inl ⟨rfl, rfl⟩) hz1
  have k2 := h2
  have lt2 : ∀ x ∈ p2, x.block < W.heap.size := by obtain ⟨m, hm⟩ := k2; exact DataW.trod_lt m _ _ _ hm
  obtain ⟨cs2, rfl, hsz2, hf2⟩ := open_agg Try.underlying69 (by kernel_rfl) (by kernel_rfl) (hval 2 69 v2 rfl rfl) h2
  have hn2 : cs2.length = 9 := hsz2
  clear hsz2
  obtain _ | ⟨v2_0, cs2⟩ := cs2
  · simp at hn2
  obtain _ | ⟨v2_1, cs2⟩ := cs2
  · simp at hn2
  obtain _ | ⟨v2_2, cs2⟩ := cs2
  · simp at hn2
  obtain _ | ⟨v2_3, cs2⟩ := cs2
  · simp at hn2
  obtain _ | ⟨v2_4, cs2⟩ := cs2
  · simp at hn2
  obtain _ | ⟨v2_5, cs2⟩ := cs2
  · simp at hn2
  obtain _ | ⟨v2_6, cs2⟩ := cs2
  · simp at hn2
  obtain _ | ⟨v2_7, cs2⟩ := cs2
  · simp at hn2
  obtain _ | ⟨v2_8, cs2⟩ := cs2
  · simp at hn2
  obtain rfl : cs2 = [] := List.eq_nil_of_length_eq_zero (by simpa using hn2)
  obtain ⟨m2_0, y2_0, e2_0⟩ := hf2 0 _ v2_0 rfl rfl
  obtain ⟨m2_1, y2_1, e2_1⟩ := hf2 1 _ v2_1 rfl rfl
  obtain ⟨m2_2, y2_2, e2_2⟩ := hf2 2 _ v2_2 rfl rfl
  obtain ⟨m2_3, y2_3, e2_3⟩ := hf2 3 _ v2_3 rfl rfl
  obtain ⟨m2_4, y2_4, e2_4⟩ := hf2 4 _ v2_4 rfl rfl
  obtain ⟨m2_5, y2_5, e2_5⟩ := hf2 5 _ v2_5 rfl rfl
  obtain ⟨m2_6, y2_6, e2_6⟩ := hf2 6 _ v2_6 rfl rfl
  obtain ⟨m2_7, y2_7, e2_7⟩ := hf2 7 _ v2_7 rfl rfl
  obtain ⟨m2_8, y2_8, e2_8⟩ := hf2 8 _ v2_8 rfl rfl
  clear hf2
  obtain ⟨b2_0, rfl⟩ := field_bool Try.underlying4 e2_0
  obtain ⟨b2_1, rfl⟩ := field_bool Try.underlying4 e2_1
  obtain ⟨b2_2, rfl⟩ := field_bool Try.underlying4 e2_2
  obtain ⟨b2_3, rfl⟩ := field_bool Try.underlying4 e2_3
  obtain ⟨b2_4, rfl⟩ := field_bool Try.underlying4 e2_4
  obtain ⟨b2_5, rfl⟩ := field_bool Try.underlying4 e2_5
  obtain ⟨x2_6, rfl, hx2_6⟩ := field_nat Try.underlying5 (.inl ⟨rfl, rfl⟩) e2_6
  obtain ⟨x2_7, rfl, hx2_7⟩ := field_nat Try.underlying5 (.inl ⟨rfl, rfl⟩) e2_7
  obtain ⟨x2_8, rfl, hx2_8⟩ := field_nat Try.underlying5 (.inl ⟨rfl, rfl⟩) e2_8
  clear hA0 hval0
  refine (mfinds_args hx0_1 hx0_2 hx0_3 hx0_4 hr0_5 hw0_5 hn0_5 hx0_7 hs0_8 hb0_8 hs0_9 hb0_9 hx0_10 hx1 hx2_6 hx2_7 hx2_8).mono fun e W' ⟨he, bel0⟩ => ?_
  subst he
  have bel : Below W.heap.size W W' := bel0
  exact ⟨_, rfl, _, _, _, [], _, [], hW', trodAll_mk1 (shut_bool Try.underlying4 _), (trodAll_cons_mk (Below.trod laidOut (by kernel_rfl) (of_decide_eq_true (by kernel_rfl)) k0 bel lt0) (trodAll_cons_mk (Below.trod laidOut (by kernel_rfl) (of_decide_eq_true (by kernel_rfl)) k1 bel lt1) (trodAll_cons_mk (Below.trod laidOut (by kernel_rfl) (of_decide_eq_true (by kernel_rfl)) k2 bel lt2) trodAll_mk0))), rfl, bel.frame _, fun h => by cases h⟩

theorem over : Rows.markFindsRow.holds Try.pinned (OpenSpec.ofChange Rows.markFindsSpec) :=
  OpenClaim.holds_of_wide 10 Try.f10 rfl rfl rfl rfl rfl rfl rfl ⟨rfl, rfl, rfl, rfl, rfl⟩ rfl rfl rfl rfl rfl (by kernel_rfl) Try.func10 (by kernel_rfl)
    (of_decide_eq_true (by kernel_rfl)) (by unfold Func.isWrapper; first | (rw [if_pos (by decide +kernel)]; kernel_rfl) | (rw [if_neg (by decide +kernel)]; exact ⟨rfl, rfl⟩))
    (fun os started H enc _ => lifted os started H enc)

theorem proved : Rows.MarkFindsSaid := over
#print axioms proved
end Go.Proofs.Ytcgfmjdlningpaa.markFinds
