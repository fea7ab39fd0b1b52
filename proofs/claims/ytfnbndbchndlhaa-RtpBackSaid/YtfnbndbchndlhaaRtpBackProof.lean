/- RtpBack: what is written is parsed as it was, and has Size bytes; what is parsed is right, and, written, the same bytes but for the padding: for every input the function of the statement returns true, and its arguments read afterwards as before. Conditions: none. -/
import Derived.Test.YtfnbndbchndlhaaRows
import Derived.Test.YtfnbndbchndlhaaLaw
import Derived.Test.YtfnbndbchndlhaaRtpS
import Derived.WalkKit
import Derived.ProofKit
import Derived.OpenShut
import Derived.ShutString
import Derived.ChangeOld
import Derived.Below
namespace Go.Proofs.Ytfnbndbchndlhaa.rtpBack
open Go.ChangeShapes Go.WideShapes Go.ChangeAt Go.RowKit
set_option linter.unusedVariables false

theorem own : ownKnob Try.prog.godebug = none := by kernel_rfl
theorem laidOut : laidOutB Try.prog = true := by kernel_rfl

set_option maxRecDepth 100000 in
theorem lifted (os : Os) (started : os.Started) (H : Type) (enc : TypeId × Value → H) :
    ReturnsInHanded {} Try.checked os 4 .any (Rows.rtpBackSpec.pre6 enc Try.prog Try.f4 Rows.rtpBackRow.domain false) (Rows.rtpBackSpec.post enc Try.prog Try.f4 false true false false) := by
  refine returnsInHanded_of_change (C := Try.checked) own started (by kernel_rfl) Try.func4
    (ChangeSpec.witness6 (enc := enc) (C := Try.checked) false ⟨#[], #[.agg #[.bool false, .int .u8 0, .int .u16 0, .int .u32 0, .int .u32 0, .slice none 0 0, .bool false, .int .u16 0, .slice none 0 0, .slice none 0 0, .int .u8 0], .slice none 0 0], []⟩ 8 (by kernel_rfl) (by kernel_rfl) (by kernel_rfl) (by kernel_rfl)) ?_
  intro W base args ds gs before hval0 hW hcnd _
  have hval : ∀ (j : Nat) t v, Try.f4.params[j]? = some t → args[j]? = some v → Value.okWide Try.prog W .any base t v := hval0
  have hW' := hW
  obtain ⟨p, q, hA0, hV, rfl, hfz, hnd⟩ := hW
  have hA : DataW.TrodAll enc Try.prog W 0 (fun _ => true) true Try.f4.params.toList args.toList ds p := hA0
  rw [Try.params4] at hA hval
  obtain ⟨v0, vs0, d0, ds0, p0, q0, hargs, rfl, rfl, h0, r0⟩ := trodAll_cons hA
  obtain ⟨v1, vs1, d1, ds1, p1, q1, rfl, rfl, rfl, h1, r1⟩ := trodAll_cons r0
  obtain ⟨rfl, rfl, rfl⟩ := trodAll_nil r1
  obtain rfl : args = #[v0, v1] := by cases args; simp_all
  obtain ⟨rfl, rfl⟩ := trodVars_none hV
  have k0 := h0
  have lt0 : ∀ x ∈ p0, x.block < W.heap.size := by obtain ⟨m, hm⟩ := k0; exact DataW.trod_lt m _ _ _ hm
  obtain ⟨cs0, rfl, hsz0, hf0⟩ := open_agg Try.underlying33 (by kernel_rfl) (by kernel_rfl) (hval 0 33 v0 rfl rfl) h0
  have hn0 : cs0.length = 11 := hsz0
  clear hsz0
  obtain _ | ⟨v0_0, cs0⟩ := cs0
  · simp at hn0
  obtain _ | ⟨v0_1, cs0⟩ := cs0
  · simp at hn0
  obtain _ | ⟨v0_2, cs0⟩ := cs0
  · simp at hn0
  obtain _ | ⟨v0_3, cs0⟩ := cs0
  · simp at hn0
  obtain _ | ⟨v0_4, cs0⟩ := cs0
  · simp at hn0
  obtain _ | ⟨v0_5, cs0⟩ := cs0
  · simp at hn0
  obtain _ | ⟨v0_6, cs0⟩ := cs0
  · simp at hn0
  obtain _ | ⟨v0_7, cs0⟩ := cs0
  · simp at hn0
  obtain _ | ⟨v0_8, cs0⟩ := cs0
  · simp at hn0
  obtain _ | ⟨v0_9, cs0⟩ := cs0
  · simp at hn0
  obtain _ | ⟨v0_10, cs0⟩ := cs0
  · simp at hn0
  obtain rfl : cs0 = [] := List.eq_nil_of_length_eq_zero (by simpa using hn0)
  obtain ⟨m0_0, y0_0, e0_0⟩ := hf0 0 _ v0_0 rfl rfl
  obtain ⟨m0_1, y0_1, e0_1⟩ := hf0 1 _ v0_1 rfl rfl
  obtain ⟨m0_2, y0_2, e0_2⟩ := hf0 2 _ v0_2 rfl rfl
  obtain ⟨m0_3, y0_3, e0_3⟩ := hf0 3 _ v0_3 rfl rfl
  obtain ⟨m0_4, y0_4, e0_4⟩ := hf0 4 _ v0_4 rfl rfl
  obtain ⟨m0_5, y0_5, e0_5⟩ := hf0 5 _ v0_5 rfl rfl
  obtain ⟨m0_6, y0_6, e0_6⟩ := hf0 6 _ v0_6 rfl rfl
  obtain ⟨m0_7, y0_7, e0_7⟩ := hf0 7 _ v0_7 rfl rfl
  obtain ⟨m0_8, y0_8, e0_8⟩ := hf0 8 _ v0_8 rfl rfl
  obtain ⟨m0_9, y0_9, e0_9⟩ := hf0 9 _ v0_9 rfl rfl
  obtain ⟨m0_10, y0_10, e0_10⟩ := hf0 10 _ v0_10 rfl rfl
  clear hf0
  obtain ⟨b0_0, rfl⟩ := field_bool Try.underlying4 e0_0
  obtain ⟨x0_1, rfl, hx0_1⟩ := field_nat Try.underlying5 (.inl ⟨rfl, rfl⟩) e0_1
  obtain ⟨x0_2, rfl, hx0_2⟩ := field_nat Try.underlying25 (.inr (.inl ⟨rfl, rfl⟩)) e0_2
  obtain ⟨x0_3, rfl, hx0_3⟩ := field_nat Try.underlying26 (.inr (.inr (.inl ⟨rfl, rfl⟩))) e0_3
  obtain ⟨x0_4, rfl, hx0_4⟩ := field_nat Try.underlying26 (.inr (.inr (.inl ⟨rfl, rfl⟩))) e0_4
  obtain ⟨zs0_5, hr0_5, hw0_5, hl0_5⟩ := field_rd Try.underlying27 Try.underlying26 (by kernel_rfl) e0_5
  obtain ⟨b0_6, rfl⟩ := field_bool Try.underlying4 e0_6
  obtain ⟨x0_7, rfl, hx0_7⟩ := field_nat Try.underlying25 (.inr (.inl ⟨rfl, rfl⟩)) e0_7
  obtain ⟨bs0_8, hs0_8, hb0_8, hl0_8⟩ := field_bytes Try.underlying22 Try.underlying5 (by kernel_rfl) e0_8
  obtain ⟨bs0_9, hs0_9, hb0_9, hl0_9⟩ := field_bytes Try.underlying22 Try.underlying5 (by kernel_rfl) e0_9
  obtain ⟨x0_10, rfl, hx0_10⟩ := field_nat Try.underlying5 (.inl ⟨rfl, rfl⟩) e0_10
  have k1 := h1
  have lt1 : ∀ x ∈ p1, x.block < W.heap.size := by obtain ⟨m, hm⟩ := k1; exact DataW.trod_lt m _ _ _ hm
  obtain ⟨a1, len1, cap1, rfl⟩ := okWide_slice Try.underlying22 (hval 1 22 v1 rfl rfl)
  obtain ⟨fuel1, e1⟩ := h1
  obtain ⟨bs1, hs1, hb1, hl1⟩ := field_bytes Try.underlying22 Try.underlying5 (by kernel_rfl) e1
  clear hA0 hval0
  refine (back_args hx0_1 hx0_2 hx0_3 hx0_4 hr0_5 hw0_5 hx0_7 hs0_8 hb0_8 hs0_9 hb0_9 hx0_10 hs1 hb1 hl1).mono fun e W' ⟨he, bel0⟩ => ?_
  subst he
  have bel : Below W.heap.size W W' := bel0
  exact ⟨_, rfl, _, _, _, [], _, [], hW', trodAll_mk1 (shut_bool Try.underlying4 _), (trodAll_cons_mk (Below.trod laidOut (by kernel_rfl) (of_decide_eq_true (by kernel_rfl)) k0 bel lt0) (trodAll_cons_mk (Below.trod laidOut (by kernel_rfl) (of_decide_eq_true (by kernel_rfl)) k1 bel lt1) trodAll_mk0)), rfl, bel.frame _, fun h => by cases h⟩

theorem over : Rows.rtpBackRow.holds Try.pinned (OpenSpec.ofChange Rows.rtpBackSpec) :=
  OpenClaim.holds_of_wide 4 Try.f4 rfl rfl rfl rfl rfl rfl rfl ⟨rfl, rfl, rfl, rfl, rfl⟩ rfl rfl rfl rfl rfl (by kernel_rfl) Try.func4 (by kernel_rfl)
    (of_decide_eq_true (by kernel_rfl)) (by unfold Func.isWrapper; first | (rw [if_pos (by decide +kernel)]; kernel_rfl) | (rw [if_neg (by decide +kernel)]; exact ⟨rfl, rfl⟩))
    (fun os started H enc _ => lifted os started H enc)

theorem proved : Rows.RtpBackSaid := over
#print axioms proved
end Go.Proofs.Ytfnbndbchndlhaa.rtpBack
