/- MarkPuts: of any marking it is told whether it is right, and it is written as the document says, or refused; what is answered may be written over: for every input the function of the statement returns true, and its argument reads afterwards as before. Conditions: none. -/
import Derived.Test.YtcgfmjdlningpaaRows
import Derived.Test.YtcgfmjdlningpaaLaw
import Derived.Test.YtcgfmjdlningpaaMkH
import Derived.WalkKit
import Derived.ProofKit
import Derived.OpenShut
import Derived.ShutString
import Derived.ChangeOld
import Derived.Below
namespace Go.Proofs.Ytcgfmjdlningpaa.markPuts
open Go.ChangeShapes Go.WideShapes Go.ChangeAt Go.RowKit
set_option linter.unusedVariables false

theorem own : ownKnob Try.prog.godebug = none := by kernel_rfl
theorem laidOut : laidOutB Try.prog = true := by kernel_rfl

set_option maxRecDepth 100000 in
theorem lifted (os : Os) (started : os.Started) (H : Type) (enc : TypeId × Value → H) :
    ReturnsInHanded {} Try.checked os 8 .any (Rows.markPutsSpec.pre6 enc Try.prog Try.f8 Rows.markPutsRow.domain false) (Rows.markPutsSpec.post enc Try.prog Try.f8 false true false false) := by
  refine returnsInHanded_of_change (C := Try.checked) own started (by kernel_rfl) Try.func8
    (ChangeSpec.witness6 (enc := enc) (C := Try.checked) false ⟨#[], #[.agg #[.bool false, .bool false, .bool false, .bool false, .bool false, .bool false, .int .u8 0, .int .u8 0, .int .u8 0]], []⟩ 8 (by kernel_rfl) (by kernel_rfl) (by kernel_rfl) (by kernel_rfl)) ?_
  intro W base args ds gs before hval0 hW hcnd _
  have hval : ∀ (j : Nat) t v, Try.f8.params[j]? = some t → args[j]? = some v → Value.okWide Try.prog W .any base t v := hval0
  have hW' := hW
  obtain ⟨p, q, hA0, hV, rfl, hfz, hnd⟩ := hW
  have hA : DataW.TrodAll enc Try.prog W 0 (fun _ => true) true Try.f8.params.toList args.toList ds p := hA0
  rw [Try.params8] at hA hval
  obtain ⟨v0, vs0, d0, ds0, p0, q0, hargs, rfl, rfl, h0, r0⟩ := trodAll_cons hA
  obtain ⟨rfl, rfl, rfl⟩ := trodAll_nil r0
  obtain rfl : args = #[v0] := by cases args; simp_all
  obtain ⟨rfl, rfl⟩ := trodVars_none hV
  have k0 := h0
  have lt0 : ∀ x ∈ p0, x.block < W.heap.size := by obtain ⟨m, hm⟩ := k0; exact DataW.trod_lt m _ _ _ hm
  obtain ⟨cs0, rfl, hsz0, hf0⟩ := open_agg Try.underlying69 (by kernel_rfl) (by kernel_rfl) (hval 0 69 v0 rfl rfl) h0
  have hn0 : cs0.length = 9 := hsz0
  clear hsz0
  obtain _ | ⟨v0_0, cs0⟩ := cs0
  · simp at hn0
  obtain _ | ⟨v0_1, cs0⟩ := cs0
  · simp at hn0
  obtain _ | ⟨v0_2, cs0⟩ := cs0
  · simp at hn0
  obtain _ | ⟨v0_3, cs0⟩ := cs0
  · simp at hn0
  obtain _ | ⟨v0_4, cs0⟩ := cs0
  · simp at hn0
  obtain _ | ⟨v0_5, cs0⟩ := cs0
  · simp at hn0
  obtain _ | ⟨v0_6, cs0⟩ := cs0
  · simp at hn0
  obtain _ | ⟨v0_7, cs0⟩ := cs0
  · simp at hn0
  obtain _ | ⟨v0_8, cs0⟩ := cs0
  · simp at hn0
  obtain rfl : cs0 = [] := List.eq_nil_of_length_eq_zero (by simpa using hn0)
  obtain ⟨m0_0, y0_0, e0_0⟩ := hf0 0 _ v0_0 rfl rfl
  obtain ⟨m0_1, y0_1, e0_1⟩ := hf0 1 _ v0_1 rfl rfl
  obtain ⟨m0_2, y0_2, e0_2⟩ := hf0 2 _ v0_2 rfl rfl
  obtain ⟨m0_3, y0_3, e0_3⟩ := hf0 3 _ v0_3 rfl rfl
  obtain ⟨m0_4, y0_4, e0_4⟩ := hf0 4 _ v0_4 rfl rfl
  obtain ⟨m0_5, y0_5, e0_5⟩ := hf0 5 _ v0_5 rfl rfl
  obtain ⟨m0_6, y0_6, e0_6⟩ := hf0 6 _ v0_6 rfl rfl
  obtain ⟨m0_7, y0_7, e0_7⟩ := hf0 7 _ v0_7 rfl rfl
  obtain ⟨m0_8, y0_8, e0_8⟩ := hf0 8 _ v0_8 rfl rfl
  clear hf0
  obtain ⟨b0_0, rfl⟩ := field_bool Try.underlying4 e0_0
  obtain ⟨b0_1, rfl⟩ := field_bool Try.underlying4 e0_1
  obtain ⟨b0_2, rfl⟩ := field_bool Try.underlying4 e0_2
  obtain ⟨b0_3, rfl⟩ := field_bool Try.underlying4 e0_3
  obtain ⟨b0_4, rfl⟩ := field_bool Try.underlying4 e0_4
  obtain ⟨b0_5, rfl⟩ := field_bool Try.underlying4 e0_5
  obtain ⟨x0_6, rfl, hx0_6⟩ := field_nat Try.underlying5 (.inl ⟨rfl, rfl⟩) e0_6
  obtain ⟨x0_7, rfl, hx0_7⟩ := field_nat Try.underlying5 (.inl ⟨rfl, rfl⟩) e0_7
  obtain ⟨x0_8, rfl, hx0_8⟩ := field_nat Try.underlying5 (.inl ⟨rfl, rfl⟩) e0_8
  clear hA0 hval0
  refine (mputs_args (m := ⟨b0_0, b0_1, b0_2, b0_3, b0_4, b0_5, x0_6, x0_7, x0_8⟩)).mono fun e W' ⟨he, bel0⟩ => ?_
  subst he
  have bel : Below W.heap.size W W' := bel0
  exact ⟨_, rfl, _, _, _, [], _, [], hW', trodAll_mk1 (shut_bool Try.underlying4 _), (trodAll_cons_mk (Below.trod laidOut (by kernel_rfl) (of_decide_eq_true (by kernel_rfl)) k0 bel lt0) trodAll_mk0), rfl, bel.frame _, fun h => by cases h⟩

theorem over : Rows.markPutsRow.holds Try.pinned (OpenSpec.ofChange Rows.markPutsSpec) :=
  OpenClaim.holds_of_wide 8 Try.f8 rfl rfl rfl rfl rfl rfl rfl ⟨rfl, rfl, rfl, rfl, rfl⟩ rfl rfl rfl rfl rfl (by kernel_rfl) Try.func8 (by kernel_rfl)
    (of_decide_eq_true (by kernel_rfl)) (by unfold Func.isWrapper; first | (rw [if_pos (by decide +kernel)]; kernel_rfl) | (rw [if_neg (by decide +kernel)]; exact ⟨rfl, rfl⟩))
    (fun os started H enc _ => lifted os started H enc)

theorem proved : Rows.MarkPutsSaid := over
#print axioms proved
end Go.Proofs.Ytcgfmjdlningpaa.markPuts
