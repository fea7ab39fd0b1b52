/- RosterNone: a roster that is not there answers so: for every input the function of the statement returns true, and its argument reads afterwards as before. Conditions: none. -/
import Derived.Test.YtglgmhdajmncjaaRows
import Derived.Test.YtglgmhdajmncjaaLaw
import Derived.Test.YtglgmhdajmncjaaRyL
import Derived.WalkKit
import Derived.ProofKit
import Derived.OpenShut
import Derived.ShutString
import Derived.ChangeOld
import Derived.Below
namespace Go.Proofs.Ytglgmhdajmncjaa.rosterNone
open Go.ChangeShapes Go.WideShapes Go.ChangeAt Go.RowKit
set_option linter.unusedVariables false

theorem own : ownKnob Try.prog.godebug = none := by kernel_rfl
theorem laidOut : laidOutB Try.prog = true := by kernel_rfl

set_option maxRecDepth 100000 in
theorem lifted (os : Os) (started : os.Started) (H : Type) (enc : TypeId × Value → H) :
    ReturnsInHanded {} Try.checked os 7 .any (Rows.rosterNoneSpec.pre6 enc Try.prog Try.f7 Rows.rosterNoneRow.domain false) (Rows.rosterNoneSpec.post enc Try.prog Try.f7 false true false false) := by
  refine returnsInHanded_of_change (C := Try.checked) own started (by kernel_rfl) Try.func7
    (ChangeSpec.witness6 (enc := enc) (C := Try.checked) false ⟨#[], #[.agg #[.int .i64 0, .int .u32 0, .int .u32 0, .bool false]], []⟩ 8 (by kernel_rfl) (by kernel_rfl) (by kernel_rfl) (by kernel_rfl)) ?_
  intro W base args ds gs before hval0 hW hcnd _
  have hval : ∀ (j : Nat) t v, Try.f7.params[j]? = some t → args[j]? = some v → Value.okWide Try.prog W .any base t v := hval0
  have hW' := hW
  obtain ⟨p, q, hA0, hV, rfl, hfz, hnd⟩ := hW
  have hA : DataW.TrodAll enc Try.prog W 0 (fun _ => true) true Try.f7.params.toList args.toList ds p := hA0
  rw [Try.params7] at hA hval
  obtain ⟨v0, vs0, d0, ds0, p0, q0, hargs, rfl, rfl, h0, r0⟩ := trodAll_cons hA
  obtain ⟨rfl, rfl, rfl⟩ := trodAll_nil r0
  obtain rfl : args = #[v0] := by cases args; simp_all
  obtain ⟨rfl, rfl⟩ := trodVars_none hV
  have k0 := h0
  have lt0 : ∀ x ∈ p0, x.block < W.heap.size := by obtain ⟨m, hm⟩ := k0; exact DataW.trod_lt m _ _ _ hm
  obtain ⟨cs0, rfl, hsz0, hf0⟩ := open_agg Try.underlying58 (by kernel_rfl) (by kernel_rfl) (hval 0 58 v0 rfl rfl) h0
  have hn0 : cs0.length = 4 := hsz0
  clear hsz0
  obtain _ | ⟨v0_0, cs0⟩ := cs0
  · simp at hn0
  obtain _ | ⟨v0_1, cs0⟩ := cs0
  · simp at hn0
  obtain _ | ⟨v0_2, cs0⟩ := cs0
  · simp at hn0
  obtain _ | ⟨v0_3, cs0⟩ := cs0
  · simp at hn0
  obtain rfl : cs0 = [] := List.eq_nil_of_length_eq_zero (by simpa using hn0)
  obtain ⟨m0_0, y0_0, e0_0⟩ := hf0 0 _ v0_0 rfl rfl
  obtain ⟨m0_1, y0_1, e0_1⟩ := hf0 1 _ v0_1 rfl rfl
  obtain ⟨m0_2, y0_2, e0_2⟩ := hf0 2 _ v0_2 rfl rfl
  obtain ⟨m0_3, y0_3, e0_3⟩ := hf0 3 _ v0_3 rfl rfl
  clear hf0
  obtain ⟨z0_0, rfl, hz0_0⟩ := field_int Try.underlying3 e0_0
  obtain ⟨x0_1, rfl, hx0_1⟩ := field_nat Try.underlying30 (.inr (.inr (.inl ⟨rfl, rfl⟩))) e0_1
  obtain ⟨x0_2, rfl, hx0_2⟩ := field_nat Try.underlying30 (.inr (.inr (.inl ⟨rfl, rfl⟩))) e0_2
  obtain ⟨b0_3, rfl⟩ := field_bool Try.underlying4 e0_3
  clear hA0 hval0
  refine (rnone14_args).mono fun e W' ⟨he, bel0⟩ => ?_
  subst he
  have bel : Below W.heap.size W W' := bel0
  exact ⟨_, rfl, _, _, _, [], _, [], hW', trodAll_mk1 (shut_bool Try.underlying4 _), (trodAll_cons_mk (Below.trod laidOut (by kernel_rfl) (of_decide_eq_true (by kernel_rfl)) k0 bel lt0) trodAll_mk0), rfl, bel.frame _, fun h => by cases h⟩

theorem over : Rows.rosterNoneRow.holds Try.pinned (OpenSpec.ofChange Rows.rosterNoneSpec) :=
  OpenClaim.holds_of_wide 7 Try.f7 rfl rfl rfl rfl rfl rfl rfl ⟨rfl, rfl, rfl, rfl, rfl⟩ rfl rfl rfl rfl rfl (by kernel_rfl) Try.func7 (by kernel_rfl)
    (of_decide_eq_true (by kernel_rfl)) (by unfold Func.isWrapper; first | (rw [if_pos (by decide +kernel)]; kernel_rfl) | (rw [if_neg (by decide +kernel)]; exact ⟨rfl, rfl⟩))
    (fun os started H enc _ => lifted os started H enc)

theorem proved : Rows.RosterNoneSaid := over
#print axioms proved
end Go.Proofs.Ytglgmhdajmncjaa.rosterNone
