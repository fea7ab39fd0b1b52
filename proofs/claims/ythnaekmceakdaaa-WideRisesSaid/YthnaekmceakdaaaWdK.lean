/- What the walks of WideNexts and WideRises give for the statements' arguments. Conditions: none. -/
import Derived.Test.YthnaekmceakdaaaWdJ
import Derived.Test.YthnaekmceakdaaaWdH
import Derived.Test.YthnaekmceakdaaaLawN
set_option linter.unusedVariables false
namespace Go.Proofs.Ythnaekmceakdaaa
open Go.RowKit

theorem nexts_args {z : Int} {v : Value} {zs : List Int} {look cut : Nat} {w : World} (hr : Rd .u32 w v zs) (hw : ∀ z ∈ zs, (Lit.int .u32 z).wf = true) (hl : zs.length ≤ 9223372036854775807) (hlook : look < 4294967296) (hcut : cut < 18446744073709551616) :
    Calls Try.prog 3 #[.int .i64 z, v, .int .u32 (look : Int), .int .u64 (cut : Int)] w fun e w' => e = .returned (.bool true) ∧ Below w.heap.size w w' := by
  obtain ⟨xs, rfl, hx⟩ := nats_u32 zs hw
  exact (nexts_walk z v xs look cut w hr hx hlook hcut (by rwa [nats_length] at hl)).mono fun _ _ h => says_law h
theorem rises_args {z : Int} {f : Nat} {v u : Value} {zs ys : List Int} {w : World} (hz : (Lit.int .i64 z).wf = true) (hf : f < 4294967296) (hr : Rd .u32 w v zs) (hw : ∀ z ∈ zs, (Lit.int .u32 z).wf = true) (hl : zs.length ≤ 9223372036854775807)
    (hs : Rd .u32 w u ys) (hu : ∀ z ∈ ys, (Lit.int .u32 z).wf = true) (hm : ys.length ≤ 9223372036854775807) :
    Calls Try.prog 5 #[.int .i64 z, .int .u32 (f : Int), v, u] w fun e w' => e = .returned (.bool true) ∧ Below w.heap.size w w' := by
  obtain ⟨xs, rfl, hx⟩ := nats_u32 zs hw
  obtain ⟨us, rfl, hy⟩ := nats_u32 ys hu
  have hz2 : -9223372036854775808 ≤ z ∧ z ≤ 9223372036854775807 := by
    simp [Lit.wf, IntKind.min, IntKind.max, IntKind.signed, IntKind.bits] at hz
    omega
  exact (rises_walk z f v u xs us w hz2 hf hr hx hs hy (by rwa [nats_length] at hl) (by rwa [nats_length] at hm)).mono fun _ _ h => says_law h
end Go.Proofs.Ythnaekmceakdaaa
