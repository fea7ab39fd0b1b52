/- Vp8Puts: the walk, of arguments as they are opened. Conditions: none. -/
import Derived.Test.YtneogagainllnaaRvI
import Derived.Test.YtneogagainllnaaLaw
set_option linter.unusedVariables false
namespace Go.Proofs.Ytneogagainllnaa
open Go.RowKit

theorem puts_args {W : World} {b0 b1 b3 b4 b6 b8 b10 b11 bs5 : Bool} {x2 x5 x7 x9 x12 y2 y3 y4 : Nat} {v : Value} {bs : List Nat} (h2 : x2 < 256) (h5 : x5 < 65536) (h7 : x7 < 256) (h9 : x9 < 256) (h12 : x12 < 256) (h : Src W v bs) (k : ∀ x ∈ bs, x < 256) (l2 : y2 < 65536) (l3 : y3 < 256) (l4 : y4 < 256) :
    Calls Try.prog 4 #[.agg #[.bool b0, .bool b1, .int .u8 x2, .bool b3, .bool b4, .int .u16 x5, .bool b6, .int .u8 x7, .bool b8, .int .u8 x9, .bool b10, .bool b11, .int .u8 x12], v, .int .u16 y2, .int .u8 y3, .int .u8 y4, .bool bs5] W fun e w' => e = .returned (.bool true) ∧ Below W.heap.size W w' := by
  refine (puts_any ⟨b0, b1, x2, b3, b4, x5, b6, x7, b8, x9, b10, b11, x12⟩ v bs y2 y3 y4 bs5 W ⟨h2, h5, h7, h9, h12⟩ h k l2 l3 l4).mono ?_
  rintro e w' ⟨rfl, ho⟩
  exact ⟨rfl, Only.below ho (fun i hi => hi.elim) (Nat.le_refl _)⟩
end Go.Proofs.Ytneogagainllnaa
