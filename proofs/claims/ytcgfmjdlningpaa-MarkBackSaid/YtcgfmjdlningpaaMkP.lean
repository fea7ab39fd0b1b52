/- MarkBack: the walk, of arguments as they are opened. Conditions: none. -/
import Derived.Test.YtcgfmjdlningpaaMkI
import Derived.Test.YtcgfmjdlningpaaBase
set_option linter.unusedVariables false
namespace Go.Proofs.Ytcgfmjdlningpaa
open Go.RowKit

theorem mback_law {W : World} {c0 c1 c2 c3 c4 c5 : Bool} {y6 y7 y8 : Nat} {vb : Value} {bs : List Nat} {b0 b6 : Bool} {x1 x2 x3 x4 x7 x10 ix : Nat} {v5 v8 v9 : Value} {zs5 : List Int} {bs8 bs9 : List Nat} (g6 : y6 < 256) (g7 : y7 < 256) (g8 : y8 < 256)
    (hb : Src W vb bs) (kb : ∀ x ∈ bs, x < 256) (h1 : x1 < 256) (h2 : x2 < 65536) (h3 : x3 < 4294967296) (h4 : x4 < 4294967296)
    (h5 : Rd .u32 W v5 zs5) (w5 : ∀ z ∈ zs5, (Lit.int .u32 z).wf = true) (n5 : v5 = .slice none 0 0 ∨ ∃ ad m d, v5 = .slice (some ad) m d) (h7 : x7 < 65536) (h8 : Src W v8 bs8) (k8 : ∀ x ∈ bs8, x < 256) (h9 : Src W v9 bs9) (k9 : ∀ x ∈ bs9, x < 256) (h10 : x10 < 256) (hix : ix < 256) :
    Calls Try.prog 11 #[.agg #[.bool c0, .bool c1, .bool c2, .bool c3, .bool c4, .bool c5, .int .u8 y6, .int .u8 y7, .int .u8 y8], vb, .agg #[.bool b0, .int .u8 x1, .int .u16 x2, .int .u32 x3, .int .u32 x4, v5, .bool b6, .int .u16 x7, v8, v9, .int .u8 x10], .int .u8 ix] W fun e w' => e = .returned (.bool true) ∧ Below W.heap.size W w' := by
  obtain ⟨cs, rfl, hcs⟩ := nats_u32 zs5 w5
  refine (mback_any ⟨c0, c1, c2, c3, c4, c5, y6, y7, y8⟩ vb bs ⟨b0, x1, x2, x3, x4, cs, b6, x7, bs8, bs9, x10⟩ v5 v8 v9 ix W ⟨g6, g7, g8⟩ hb kb ⟨h1, h2, h3, h4, hcs, h7, k8, k9, h10⟩ hix h5 n5 h8 h9).mono ?_
  rintro e w' ⟨rfl, ho⟩
  exact ⟨rfl, Only.below ho (fun i hi => hi.elim) (Nat.le_refl _)⟩
end Go.Proofs.Ytcgfmjdlningpaa
