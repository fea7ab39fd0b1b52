/- FeedbackBack: the walk, of arguments as they are opened. Conditions: none. -/
import Derived.Test.YtefcimkopgcagaaFeF
import Derived.Test.YtefcimkopgcagaaLawG
import Derived.Test.YtefcimkopgcagaaLawF
set_option linter.unusedVariables false
namespace Go.Proofs.Ytefcimkopgcagaa
open Go.RowKit

theorem fback_args {W : World} {a0 a1 a2 a5 a6 b0 b1 b3 r : Nat} {v3 v4 v7 vb vn : Value} {l3 : List Pr} {l4 : List Od} {zs ns : List Int} {bs : List Nat}
    (ha0 : a0 < 256) (ha1 : a1 < 4294967296) (ha2 : a2 < 4294967296) (h3 : RdP W v3 l3) (f3 : ∀ p ∈ l3, p.Fit) (h4 : RdO W v4 l4) (f4 : ∀ p ∈ l4, p.Fit) (ha5 : a5 < 256) (ha6 : a6 < 4294967296) (h7 : Rd .u32 W v7 zs) (w7 : ∀ z ∈ zs, (Lit.int .u32 z).wf = true)
    (hs : Src W vb bs) (hb : ∀ x ∈ bs, x < 256) (hn : Rd .u16 W vn ns) (wn : ∀ z ∈ ns, (Lit.int .u16 z).wf = true) (hr : r < 18446744073709551616) :
    Calls Try.prog 6 #[.agg #[.int .u8 (a0 : Int), .int .u32 (a1 : Int), .int .u32 (a2 : Int), v3, v4, .int .u8 (a5 : Int), .int .u32 (a6 : Int), v7], .agg #[.int .u8 (b0 : Int), .int .u8 (b1 : Int), vb, .int .u8 (b3 : Int)], vn, .int .u64 (r : Int)] W fun e w' => e = .returned (.bool true) ∧ Below W.heap.size W w' := by
  obtain ⟨ms, rfl, hms⟩ := nats_u32 zs w7
  obtain ⟨ks, rfl, hks⟩ := nats_u16 ns wn
  refine (fback_walk ⟨a0, a1, a2, l3, l4, a5, a6, ms⟩ v3 v4 v7 b1 b0 b3 r vb vn bs ks W ⟨h3, h4, h7⟩ ⟨ha0, ha1, ha2, ha5, ha6, f3, f4, hms⟩ hs hb hn hks hr).mono ?_
  rintro e w' ⟨rfl, ho⟩
  exact ⟨rfl, Only.below ho (fun i hi => hi.elim) (Nat.le_refl _)⟩
end Go.Proofs.Ytefcimkopgcagaa
