/- FeedbackPuts: the walk, of arguments as they are opened. Conditions: none. -/
import Derived.Test.YtoibllmijkggnaaFcQ
import Derived.Test.YtoibllmijkggnaaLawG
set_option linter.unusedVariables false
set_option linter.unusedSimpArgs false
namespace Go.Proofs.Ytoibllmijkggnaa
open Go.RowKit

theorem fputs_args {W : World} {a0 a1 a2 a5 a6 b0 b1 b2 b5 b6 : Nat} {v3 v4 v7 u3 u4 u7 : Value} {l3 k3 : List Pr} {l4 k4 : List Od} {zs ys : List Int}
    (ha0 : a0 < 256) (ha1 : a1 < 4294967296) (ha2 : a2 < 4294967296) (h3 : RdP W v3 l3) (f3 : ∀ p ∈ l3, p.Fit) (h4 : RdO W v4 l4) (f4 : ∀ p ∈ l4, p.Fit) (ha5 : a5 < 256) (ha6 : a6 < 4294967296) (h7 : Rd .u32 W v7 zs) (w7 : ∀ z ∈ zs, (Lit.int .u32 z).wf = true) (n7 : v7 = .slice none 0 0 ∨ ∃ ad m d, v7 = .slice (some ad) m d)
    (hb0 : b0 < 256) (hb1 : b1 < 4294967296) (hb2 : b2 < 4294967296) (g3 : RdP W u3 k3) (e3 : ∀ p ∈ k3, p.Fit) (g4 : RdO W u4 k4) (e4 : ∀ p ∈ k4, p.Fit) (hb5 : b5 < 256) (hb6 : b6 < 4294967296) (g7 : Rd .u32 W u7 ys) (x7 : ∀ z ∈ ys, (Lit.int .u32 z).wf = true) (m7 : u7 = .slice none 0 0 ∨ ∃ ad m d, u7 = .slice (some ad) m d) :
    Calls Try.prog 3 #[.agg #[.int .u8 (a0 : Int), .int .u32 (a1 : Int), .int .u32 (a2 : Int), v3, v4, .int .u8 (a5 : Int), .int .u32 (a6 : Int), v7], .agg #[.int .u8 (b0 : Int), .int .u32 (b1 : Int), .int .u32 (b2 : Int), u3, u4, .int .u8 (b5 : Int), .int .u32 (b6 : Int), u7]] W fun e w' => e = .returned (.bool true) ∧ Below W.heap.size W w' := by
  obtain ⟨ns, rfl, hns⟩ := nats_u32 zs w7
  obtain ⟨ms, rfl, hms⟩ := nats_u32 ys x7
  refine (fputs_walk ⟨a0, a1, a2, l3, l4, a5, a6, ns⟩ ⟨b0, b1, b2, k3, k4, b5, b6, ms⟩ v3 v4 v7 u3 u4 u7 W ⟨h3, h4, h7⟩ ⟨g3, g4, g7⟩ ⟨ha0, ha1, ha2, ha5, ha6, f3, f4, hns⟩ ⟨hb0, hb1, hb2, hb5, hb6, e3, e4, hms⟩ n7 m7).mono ?_
  rintro e w' ⟨rfl, ho⟩
  exact ⟨rfl, Only.below ho (fun i hi => hi.elim) (Nat.le_refl _)⟩
end Go.Proofs.Ytoibllmijkggnaa
