/- A region that draws: an operation whose value is known, and of which W tells besides. Conditions: as it says. -/
import Derived.Test.YtglgmhdajmncjaaReg
set_option linter.unusedVariables false
namespace Go.Proofs.Ytglgmhdajmncjaa
open Go

section
variable {P : Program} {ops : Array Oper} {A : List (List Nat)} {loud ws : List Nat} {uses : List (List Nat)} {killF noF : List Nat} {vals : List (Option Value)} {F : World → Prop} {W : Nat → (Nat → Value) → World → Prop} {E : Nat → World → World → Prop} {T : (Nat → Value) → Act} {i : Nat} {o : Oper}
/-- An operation whose value is known, and of which W tells. -/
theorem Reg.ob_told {c : Value} (hg : ∀ x, Region.wanted o (yielded ops (T x).tmps) = true) (hv : Reg.known vals i = some c)
    (h : ∀ x w, (noF.contains i = false → F w) → Reg.Each (fun j => W j (Reg.shown A j x) w) (uses.getD i []) → ∀ K : Act → World → Prop, (∀ w', (loud.contains i = true → killF.contains i = false → noF.contains i = false → F w') → (if loud.contains i then E i w w' else w' = w) → W i (Reg.shown A i (fun k => if k = i then c else x k)) w' → K ((T x).put o.dst c) w') → Oper.wp P o (T x) w K (fun _ _ _ => False)) : Reg.Ob P A loud ws uses killF noF vals F W E ops T i o := by
  intro x w hF hU K hK
  refine ⟨fun _ => h x w hF hU K (fun w' h1 h2 h3 => hK c w' h1 h2 (fun c' hc' => by rw [hv] at hc'; injection hc') (fun _ => h3)), fun hwant => by rw [hg] at hwant; cases hwant⟩
end
end Go.Proofs.Ytglgmhdajmncjaa
