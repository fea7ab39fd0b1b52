/- One packet in a row. Conditions: as it says. -/
import Derived.Test.YtefcimkopgcagaaRcFk
set_option linter.unusedVariables false
namespace Go.Proofs.Ytefcimkopgcagaa
open Go.RowKit

theorem rdk_1 {w : World} {g : Nat} {T : TypeId} {u : Value} {p : Pkt} (h : Is w g T #[.int .u8 (p.count : Nat), .int .u8 (p.kind : Nat), u, .int .u8 (p.pad : Nat)]) (hs : Src w u p.body) : RdK w (.slice (some ⟨g, 0, none⟩) 1 1) [p] := by
  refine ⟨_, 1, rfl, Nat.le_refl _, fun _ => ⟨g, 0, rfl, fun i q hq => ?_⟩⟩
  obtain _ | i := i
  · injection hq with hq
    subst hq
    exact ⟨u, ⟨h.cell 0, h.cell 1, h.cell 2, h.cell 3⟩, hs⟩
  · cases hq
end Go.Proofs.Ytefcimkopgcagaa
