/- One packet in a row; what both put. Conditions: as each says. -/
import Derived.Test.YtefcimkopgcagaaFcO
set_option linter.unusedVariables false
set_option linter.unusedSimpArgs false
namespace Go.Proofs.Ytefcimkopgcagaa
open Go.RowKit

theorem rdk_one {w : World} {g : Nat} {T : TypeId} {u : Value} {p : Pkt} (h : Is w g T #[.int .u8 (p.count : Nat), .int .u8 (p.kind : Nat), u, .int .u8 (p.pad : Nat)]) (hs : Src w u p.body) : RdK w (.slice (some ⟨g, 0, none⟩) 1 1) [p] := by
  refine ⟨_, 1, rfl, Nat.le_refl _, fun _ => ⟨g, 0, rfl, fun i q hq => ?_⟩⟩
  obtain _ | i := i
  · injection hq with hq
    subst hq
    exact ⟨u, ⟨h.cell 0, h.cell 1, h.cell 2, h.cell 3⟩, hs⟩
  · cases hq
def msPk (m : Ms) : Pkt := if rightMs m then ⟨ctOf m.sort, kdOf m.sort, 0, bodyB m⟩ else ⟨0, 0, 0, []⟩
def erOf (m : Ms) : Int := if rightMs m then 0 else 2
/-- A packet's cells. -/
abbrev pkC (q : Pkt) (u : Value) : Array Value := #[.int .u8 (q.count : Nat), .int .u8 (q.kind : Nat), u, .int .u8 (q.pad : Nat)]
theorem fput_any (m : Ms) (p1 o1 s1 : Value) (w : World) (h1 : RdM m p1 o1 s1 w) (hl : m.pairs.length ≤ 1000 ∧ m.orders.length ≤ 1000 ∧ m.srcs.length ≤ 1000) (hf : MFit m) :
    Calls Try.prog 12 #[.agg (m.cls p1 o1 s1)] w fun e w' => ∃ u, e = .returned (.tuple #[.agg (pkC (msPk m) u), .int .i64 (erOf m)]) ∧ w'.ownsRow w.heap.size 5 1 u (msPk m).body.length (cellsOf (msPk m).body) ∧ Only (fun _ => False) w w' := by
  unfold msPk erOf
  by_cases hok : rightMs m = true
  · rw [if_pos hok, if_pos hok]
    refine (fput_yes m p1 o1 s1 w h1 hl hf hok).mono ?_
    rintro e w' ⟨A, c, bs, rfl, hw, hown, ho⟩
    have hb := body_same m hf hok hw
    subst hb
    exact ⟨_, rfl, hown, ho⟩
  · rw [if_neg hok, if_neg hok]
    refine (fput_none m p1 o1 s1 w h1 hl hf.mant hf.exp (by simpa using hok)).mono ?_
    rintro e w' ⟨rfl, ho⟩
    exact ⟨.slice none 0 0, rfl, World.ownsRow_nil _ _ _ _, ho⟩
theorem rput_any (m : Ms) (p1 o1 s1 : Value) (w : World) (h1 : RdM m p1 o1 s1 w) (hl : m.pairs.length ≤ 1000 ∧ m.orders.length ≤ 1000 ∧ m.srcs.length ≤ 1000) (hf : MFit m) :
    Calls Try.prog 11 #[.agg (m.cls p1 o1 s1)] w fun e w' => ∃ B u, e = .returned (.tuple #[.agg (pkC (msPk m) u), .int .i64 (erOf m)]) ∧ w'.ownsRow B 5 1 u (msPk m).body.length (cellsOf (msPk m).body) ∧ Only (fun _ => False) w w' := by
  unfold msPk erOf
  by_cases hok : rightMs m = true
  · rw [if_pos hok, if_pos hok]
    refine (rput_yes m p1 o1 s1 w h1 hl hf hok).mono ?_
    rintro e w' ⟨B, A, c, rfl, hown, ho⟩
    exact ⟨B, _, rfl, hown, ho⟩
  · rw [if_neg hok, if_neg hok]
    refine (rput_no m p1 o1 s1 w h1 hl (by simpa using hok)).mono ?_
    rintro e w' ⟨rfl, ho⟩
    exact ⟨w.heap.size, .slice none 0 0, rfl, World.ownsRow_nil _ _ _ _, ho⟩
theorem bodyB_len (m : Ms) (hl : m.pairs.length ≤ 300 ∧ m.orders.length ≤ 300 ∧ m.srcs.length ≤ 300) : (msPk m).body.length ≤ 100000 := by
  unfold msPk
  split
  · unfold bodyB partB
    rw [List.length_append, List.length_append, List.length_append, headB_len, pairsB_len, ordersB_len]
    have : (if m.sort = 4 then rateB m else []).length ≤ 8 + 4 * m.srcs.length := by
      split
      · unfold rateB
        rw [List.length_append, List.length_append, numB_len, srcsB_len]
        simp
        omega
      · simp
    omega
  · simp
end Go.Proofs.Ytefcimkopgcagaa
