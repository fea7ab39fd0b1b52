/- easellaw07.samePairs of the same pairs. Conditions: as it says. -/
import Derived.Test.YtefcimkopgcagaaFbGr
set_option linter.unusedVariables false
namespace Go.Proofs.Ytefcimkopgcagaa
open Go.RowKit

theorem rd32_nil (w : World) : Rd .u32 w (.slice none 0 0) (nats []) := Rd.nil _ _
set_option maxRecDepth 100000 in
set_option maxHeartbeats 1000000 in
theorem samepairs_yes (va vb : Value) (l : List Pr) (w : World) (ha : RdP w va l) (hb : RdP w vb l) (hl : l.length ≤ 10000) :
    Calls Try.prog 33 #[va, vb] w fun e w' => e = .returned (.bool true) ∧ Only (fun _ => False) w w' := by
  have HA := Lib.hid ha
  have HB := Lib.hid hb
  have HL := Lib.hid hl
  obtain ⟨A1, c1, rfl, -, -⟩ := ha
  obtain ⟨A2, c2, rfl, -, -⟩ := hb
  clear hl
  go_enter Try.func33, Try.ntmps33
  go_wp2_with fail
  refine (pairs_is _ l w HA.out HL.out).mono ?_
  rintro e w1 ⟨v1, rfl, hown, ho⟩
  have R1 := Lib.hid hown.rd
  have O1 := Lib.hid ho
  obtain ⟨A3, c3, rfl, -⟩ := hown.slice
  clear hown ho
  go_wp2_with fail
  refine (rmsame_yes ⟨0, 0, 0, l, [], 0, 0, []⟩ _ (.slice none 0 0) (.slice none 0 0) _ (.slice none 0 0) (.slice none 0 0) w1 ⟨R1.out, RdO.nil w1, rd32_nil w1⟩ ⟨HB.out.only O1.out, RdO.nil w1, rd32_nil w1⟩ ⟨by show l.length ≤ 1000000; have := HL.out; omega, by simp, by simp⟩).mono ?_
  rintro e w2 ⟨rfl, ho2⟩
  have O2 := Lib.hid ho2
  clear ho2
  go_wp2
  go_ret
  exact ⟨rfl, only_more O1.out O2.out⟩
end Go.Proofs.Ytefcimkopgcagaa
