/-
  No cell of these rows narrows 'for every input' (looked for: loops, veiled, ifaces, maps, wideKeys, modest, calm, conditions, laid).
  DERIVED. THE GIVEN ROWS OF THIS SEAT. 6 by the template 'for every input the law returns true; each argument reads behind the call as it read before'; 0 by the template 'total and deterministic' (their statements: YtglgmhdajmncjaaTotals.lean).
  GIVEN WITH THE SEED: the statements are not yours to turn. If you find one false, say at which input.
  Laid BY PROGRAM, IN A SANDBOX (cutbox-rows.mjs): the forced cells as the released guide's own fill.sh prints them over the translation 32ea6f4262dc5072… (all of the seat's roots in one cut). By AI agents, Wed Nov 11 2026. No macro, syntax, notation, axiom, sorry.
-/
import Derived.Test.YtglgmhdajmncjaaChecked
import GoSem.Claim
import GoSem.ClaimJoined
import GoSem.ClaimMapViews
import Derived.JoinedTies
import Derived.KernelRfl
namespace Go.Proofs.Ytglgmhdajmncjaa
/- THE CELL 'sum', in the pinned program and in every row, IS THE sha256 OF THE DUMP (.gsa) THAT YtglgmhdajmncjaaProg.lean LOADS. Nothing in Lean hashes anything: it is a label: what it is worth is what the hold of that sum in a sandbox is worth. -/
noncomputable def Try.pinned : Pinned := { name := "ytglgmhdajmncjaa", sum := "32ea6f4262dc507253afc86b34bf9f15d9b703e2bc509864d08dd1f071e47c38", checked := Try.checked }
namespace Rows
def none {H : Type} : Left H := { results := [], args := [] }

/-- 'easellaw13.FloorPlays': WHATEVER THE INPUT: true; the input reads as it did. -/
def floorPlaysSpec : ChangeSpec := { name := "floorPlays", fn := fun _ => fun
  | [d1, d2, d3] => { results := [.lit (.bool true)], args := [d1, d2, d3] }
  | _ => none }
def floorPlaysRow : OpenClaim := { program := "ytglgmhdajmncjaa", sum := "32ea6f4262dc507253afc86b34bf9f15d9b703e2bc509864d08dd1f071e47c38", func := "easel/easellaw13.FloorPlays", spec := "floorPlays", unfollowed := true, recurses := true, apart := false }
def FloorPlaysSaid : Prop := floorPlaysRow.holds Try.pinned (OpenSpec.ofChange floorPlaysSpec)

/-- ITS FALSE NEIGHBOUR: 'it returns false'. Refute it at one input. -/
def floorPlaysWrong : ChangeSpec := { name := "floorPlays", fn := fun _ => fun
  | [d1, d2, d3] => { results := [.lit (.bool false)], args := [d1, d2, d3] }
  | _ => none }
def FloorPlaysWrongFalsely : Prop := floorPlaysRow.holds Try.pinned (OpenSpec.ofChange floorPlaysWrong)

/-- 'easellaw13.FloorKnown': WHATEVER THE INPUT: true; the input reads as it did. -/
def floorKnownSpec : ChangeSpec := { name := "floorKnown", fn := fun _ => fun
  | [] => { results := [.lit (.bool true)], args := [] }
  | _ => none }
def floorKnownRow : OpenClaim := { program := "ytglgmhdajmncjaa", sum := "32ea6f4262dc507253afc86b34bf9f15d9b703e2bc509864d08dd1f071e47c38", func := "easel/easellaw13.FloorKnown", spec := "floorKnown", unfollowed := true, recurses := true, apart := false }
def FloorKnownSaid : Prop := floorKnownRow.holds Try.pinned (OpenSpec.ofChange floorKnownSpec)

/-- ITS FALSE NEIGHBOUR: 'it returns false'. Refute it at one input. -/
def floorKnownWrong : ChangeSpec := { name := "floorKnown", fn := fun _ => fun
  | [] => { results := [.lit (.bool false)], args := [] }
  | _ => none }
def FloorKnownWrongFalsely : Prop := floorKnownRow.holds Try.pinned (OpenSpec.ofChange floorKnownWrong)

/-- 'easellaw14.RosterPlays': WHATEVER THE INPUT: true; the input reads as it did. -/
def rosterPlaysSpec : ChangeSpec := { name := "rosterPlays", fn := fun _ => fun
  | [d1, d2, d3, d4] => { results := [.lit (.bool true)], args := [d1, d2, d3, d4] }
  | _ => none }
def rosterPlaysRow : OpenClaim := { program := "ytglgmhdajmncjaa", sum := "32ea6f4262dc507253afc86b34bf9f15d9b703e2bc509864d08dd1f071e47c38", func := "easel/easellaw14.RosterPlays", spec := "rosterPlays", unfollowed := true, recurses := true, apart := false }
def RosterPlaysSaid : Prop := rosterPlaysRow.holds Try.pinned (OpenSpec.ofChange rosterPlaysSpec)

/-- ITS FALSE NEIGHBOUR: 'it returns false'. Refute it at one input. -/
def rosterPlaysWrong : ChangeSpec := { name := "rosterPlays", fn := fun _ => fun
  | [d1, d2, d3, d4] => { results := [.lit (.bool false)], args := [d1, d2, d3, d4] }
  | _ => none }
def RosterPlaysWrongFalsely : Prop := rosterPlaysRow.holds Try.pinned (OpenSpec.ofChange rosterPlaysWrong)

/-- 'easellaw14.RosterSources': WHATEVER THE INPUT: true; the input reads as it did. -/
def rosterSourcesSpec : ChangeSpec := { name := "rosterSources", fn := fun _ => fun
  | [d1, d2] => { results := [.lit (.bool true)], args := [d1, d2] }
  | _ => none }
def rosterSourcesRow : OpenClaim := { program := "ytglgmhdajmncjaa", sum := "32ea6f4262dc507253afc86b34bf9f15d9b703e2bc509864d08dd1f071e47c38", func := "easel/easellaw14.RosterSources", spec := "rosterSources", unfollowed := true, recurses := true, apart := false }
def RosterSourcesSaid : Prop := rosterSourcesRow.holds Try.pinned (OpenSpec.ofChange rosterSourcesSpec)

/-- ITS FALSE NEIGHBOUR: 'it returns false'. Refute it at one input. -/
def rosterSourcesWrong : ChangeSpec := { name := "rosterSources", fn := fun _ => fun
  | [d1, d2] => { results := [.lit (.bool false)], args := [d1, d2] }
  | _ => none }
def RosterSourcesWrongFalsely : Prop := rosterSourcesRow.holds Try.pinned (OpenSpec.ofChange rosterSourcesWrong)

/-- 'easellaw14.RosterNone': WHATEVER THE INPUT: true; the input reads as it did. -/
def rosterNoneSpec : ChangeSpec := { name := "rosterNone", fn := fun _ => fun
  | [d] => { results := [.lit (.bool true)], args := [d] }
  | _ => none }
def rosterNoneRow : OpenClaim := { program := "ytglgmhdajmncjaa", sum := "32ea6f4262dc507253afc86b34bf9f15d9b703e2bc509864d08dd1f071e47c38", func := "easel/easellaw14.RosterNone", spec := "rosterNone", unfollowed := true, recurses := true, apart := false }
def RosterNoneSaid : Prop := rosterNoneRow.holds Try.pinned (OpenSpec.ofChange rosterNoneSpec)

/-- ITS FALSE NEIGHBOUR: 'it returns false'. Refute it at one input. -/
def rosterNoneWrong : ChangeSpec := { name := "rosterNone", fn := fun _ => fun
  | [d] => { results := [.lit (.bool false)], args := [d] }
  | _ => none }
def RosterNoneWrongFalsely : Prop := rosterNoneRow.holds Try.pinned (OpenSpec.ofChange rosterNoneWrong)

/-- 'easellaw14.RosterKnown': WHATEVER THE INPUT: true; the input reads as it did. -/
def rosterKnownSpec : ChangeSpec := { name := "rosterKnown", fn := fun _ => fun
  | [] => { results := [.lit (.bool true)], args := [] }
  | _ => none }
def rosterKnownRow : OpenClaim := { program := "ytglgmhdajmncjaa", sum := "32ea6f4262dc507253afc86b34bf9f15d9b703e2bc509864d08dd1f071e47c38", func := "easel/easellaw14.RosterKnown", spec := "rosterKnown", unfollowed := true, recurses := true, apart := false }
def RosterKnownSaid : Prop := rosterKnownRow.holds Try.pinned (OpenSpec.ofChange rosterKnownSpec)

/-- ITS FALSE NEIGHBOUR: 'it returns false'. Refute it at one input. -/
def rosterKnownWrong : ChangeSpec := { name := "rosterKnown", fn := fun _ => fun
  | [] => { results := [.lit (.bool false)], args := [] }
  | _ => none }
def RosterKnownWrongFalsely : Prop := rosterKnownRow.holds Try.pinned (OpenSpec.ofChange rosterKnownWrong)

/- THE SECOND FORM. 'bulk': how many values and letters a reading holds, each counted each time it is reached (what is shared counts as often as it is met; a slice's spare places count too). A statement '..UptoSaid' is the law's where the arguments, and the package variables that the reading takes, are together of bulk at most 1048576: NARROWER than '..Said'. Prove '..Said' where nothing that the law and all that it calls make is longer than what came in: it says more and counts as full. Else prove '..UptoSaid'. A law counts once. -/
mutual
def uptoBulk {H : Type} : DataW H → Nat
  | .lit (.string bytes) => bytes.length + 1
  | .lit _ => 1
  | .nil => 1
  | .ptr d => uptoBulk d + 1
  | .slice elems spare => uptoBulkAll elems + uptoBulkAll spare + 1
  | .agg parts => uptoBulkAll parts + 1
  | .iface _ d => uptoBulk d + 1
  | .map entries => uptoBulkEntries entries + 1
  | .held _ => 1
def uptoBulkAll {H : Type} : List (DataW H) → Nat
  | [] => 0
  | d :: r => uptoBulk d + uptoBulkAll r
def uptoBulkEntries {H : Type} : List (Lit × DataW H) → Nat
  | [] => 0
  | x :: r => uptoBulkEntry x + uptoBulkEntries r
def uptoBulkEntry {H : Type} : Lit × DataW H → Nat
  | (.string bytes, d) => bytes.length + uptoBulk d + 1
  | (_, d) => uptoBulk d + 1
 end
def uptoSmall : (H : Type) → List (DataW H) → Bool := fun _ ds => decide (uptoBulkAll ds ≤ 1048576)
def OpenSpec.upto (s : _root_.Go.ChangeSpec) : _root_.Go.OpenSpec := { _root_.Go.OpenSpec.ofChange s with cond := some uptoSmall }

/-- 'easellaw13.FloorPlays', WHERE WHAT IT READS IS OF BULK AT MOST 1048576: true; the input reads as it did. -/
def floorPlaysUptoRow : OpenClaim := { program := "ytglgmhdajmncjaa", sum := "32ea6f4262dc507253afc86b34bf9f15d9b703e2bc509864d08dd1f071e47c38", func := "easel/easellaw13.FloorPlays", spec := "floorPlays", unfollowed := true, recurses := true, apart := false, narrowed := true }
def FloorPlaysUptoSaid : Prop := floorPlaysUptoRow.holds Try.pinned (OpenSpec.upto floorPlaysSpec)

/-- 'easellaw13.FloorKnown', WHERE WHAT IT READS IS OF BULK AT MOST 1048576: true; the input reads as it did. -/
def floorKnownUptoRow : OpenClaim := { program := "ytglgmhdajmncjaa", sum := "32ea6f4262dc507253afc86b34bf9f15d9b703e2bc509864d08dd1f071e47c38", func := "easel/easellaw13.FloorKnown", spec := "floorKnown", unfollowed := true, recurses := true, apart := false, narrowed := true }
def FloorKnownUptoSaid : Prop := floorKnownUptoRow.holds Try.pinned (OpenSpec.upto floorKnownSpec)

/-- 'easellaw14.RosterPlays', WHERE WHAT IT READS IS OF BULK AT MOST 1048576: true; the input reads as it did. -/
def rosterPlaysUptoRow : OpenClaim := { program := "ytglgmhdajmncjaa", sum := "32ea6f4262dc507253afc86b34bf9f15d9b703e2bc509864d08dd1f071e47c38", func := "easel/easellaw14.RosterPlays", spec := "rosterPlays", unfollowed := true, recurses := true, apart := false, narrowed := true }
def RosterPlaysUptoSaid : Prop := rosterPlaysUptoRow.holds Try.pinned (OpenSpec.upto rosterPlaysSpec)

/-- 'easellaw14.RosterSources', WHERE WHAT IT READS IS OF BULK AT MOST 1048576: true; the input reads as it did. -/
def rosterSourcesUptoRow : OpenClaim := { program := "ytglgmhdajmncjaa", sum := "32ea6f4262dc507253afc86b34bf9f15d9b703e2bc509864d08dd1f071e47c38", func := "easel/easellaw14.RosterSources", spec := "rosterSources", unfollowed := true, recurses := true, apart := false, narrowed := true }
def RosterSourcesUptoSaid : Prop := rosterSourcesUptoRow.holds Try.pinned (OpenSpec.upto rosterSourcesSpec)

/-- 'easellaw14.RosterNone', WHERE WHAT IT READS IS OF BULK AT MOST 1048576: true; the input reads as it did. -/
def rosterNoneUptoRow : OpenClaim := { program := "ytglgmhdajmncjaa", sum := "32ea6f4262dc507253afc86b34bf9f15d9b703e2bc509864d08dd1f071e47c38", func := "easel/easellaw14.RosterNone", spec := "rosterNone", unfollowed := true, recurses := true, apart := false, narrowed := true }
def RosterNoneUptoSaid : Prop := rosterNoneUptoRow.holds Try.pinned (OpenSpec.upto rosterNoneSpec)

/-- 'easellaw14.RosterKnown', WHERE WHAT IT READS IS OF BULK AT MOST 1048576: true; the input reads as it did. -/
def rosterKnownUptoRow : OpenClaim := { program := "ytglgmhdajmncjaa", sum := "32ea6f4262dc507253afc86b34bf9f15d9b703e2bc509864d08dd1f071e47c38", func := "easel/easellaw14.RosterKnown", spec := "rosterKnown", unfollowed := true, recurses := true, apart := false, narrowed := true }
def RosterKnownUptoSaid : Prop := rosterKnownUptoRow.holds Try.pinned (OpenSpec.upto rosterKnownSpec)

end Rows
end Go.Proofs.Ytglgmhdajmncjaa
