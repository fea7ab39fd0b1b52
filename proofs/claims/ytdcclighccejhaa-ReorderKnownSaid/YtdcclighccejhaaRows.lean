/-
  No cell of these rows narrows 'for every input' (looked for: loops, veiled, ifaces, maps, wideKeys, modest, calm, conditions, laid).
  DERIVED. THE GIVEN ROWS OF THIS SEAT. 4 by the template 'for every input the law returns true; each argument reads behind the call as it read before'; 0 by the template 'total and deterministic' (their statements: YtdcclighccejhaaTotals.lean).
  GIVEN WITH THE SEED: the statements are not yours to turn. If you find one false, say at which input.
  Laid BY PROGRAM, IN A SANDBOX (cutbox-rows.mjs): the forced cells as the released guide's own fill.sh prints them over the translation ba55a8b4b697d9ea… (all of the seat's roots in one cut). By AI agents, Wed Nov 11 2026. No macro, syntax, notation, axiom, sorry.
-/
import Derived.Test.YtdcclighccejhaaChecked
import GoSem.Claim
import GoSem.ClaimJoined
import GoSem.ClaimMapViews
import Derived.JoinedTies
import Derived.KernelRfl
namespace Go.Proofs.Ytdcclighccejhaa
/- THE CELL 'sum', in the pinned program and in every row, IS THE sha256 OF THE DUMP (.gsa) THAT YtdcclighccejhaaProg.lean LOADS. Nothing in Lean hashes anything: it is a label: what it is worth is what the hold of that sum in a sandbox is worth. -/
noncomputable def Try.pinned : Pinned := { name := "ytdcclighccejhaa", sum := "ba55a8b4b697d9ea282ee7631019861c596f99532e0c30ef1acfa9df9558d16f", checked := Try.checked }
namespace Rows
def none {H : Type} : Left H := { results := [], args := [] }

/-- 'easellaw10.ReorderPlays': WHATEVER THE INPUT: true; the input reads as it did. -/
def reorderPlaysSpec : ChangeSpec := { name := "reorderPlays", fn := fun _ => fun
  | [d1, d2, d3] => { results := [.lit (.bool true)], args := [d1, d2, d3] }
  | _ => none }
def reorderPlaysRow : OpenClaim := { program := "ytdcclighccejhaa", sum := "ba55a8b4b697d9ea282ee7631019861c596f99532e0c30ef1acfa9df9558d16f", func := "easel/easellaw10.ReorderPlays", spec := "reorderPlays", inPlace := ["slices.overlaps[easel/reorder.waiter]"], unfollowed := true, recurses := true, apart := false }
def ReorderPlaysSaid : Prop := reorderPlaysRow.holds Try.pinned (OpenSpec.ofChange reorderPlaysSpec)

/-- ITS FALSE NEIGHBOUR: 'it returns false'. Refute it at one input. -/
def reorderPlaysWrong : ChangeSpec := { name := "reorderPlays", fn := fun _ => fun
  | [d1, d2, d3] => { results := [.lit (.bool false)], args := [d1, d2, d3] }
  | _ => none }
def ReorderPlaysWrongFalsely : Prop := reorderPlaysRow.holds Try.pinned (OpenSpec.ofChange reorderPlaysWrong)

/-- 'easellaw10.ReorderAll': WHATEVER THE INPUT: true; the input reads as it did. -/
def reorderAllSpec : ChangeSpec := { name := "reorderAll", fn := fun _ => fun
  | [d1, d2, d3] => { results := [.lit (.bool true)], args := [d1, d2, d3] }
  | _ => none }
def reorderAllRow : OpenClaim := { program := "ytdcclighccejhaa", sum := "ba55a8b4b697d9ea282ee7631019861c596f99532e0c30ef1acfa9df9558d16f", func := "easel/easellaw10.ReorderAll", spec := "reorderAll", inPlace := ["slices.overlaps[easel/reorder.waiter]"], unfollowed := true, recurses := true, apart := false }
def ReorderAllSaid : Prop := reorderAllRow.holds Try.pinned (OpenSpec.ofChange reorderAllSpec)

/-- ITS FALSE NEIGHBOUR: 'it returns false'. Refute it at one input. -/
def reorderAllWrong : ChangeSpec := { name := "reorderAll", fn := fun _ => fun
  | [d1, d2, d3] => { results := [.lit (.bool false)], args := [d1, d2, d3] }
  | _ => none }
def ReorderAllWrongFalsely : Prop := reorderAllRow.holds Try.pinned (OpenSpec.ofChange reorderAllWrong)

/-- 'easellaw10.ReorderNone': WHATEVER THE INPUT: true; the input reads as it did. -/
def reorderNoneSpec : ChangeSpec := { name := "reorderNone", fn := fun _ => fun
  | [d] => { results := [.lit (.bool true)], args := [d] }
  | _ => none }
def reorderNoneRow : OpenClaim := { program := "ytdcclighccejhaa", sum := "ba55a8b4b697d9ea282ee7631019861c596f99532e0c30ef1acfa9df9558d16f", func := "easel/easellaw10.ReorderNone", spec := "reorderNone", inPlace := ["slices.overlaps[easel/reorder.waiter]"], unfollowed := true, recurses := true, apart := false }
def ReorderNoneSaid : Prop := reorderNoneRow.holds Try.pinned (OpenSpec.ofChange reorderNoneSpec)

/-- ITS FALSE NEIGHBOUR: 'it returns false'. Refute it at one input. -/
def reorderNoneWrong : ChangeSpec := { name := "reorderNone", fn := fun _ => fun
  | [d] => { results := [.lit (.bool false)], args := [d] }
  | _ => none }
def ReorderNoneWrongFalsely : Prop := reorderNoneRow.holds Try.pinned (OpenSpec.ofChange reorderNoneWrong)

/-- 'easellaw10.ReorderKnown': WHATEVER THE INPUT: true; the input reads as it did. -/
def reorderKnownSpec : ChangeSpec := { name := "reorderKnown", fn := fun _ => fun
  | [] => { results := [.lit (.bool true)], args := [] }
  | _ => none }
def reorderKnownRow : OpenClaim := { program := "ytdcclighccejhaa", sum := "ba55a8b4b697d9ea282ee7631019861c596f99532e0c30ef1acfa9df9558d16f", func := "easel/easellaw10.ReorderKnown", spec := "reorderKnown", inPlace := ["slices.overlaps[easel/reorder.waiter]"], unfollowed := true, recurses := true, apart := false }
def ReorderKnownSaid : Prop := reorderKnownRow.holds Try.pinned (OpenSpec.ofChange reorderKnownSpec)

/-- ITS FALSE NEIGHBOUR: 'it returns false'. Refute it at one input. -/
def reorderKnownWrong : ChangeSpec := { name := "reorderKnown", fn := fun _ => fun
  | [] => { results := [.lit (.bool false)], args := [] }
  | _ => none }
def ReorderKnownWrongFalsely : Prop := reorderKnownRow.holds Try.pinned (OpenSpec.ofChange reorderKnownWrong)

/- THE SECOND FORM. 'bulk': how many values and letters a reading holds, each counted each time it is reached (what is shared counts as often as it is met; a slice's spare places count too). A statement '..UptoSaid' is the law's where the arguments, and the package variables that the reading takes, are together of bulk at most 1048576: NARROWER than '..Said'. Prove '..Said' where nothing that the law and all that it calls make is longer than what came in: it says more and counts as full. Else prove '..UptoSaid'. A law counts once. -/
mutual
def uptoBulk {H : Type} : DataW H → Nat
  | .lit (.string bytes) => bytes.length + 1
  | .lit _ => 1
  | .nil => 1
  | .ptr d => uptoBulk d + 1
  | .slice elems spare => uptoBulkAll elems + uptoBulkAll spare + 1
  | .agg parts => uptoBulkAll parts + 1
  | .iface _ d => uptoBulk d + 1
  | .map entries => uptoBulkEntries entries + 1
  | .held _ => 1
def uptoBulkAll {H : Type} : List (DataW H) → Nat
  | [] => 0
  | d :: r => uptoBulk d + uptoBulkAll r
def uptoBulkEntries {H : Type} : List (Lit × DataW H) → Nat
  | [] => 0
  | x :: r => uptoBulkEntry x + uptoBulkEntries r
def uptoBulkEntry {H : Type} : Lit × DataW H → Nat
  | (.string bytes, d) => bytes.length + uptoBulk d + 1
  | (_, d) => uptoBulk d + 1
 end
def uptoSmall : (H : Type) → List (DataW H) → Bool := fun _ ds => decide (uptoBulkAll ds ≤ 1048576)
def OpenSpec.upto (s : _root_.Go.ChangeSpec) : _root_.Go.OpenSpec := { _root_.Go.OpenSpec.ofChange s with cond := some uptoSmall }

/-- 'easellaw10.ReorderPlays', WHERE WHAT IT READS IS OF BULK AT MOST 1048576: true; the input reads as it did. -/
def reorderPlaysUptoRow : OpenClaim := { program := "ytdcclighccejhaa", sum := "ba55a8b4b697d9ea282ee7631019861c596f99532e0c30ef1acfa9df9558d16f", func := "easel/easellaw10.ReorderPlays", spec := "reorderPlays", inPlace := ["slices.overlaps[easel/reorder.waiter]"], unfollowed := true, recurses := true, apart := false, narrowed := true }
def ReorderPlaysUptoSaid : Prop := reorderPlaysUptoRow.holds Try.pinned (OpenSpec.upto reorderPlaysSpec)

/-- 'easellaw10.ReorderAll', WHERE WHAT IT READS IS OF BULK AT MOST 1048576: true; the input reads as it did. -/
def reorderAllUptoRow : OpenClaim := { program := "ytdcclighccejhaa", sum := "ba55a8b4b697d9ea282ee7631019861c596f99532e0c30ef1acfa9df9558d16f", func := "easel/easellaw10.ReorderAll", spec := "reorderAll", inPlace := ["slices.overlaps[easel/reorder.waiter]"], unfollowed := true, recurses := true, apart := false, narrowed := true }
def ReorderAllUptoSaid : Prop := reorderAllUptoRow.holds Try.pinned (OpenSpec.upto reorderAllSpec)

/-- 'easellaw10.ReorderNone', WHERE WHAT IT READS IS OF BULK AT MOST 1048576: true; the input reads as it did. -/
def reorderNoneUptoRow : OpenClaim := { program := "ytdcclighccejhaa", sum := "ba55a8b4b697d9ea282ee7631019861c596f99532e0c30ef1acfa9df9558d16f", func := "easel/easellaw10.ReorderNone", spec := "reorderNone", inPlace := ["slices.overlaps[easel/reorder.waiter]"], unfollowed := true, recurses := true, apart := false, narrowed := true }
def ReorderNoneUptoSaid : Prop := reorderNoneUptoRow.holds Try.pinned (OpenSpec.upto reorderNoneSpec)

/-- 'easellaw10.ReorderKnown', WHERE WHAT IT READS IS OF BULK AT MOST 1048576: true; the input reads as it did. -/
def reorderKnownUptoRow : OpenClaim := { program := "ytdcclighccejhaa", sum := "ba55a8b4b697d9ea282ee7631019861c596f99532e0c30ef1acfa9df9558d16f", func := "easel/easellaw10.ReorderKnown", spec := "reorderKnown", inPlace := ["slices.overlaps[easel/reorder.waiter]"], unfollowed := true, recurses := true, apart := false, narrowed := true }
def ReorderKnownUptoSaid : Prop := reorderKnownUptoRow.holds Try.pinned (OpenSpec.upto reorderKnownSpec)

end Rows
end Go.Proofs.Ytdcclighccejhaa
