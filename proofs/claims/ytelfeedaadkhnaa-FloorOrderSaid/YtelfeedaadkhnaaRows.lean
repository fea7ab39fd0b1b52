/-
  No cell of these rows narrows 'for every input' (looked for: loops, veiled, ifaces, maps, wideKeys, modest, calm, conditions, laid).
  DERIVED. THE GIVEN ROWS OF THIS SEAT. 4 by the template 'for every input the law returns true; each argument reads behind the call as it read before'; 0 by the template 'total and deterministic' (their statements: YtelfeedaadkhnaaTotals.lean).
  GIVEN WITH THE SEED: the statements are not yours to turn. If you find one false, say at which input.
  Laid BY PROGRAM, IN A SANDBOX (cutbox-rows.mjs): the forced cells as the released guide's own fill.sh prints them over the translation 46257e27232140a3… (all of the seat's roots in one cut). By AI agents, Wed Nov 11 2026. No macro, syntax, notation, axiom, sorry.
-/
import Derived.Test.YtelfeedaadkhnaaChecked
import GoSem.Claim
import GoSem.ClaimJoined
import GoSem.ClaimMapViews
import Derived.JoinedTies
import Derived.KernelRfl
namespace Go.Proofs.Ytelfeedaadkhnaa
/- THE CELL 'sum', in the pinned program and in every row, IS THE sha256 OF THE DUMP (.gsa) THAT YtelfeedaadkhnaaProg.lean LOADS. Nothing in Lean hashes anything: it is a label: what it is worth is what the hold of that sum in a sandbox is worth. -/
noncomputable def Try.pinned : Pinned := { name := "ytelfeedaadkhnaa", sum := "46257e27232140a3fd0f705b8bd40951c32314c9d06dbedf9ca6d585661b2bcd", checked := Try.checked }
namespace Rows
def none {H : Type} : Left H := { results := [], args := [] }

/-- 'easellaw13.FloorPlays': WHATEVER THE INPUT: true; the input reads as it did. -/
def floorPlaysSpec : ChangeSpec := { name := "floorPlays", fn := fun _ => fun
  | [d1, d2, d3] => { results := [.lit (.bool true)], args := [d1, d2, d3] }
  | _ => none }
def floorPlaysRow : OpenClaim := { program := "ytelfeedaadkhnaa", sum := "46257e27232140a3fd0f705b8bd40951c32314c9d06dbedf9ca6d585661b2bcd", func := "easel/easellaw13.FloorPlays", spec := "floorPlays", unfollowed := true, recurses := true, apart := false }
def FloorPlaysSaid : Prop := floorPlaysRow.holds Try.pinned (OpenSpec.ofChange floorPlaysSpec)

/-- ITS FALSE NEIGHBOUR: 'it returns false'. Refute it at one input. -/
def floorPlaysWrong : ChangeSpec := { name := "floorPlays", fn := fun _ => fun
  | [d1, d2, d3] => { results := [.lit (.bool false)], args := [d1, d2, d3] }
  | _ => none }
def FloorPlaysWrongFalsely : Prop := floorPlaysRow.holds Try.pinned (OpenSpec.ofChange floorPlaysWrong)

/-- 'easellaw13.FloorOrder': WHATEVER THE INPUT: true; the input reads as it did. -/
def floorOrderSpec : ChangeSpec := { name := "floorOrder", fn := fun _ => fun
  | [d1, d2, d3] => { results := [.lit (.bool true)], args := [d1, d2, d3] }
  | _ => none }
def floorOrderRow : OpenClaim := { program := "ytelfeedaadkhnaa", sum := "46257e27232140a3fd0f705b8bd40951c32314c9d06dbedf9ca6d585661b2bcd", func := "easel/easellaw13.FloorOrder", spec := "floorOrder", unfollowed := true, recurses := true, apart := false }
def FloorOrderSaid : Prop := floorOrderRow.holds Try.pinned (OpenSpec.ofChange floorOrderSpec)

/-- ITS FALSE NEIGHBOUR: 'it returns false'. Refute it at one input. -/
def floorOrderWrong : ChangeSpec := { name := "floorOrder", fn := fun _ => fun
  | [d1, d2, d3] => { results := [.lit (.bool false)], args := [d1, d2, d3] }
  | _ => none }
def FloorOrderWrongFalsely : Prop := floorOrderRow.holds Try.pinned (OpenSpec.ofChange floorOrderWrong)

/-- 'easellaw13.FloorNone': WHATEVER THE INPUT: true; the input reads as it did. -/
def floorNoneSpec : ChangeSpec := { name := "floorNone", fn := fun _ => fun
  | [d] => { results := [.lit (.bool true)], args := [d] }
  | _ => none }
def floorNoneRow : OpenClaim := { program := "ytelfeedaadkhnaa", sum := "46257e27232140a3fd0f705b8bd40951c32314c9d06dbedf9ca6d585661b2bcd", func := "easel/easellaw13.FloorNone", spec := "floorNone", unfollowed := true, recurses := true, apart := false }
def FloorNoneSaid : Prop := floorNoneRow.holds Try.pinned (OpenSpec.ofChange floorNoneSpec)

/-- ITS FALSE NEIGHBOUR: 'it returns false'. Refute it at one input. -/
def floorNoneWrong : ChangeSpec := { name := "floorNone", fn := fun _ => fun
  | [d] => { results := [.lit (.bool false)], args := [d] }
  | _ => none }
def FloorNoneWrongFalsely : Prop := floorNoneRow.holds Try.pinned (OpenSpec.ofChange floorNoneWrong)

/-- 'easellaw13.FloorKnown': WHATEVER THE INPUT: true; the input reads as it did. -/
def floorKnownSpec : ChangeSpec := { name := "floorKnown", fn := fun _ => fun
  | [] => { results := [.lit (.bool true)], args := [] }
  | _ => none }
def floorKnownRow : OpenClaim := { program := "ytelfeedaadkhnaa", sum := "46257e27232140a3fd0f705b8bd40951c32314c9d06dbedf9ca6d585661b2bcd", func := "easel/easellaw13.FloorKnown", spec := "floorKnown", unfollowed := true, recurses := true, apart := false }
def FloorKnownSaid : Prop := floorKnownRow.holds Try.pinned (OpenSpec.ofChange floorKnownSpec)

/-- ITS FALSE NEIGHBOUR: 'it returns false'. Refute it at one input. -/
def floorKnownWrong : ChangeSpec := { name := "floorKnown", fn := fun _ => fun
  | [] => { results := [.lit (.bool false)], args := [] }
  | _ => none }
def FloorKnownWrongFalsely : Prop := floorKnownRow.holds Try.pinned (OpenSpec.ofChange floorKnownWrong)

/- THE SECOND FORM. 'bulk': how many values and letters a reading holds, each counted each time it is reached (what is shared counts as often as it is met; a slice's spare places count too). A statement '..UptoSaid' is the law's where the arguments, and the package variables that the reading takes, are together of bulk at most 1048576: NARROWER than '..Said'. Prove '..Said' where nothing that the law and all that it calls make is longer than what came in: it says more and counts as full. Else prove '..UptoSaid'. A law counts once. -/
mutual
def uptoBulk {H : Type} : DataW H → Nat
  | .lit (.string bytes) => bytes.length + 1
  | .lit _ => 1
  | .nil => 1
  | .ptr d => uptoBulk d + 1
  | .slice elems spare => uptoBulkAll elems + uptoBulkAll spare + 1
  | .agg parts => uptoBulkAll parts + 1
  | .iface _ d => uptoBulk d + 1
  | .map entries => uptoBulkEntries entries + 1
  | .held _ => 1
def uptoBulkAll {H : Type} : List (DataW H) → Nat
  | [] => 0
  | d :: r => uptoBulk d + uptoBulkAll r
def uptoBulkEntries {H : Type} : List (Lit × DataW H) → Nat
  | [] => 0
  | x :: r => uptoBulkEntry x + uptoBulkEntries r
def uptoBulkEntry {H : Type} : Lit × DataW H → Nat
  | (.string bytes, d) => bytes.length + uptoBulk d + 1
  | (_, d) => uptoBulk d + 1
 end
def uptoSmall : (H : Type) → List (DataW H) → Bool := fun _ ds => decide (uptoBulkAll ds ≤ 1048576)
def OpenSpec.upto (s : _root_.Go.ChangeSpec) : _root_.Go.OpenSpec := { _root_.Go.OpenSpec.ofChange s with cond := some uptoSmall }

/-- 'easellaw13.FloorPlays', WHERE WHAT IT READS IS OF BULK AT MOST 1048576: true; the input reads as it did. -/
def floorPlaysUptoRow : OpenClaim := { program := "ytelfeedaadkhnaa", sum := "46257e27232140a3fd0f705b8bd40951c32314c9d06dbedf9ca6d585661b2bcd", func := "easel/easellaw13.FloorPlays", spec := "floorPlays", unfollowed := true, recurses := true, apart := false, narrowed := true }
def FloorPlaysUptoSaid : Prop := floorPlaysUptoRow.holds Try.pinned (OpenSpec.upto floorPlaysSpec)

/-- 'easellaw13.FloorOrder', WHERE WHAT IT READS IS OF BULK AT MOST 1048576: true; the input reads as it did. -/
def floorOrderUptoRow : OpenClaim := { program := "ytelfeedaadkhnaa", sum := "46257e27232140a3fd0f705b8bd40951c32314c9d06dbedf9ca6d585661b2bcd", func := "easel/easellaw13.FloorOrder", spec := "floorOrder", unfollowed := true, recurses := true, apart := false, narrowed := true }
def FloorOrderUptoSaid : Prop := floorOrderUptoRow.holds Try.pinned (OpenSpec.upto floorOrderSpec)

/-- 'easellaw13.FloorNone', WHERE WHAT IT READS IS OF BULK AT MOST 1048576: true; the input reads as it did. -/
def floorNoneUptoRow : OpenClaim := { program := "ytelfeedaadkhnaa", sum := "46257e27232140a3fd0f705b8bd40951c32314c9d06dbedf9ca6d585661b2bcd", func := "easel/easellaw13.FloorNone", spec := "floorNone", unfollowed := true, recurses := true, apart := false, narrowed := true }
def FloorNoneUptoSaid : Prop := floorNoneUptoRow.holds Try.pinned (OpenSpec.upto floorNoneSpec)

/-- 'easellaw13.FloorKnown', WHERE WHAT IT READS IS OF BULK AT MOST 1048576: true; the input reads as it did. -/
def floorKnownUptoRow : OpenClaim := { program := "ytelfeedaadkhnaa", sum := "46257e27232140a3fd0f705b8bd40951c32314c9d06dbedf9ca6d585661b2bcd", func := "easel/easellaw13.FloorKnown", spec := "floorKnown", unfollowed := true, recurses := true, apart := false, narrowed := true }
def FloorKnownUptoSaid : Prop := floorKnownUptoRow.holds Try.pinned (OpenSpec.upto floorKnownSpec)

end Rows
end Go.Proofs.Ytelfeedaadkhnaa
