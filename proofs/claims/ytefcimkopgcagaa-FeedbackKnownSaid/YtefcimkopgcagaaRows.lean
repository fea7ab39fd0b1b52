/-
  No cell of these rows narrows 'for every input' (looked for: loops, veiled, ifaces, maps, wideKeys, modest, calm, conditions, laid).
  DERIVED. THE GIVEN ROWS OF THIS SEAT. 5 by the template 'for every input the law returns true; each argument reads behind the call as it read before'; 0 by the template 'total and deterministic' (their statements: YtefcimkopgcagaaTotals.lean).
  GIVEN WITH THE SEED: the statements are not yours to turn. If you find one false, say at which input.
  Laid BY PROGRAM, IN A SANDBOX (cutbox-rows.mjs): the forced cells as the released guide's own fill.sh prints them over the translation bfb2f3c9d8d3fb37… (all of the seat's roots in one cut). By AI agents, Wed Nov 11 2026. No macro, syntax, notation, axiom, sorry.
-/
import Derived.Test.YtefcimkopgcagaaChecked
import GoSem.Claim
import GoSem.ClaimJoined
import GoSem.ClaimMapViews
import Derived.JoinedTies
import Derived.KernelRfl
namespace Go.Proofs.Ytefcimkopgcagaa
/- THE CELL 'sum', in the pinned program and in every row, IS THE sha256 OF THE DUMP (.gsa) THAT YtefcimkopgcagaaProg.lean LOADS. Nothing in Lean hashes anything: it is a label: what it is worth is what the hold of that sum in a sandbox is worth. -/
noncomputable def Try.pinned : Pinned := { name := "ytefcimkopgcagaa", sum := "bfb2f3c9d8d3fb37da3689f6ce8fbb9ff53cc6cd02b2ba47be9803803b797f1c", checked := Try.checked }
namespace Rows
def none {H : Type} : Left H := { results := [], args := [] }

/-- 'easellaw07.FeedbackPuts': WHATEVER THE INPUT: true; the input reads as it did. -/
def feedbackPutsSpec : ChangeSpec := { name := "feedbackPuts", fn := fun _ => fun
  | [d1, d2] => { results := [.lit (.bool true)], args := [d1, d2] }
  | _ => none }
def feedbackPutsRow : OpenClaim := { program := "ytefcimkopgcagaa", sum := "bfb2f3c9d8d3fb37da3689f6ce8fbb9ff53cc6cd02b2ba47be9803803b797f1c", func := "easel/easellaw07.FeedbackPuts", spec := "feedbackPuts", unfollowed := true, recurses := true, apart := false }
def FeedbackPutsSaid : Prop := feedbackPutsRow.holds Try.pinned (OpenSpec.ofChange feedbackPutsSpec)

/-- ITS FALSE NEIGHBOUR: 'it returns false'. Refute it at one input. -/
def feedbackPutsWrong : ChangeSpec := { name := "feedbackPuts", fn := fun _ => fun
  | [d1, d2] => { results := [.lit (.bool false)], args := [d1, d2] }
  | _ => none }
def FeedbackPutsWrongFalsely : Prop := feedbackPutsRow.holds Try.pinned (OpenSpec.ofChange feedbackPutsWrong)

/-- 'easellaw07.FeedbackReads': WHATEVER THE INPUT: true; the input reads as it did. -/
def feedbackReadsSpec : ChangeSpec := { name := "feedbackReads", fn := fun _ => fun
  | [d] => { results := [.lit (.bool true)], args := [d] }
  | _ => none }
def feedbackReadsRow : OpenClaim := { program := "ytefcimkopgcagaa", sum := "bfb2f3c9d8d3fb37da3689f6ce8fbb9ff53cc6cd02b2ba47be9803803b797f1c", func := "easel/easellaw07.FeedbackReads", spec := "feedbackReads", unfollowed := true, recurses := true, apart := false }
def FeedbackReadsSaid : Prop := feedbackReadsRow.holds Try.pinned (OpenSpec.ofChange feedbackReadsSpec)

/-- ITS FALSE NEIGHBOUR: 'it returns false'. Refute it at one input. -/
def feedbackReadsWrong : ChangeSpec := { name := "feedbackReads", fn := fun _ => fun
  | [d] => { results := [.lit (.bool false)], args := [d] }
  | _ => none }
def FeedbackReadsWrongFalsely : Prop := feedbackReadsRow.holds Try.pinned (OpenSpec.ofChange feedbackReadsWrong)

/-- 'easellaw07.FeedbackNumbers': WHATEVER THE INPUT: true; the input reads as it did. -/
def feedbackNumbersSpec : ChangeSpec := { name := "feedbackNumbers", fn := fun _ => fun
  | [d1, d2, d3] => { results := [.lit (.bool true)], args := [d1, d2, d3] }
  | _ => none }
def feedbackNumbersRow : OpenClaim := { program := "ytefcimkopgcagaa", sum := "bfb2f3c9d8d3fb37da3689f6ce8fbb9ff53cc6cd02b2ba47be9803803b797f1c", func := "easel/easellaw07.FeedbackNumbers", spec := "feedbackNumbers", unfollowed := true, recurses := true, apart := false }
def FeedbackNumbersSaid : Prop := feedbackNumbersRow.holds Try.pinned (OpenSpec.ofChange feedbackNumbersSpec)

/-- ITS FALSE NEIGHBOUR: 'it returns false'. Refute it at one input. -/
def feedbackNumbersWrong : ChangeSpec := { name := "feedbackNumbers", fn := fun _ => fun
  | [d1, d2, d3] => { results := [.lit (.bool false)], args := [d1, d2, d3] }
  | _ => none }
def FeedbackNumbersWrongFalsely : Prop := feedbackNumbersRow.holds Try.pinned (OpenSpec.ofChange feedbackNumbersWrong)

/-- 'easellaw07.FeedbackBack': WHATEVER THE INPUT: true; the input reads as it did. -/
def feedbackBackSpec : ChangeSpec := { name := "feedbackBack", fn := fun _ => fun
  | [d1, d2, d3, d4] => { results := [.lit (.bool true)], args := [d1, d2, d3, d4] }
  | _ => none }
def feedbackBackRow : OpenClaim := { program := "ytefcimkopgcagaa", sum := "bfb2f3c9d8d3fb37da3689f6ce8fbb9ff53cc6cd02b2ba47be9803803b797f1c", func := "easel/easellaw07.FeedbackBack", spec := "feedbackBack", unfollowed := true, recurses := true, apart := false }
def FeedbackBackSaid : Prop := feedbackBackRow.holds Try.pinned (OpenSpec.ofChange feedbackBackSpec)

/-- ITS FALSE NEIGHBOUR: 'it returns false'. Refute it at one input. -/
def feedbackBackWrong : ChangeSpec := { name := "feedbackBack", fn := fun _ => fun
  | [d1, d2, d3, d4] => { results := [.lit (.bool false)], args := [d1, d2, d3, d4] }
  | _ => none }
def FeedbackBackWrongFalsely : Prop := feedbackBackRow.holds Try.pinned (OpenSpec.ofChange feedbackBackWrong)

/-- 'easellaw07.FeedbackKnown': WHATEVER THE INPUT: true; the input reads as it did. -/
def feedbackKnownSpec : ChangeSpec := { name := "feedbackKnown", fn := fun _ => fun
  | [] => { results := [.lit (.bool true)], args := [] }
  | _ => none }
def feedbackKnownRow : OpenClaim := { program := "ytefcimkopgcagaa", sum := "bfb2f3c9d8d3fb37da3689f6ce8fbb9ff53cc6cd02b2ba47be9803803b797f1c", func := "easel/easellaw07.FeedbackKnown", spec := "feedbackKnown", unfollowed := true, recurses := true, apart := false }
def FeedbackKnownSaid : Prop := feedbackKnownRow.holds Try.pinned (OpenSpec.ofChange feedbackKnownSpec)

/-- ITS FALSE NEIGHBOUR: 'it returns false'. Refute it at one input. -/
def feedbackKnownWrong : ChangeSpec := { name := "feedbackKnown", fn := fun _ => fun
  | [] => { results := [.lit (.bool false)], args := [] }
  | _ => none }
def FeedbackKnownWrongFalsely : Prop := feedbackKnownRow.holds Try.pinned (OpenSpec.ofChange feedbackKnownWrong)

/- THE SECOND FORM. 'bulk': how many values and letters a reading holds, each counted each time it is reached (what is shared counts as often as it is met; a slice's spare places count too). A statement '..UptoSaid' is the law's where the arguments, and the package variables that the reading takes, are together of bulk at most 1048576: NARROWER than '..Said'. Prove '..Said' where nothing that the law and all that it calls make is longer than what came in: it says more and counts as full. Else prove '..UptoSaid'. A law counts once. -/
mutual
def uptoBulk {H : Type} : DataW H → Nat
  | .lit (.string bytes) => bytes.length + 1
  | .lit _ => 1
  | .nil => 1
  | .ptr d => uptoBulk d + 1
  | .slice elems spare => uptoBulkAll elems + uptoBulkAll spare + 1
  | .agg parts => uptoBulkAll parts + 1
  | .iface _ d => uptoBulk d + 1
  | .map entries => uptoBulkEntries entries + 1
  | .held _ => 1
def uptoBulkAll {H : Type} : List (DataW H) → Nat
  | [] => 0
  | d :: r => uptoBulk d + uptoBulkAll r
def uptoBulkEntries {H : Type} : List (Lit × DataW H) → Nat
  | [] => 0
  | x :: r => uptoBulkEntry x + uptoBulkEntries r
def uptoBulkEntry {H : Type} : Lit × DataW H → Nat
  | (.string bytes, d) => bytes.length + uptoBulk d + 1
  | (_, d) => uptoBulk d + 1
 end
def uptoSmall : (H : Type) → List (DataW H) → Bool := fun _ ds => decide (uptoBulkAll ds ≤ 1048576)
def OpenSpec.upto (s : _root_.Go.ChangeSpec) : _root_.Go.OpenSpec := { _root_.Go.OpenSpec.ofChange s with cond := some uptoSmall }

/-- 'easellaw07.FeedbackPuts', WHERE WHAT IT READS IS OF BULK AT MOST 1048576: true; the input reads as it did. -/
def feedbackPutsUptoRow : OpenClaim := { program := "ytefcimkopgcagaa", sum := "bfb2f3c9d8d3fb37da3689f6ce8fbb9ff53cc6cd02b2ba47be9803803b797f1c", func := "easel/easellaw07.FeedbackPuts", spec := "feedbackPuts", unfollowed := true, recurses := true, apart := false, narrowed := true }
def FeedbackPutsUptoSaid : Prop := feedbackPutsUptoRow.holds Try.pinned (OpenSpec.upto feedbackPutsSpec)

/-- 'easellaw07.FeedbackReads', WHERE WHAT IT READS IS OF BULK AT MOST 1048576: true; the input reads as it did. -/
def feedbackReadsUptoRow : OpenClaim := { program := "ytefcimkopgcagaa", sum := "bfb2f3c9d8d3fb37da3689f6ce8fbb9ff53cc6cd02b2ba47be9803803b797f1c", func := "easel/easellaw07.FeedbackReads", spec := "feedbackReads", unfollowed := true, recurses := true, apart := false, narrowed := true }
def FeedbackReadsUptoSaid : Prop := feedbackReadsUptoRow.holds Try.pinned (OpenSpec.upto feedbackReadsSpec)

/-- 'easellaw07.FeedbackNumbers', WHERE WHAT IT READS IS OF BULK AT MOST 1048576: true; the input reads as it did. -/
def feedbackNumbersUptoRow : OpenClaim := { program := "ytefcimkopgcagaa", sum := "bfb2f3c9d8d3fb37da3689f6ce8fbb9ff53cc6cd02b2ba47be9803803b797f1c", func := "easel/easellaw07.FeedbackNumbers", spec := "feedbackNumbers", unfollowed := true, recurses := true, apart := false, narrowed := true }
def FeedbackNumbersUptoSaid : Prop := feedbackNumbersUptoRow.holds Try.pinned (OpenSpec.upto feedbackNumbersSpec)

/-- 'easellaw07.FeedbackBack', WHERE WHAT IT READS IS OF BULK AT MOST 1048576: true; the input reads as it did. -/
def feedbackBackUptoRow : OpenClaim := { program := "ytefcimkopgcagaa", sum := "bfb2f3c9d8d3fb37da3689f6ce8fbb9ff53cc6cd02b2ba47be9803803b797f1c", func := "easel/easellaw07.FeedbackBack", spec := "feedbackBack", unfollowed := true, recurses := true, apart := false, narrowed := true }
def FeedbackBackUptoSaid : Prop := feedbackBackUptoRow.holds Try.pinned (OpenSpec.upto feedbackBackSpec)

/-- 'easellaw07.FeedbackKnown', WHERE WHAT IT READS IS OF BULK AT MOST 1048576: true; the input reads as it did. -/
def feedbackKnownUptoRow : OpenClaim := { program := "ytefcimkopgcagaa", sum := "bfb2f3c9d8d3fb37da3689f6ce8fbb9ff53cc6cd02b2ba47be9803803b797f1c", func := "easel/easellaw07.FeedbackKnown", spec := "feedbackKnown", unfollowed := true, recurses := true, apart := false, narrowed := true }
def FeedbackKnownUptoSaid : Prop := feedbackKnownUptoRow.holds Try.pinned (OpenSpec.upto feedbackKnownSpec)

end Rows
end Go.Proofs.Ytefcimkopgcagaa
