/-
  No cell of these rows narrows 'for every input' (looked for: loops, veiled, ifaces, maps, wideKeys, modest, calm, conditions, laid).
  DERIVED. THE GIVEN ROWS OF THIS SEAT. 5 by the template 'for every input the law returns true; each argument reads behind the call as it read before'; 0 by the template 'total and deterministic' (their statements: YthnaekmceakdaaaTotals.lean).
  GIVEN WITH THE SEED: the statements are not yours to turn. If you find one false, say at which input.
  Laid BY PROGRAM, IN A SANDBOX (cutbox-rows.mjs): the forced cells as the released guide's own fill.sh prints them over the translation 36d4ec7ef185ca35… (all of the seat's roots in one cut). By AI agents, Wed Nov 11 2026. No macro, syntax, notation, axiom, sorry.
-/
import Derived.Test.YthnaekmceakdaaaChecked
import GoSem.Claim
import GoSem.ClaimJoined
import GoSem.ClaimMapViews
import Derived.JoinedTies
import Derived.KernelRfl
namespace Go.Proofs.Ythnaekmceakdaaa
/- THE CELL 'sum', in the pinned program and in every row, IS THE sha256 OF THE DUMP (.gsa) THAT YthnaekmceakdaaaProg.lean LOADS. Nothing in Lean hashes anything: it is a label: what it is worth is what the hold of that sum in a sandbox is worth. -/
noncomputable def Try.pinned : Pinned := { name := "ythnaekmceakdaaa", sum := "36d4ec7ef185ca3592dcc2b79affd0416d99e996272cb7cdddb2ab249a23377f", checked := Try.checked }
namespace Rows
def none {H : Type} : Left H := { results := [], args := [] }

/-- 'easellaw08.WideNexts': WHATEVER THE INPUT: true; the input reads as it did. -/
def wideNextsSpec : ChangeSpec := { name := "wideNexts", fn := fun _ => fun
  | [d1, d2, d3, d4] => { results := [.lit (.bool true)], args := [d1, d2, d3, d4] }
  | _ => none }
def wideNextsRow : OpenClaim := { program := "ythnaekmceakdaaa", sum := "36d4ec7ef185ca3592dcc2b79affd0416d99e996272cb7cdddb2ab249a23377f", func := "easel/easellaw08.WideNexts", spec := "wideNexts", apart := false }
def WideNextsSaid : Prop := wideNextsRow.holds Try.pinned (OpenSpec.ofChange wideNextsSpec)

/-- ITS FALSE NEIGHBOUR: 'it returns false'. Refute it at one input. -/
def wideNextsWrong : ChangeSpec := { name := "wideNexts", fn := fun _ => fun
  | [d1, d2, d3, d4] => { results := [.lit (.bool false)], args := [d1, d2, d3, d4] }
  | _ => none }
def WideNextsWrongFalsely : Prop := wideNextsRow.holds Try.pinned (OpenSpec.ofChange wideNextsWrong)

/-- 'easellaw08.WideCircles': WHATEVER THE INPUT: true; the input reads as it did. -/
def wideCirclesSpec : ChangeSpec := { name := "wideCircles", fn := fun _ => fun
  | [d1, d2, d3] => { results := [.lit (.bool true)], args := [d1, d2, d3] }
  | _ => none }
def wideCirclesRow : OpenClaim := { program := "ythnaekmceakdaaa", sum := "36d4ec7ef185ca3592dcc2b79affd0416d99e996272cb7cdddb2ab249a23377f", func := "easel/easellaw08.WideCircles", spec := "wideCircles", apart := false }
def WideCirclesSaid : Prop := wideCirclesRow.holds Try.pinned (OpenSpec.ofChange wideCirclesSpec)

/-- ITS FALSE NEIGHBOUR: 'it returns false'. Refute it at one input. -/
def wideCirclesWrong : ChangeSpec := { name := "wideCircles", fn := fun _ => fun
  | [d1, d2, d3] => { results := [.lit (.bool false)], args := [d1, d2, d3] }
  | _ => none }
def WideCirclesWrongFalsely : Prop := wideCirclesRow.holds Try.pinned (OpenSpec.ofChange wideCirclesWrong)

/-- 'easellaw08.WideRises': WHATEVER THE INPUT: true; the input reads as it did. -/
def wideRisesSpec : ChangeSpec := { name := "wideRises", fn := fun _ => fun
  | [d1, d2, d3, d4] => { results := [.lit (.bool true)], args := [d1, d2, d3, d4] }
  | _ => none }
def wideRisesRow : OpenClaim := { program := "ythnaekmceakdaaa", sum := "36d4ec7ef185ca3592dcc2b79affd0416d99e996272cb7cdddb2ab249a23377f", func := "easel/easellaw08.WideRises", spec := "wideRises", apart := false }
def WideRisesSaid : Prop := wideRisesRow.holds Try.pinned (OpenSpec.ofChange wideRisesSpec)

/-- ITS FALSE NEIGHBOUR: 'it returns false'. Refute it at one input. -/
def wideRisesWrong : ChangeSpec := { name := "wideRises", fn := fun _ => fun
  | [d1, d2, d3, d4] => { results := [.lit (.bool false)], args := [d1, d2, d3, d4] }
  | _ => none }
def WideRisesWrongFalsely : Prop := wideRisesRow.holds Try.pinned (OpenSpec.ofChange wideRisesWrong)

/-- 'easellaw08.WideNone': WHATEVER THE INPUT: true; the input reads as it did. -/
def wideNoneSpec : ChangeSpec := { name := "wideNone", fn := fun _ => fun
  | [d1, d2] => { results := [.lit (.bool true)], args := [d1, d2] }
  | _ => none }
def wideNoneRow : OpenClaim := { program := "ythnaekmceakdaaa", sum := "36d4ec7ef185ca3592dcc2b79affd0416d99e996272cb7cdddb2ab249a23377f", func := "easel/easellaw08.WideNone", spec := "wideNone", apart := false }
def WideNoneSaid : Prop := wideNoneRow.holds Try.pinned (OpenSpec.ofChange wideNoneSpec)

/-- ITS FALSE NEIGHBOUR: 'it returns false'. Refute it at one input. -/
def wideNoneWrong : ChangeSpec := { name := "wideNone", fn := fun _ => fun
  | [d1, d2] => { results := [.lit (.bool false)], args := [d1, d2] }
  | _ => none }
def WideNoneWrongFalsely : Prop := wideNoneRow.holds Try.pinned (OpenSpec.ofChange wideNoneWrong)

/-- 'easellaw08.WideKnown': WHATEVER THE INPUT: true; the input reads as it did. -/
def wideKnownSpec : ChangeSpec := { name := "wideKnown", fn := fun _ => fun
  | [] => { results := [.lit (.bool true)], args := [] }
  | _ => none }
def wideKnownRow : OpenClaim := { program := "ythnaekmceakdaaa", sum := "36d4ec7ef185ca3592dcc2b79affd0416d99e996272cb7cdddb2ab249a23377f", func := "easel/easellaw08.WideKnown", spec := "wideKnown", apart := false }
def WideKnownSaid : Prop := wideKnownRow.holds Try.pinned (OpenSpec.ofChange wideKnownSpec)

/-- ITS FALSE NEIGHBOUR: 'it returns false'. Refute it at one input. -/
def wideKnownWrong : ChangeSpec := { name := "wideKnown", fn := fun _ => fun
  | [] => { results := [.lit (.bool false)], args := [] }
  | _ => none }
def WideKnownWrongFalsely : Prop := wideKnownRow.holds Try.pinned (OpenSpec.ofChange wideKnownWrong)

/- THE SECOND FORM. 'bulk': how many values and letters a reading holds, each counted each time it is reached (what is shared counts as often as it is met; a slice's spare places count too). A statement '..UptoSaid' is the law's where the arguments, and the package variables that the reading takes, are together of bulk at most 1048576: NARROWER than '..Said'. Prove '..Said' where nothing that the law and all that it calls make is longer than what came in: it says more and counts as full. Else prove '..UptoSaid'. A law counts once. -/
mutual
def uptoBulk {H : Type} : DataW H → Nat
  | .lit (.string bytes) => bytes.length + 1
  | .lit _ => 1
  | .nil => 1
  | .ptr d => uptoBulk d + 1
  | .slice elems spare => uptoBulkAll elems + uptoBulkAll spare + 1
  | .agg parts => uptoBulkAll parts + 1
  | .iface _ d => uptoBulk d + 1
  | .map entries => uptoBulkEntries entries + 1
  | .held _ => 1
def uptoBulkAll {H : Type} : List (DataW H) → Nat
  | [] => 0
  | d :: r => uptoBulk d + uptoBulkAll r
def uptoBulkEntries {H : Type} : List (Lit × DataW H) → Nat
  | [] => 0
  | x :: r => uptoBulkEntry x + uptoBulkEntries r
def uptoBulkEntry {H : Type} : Lit × DataW H → Nat
  | (.string bytes, d) => bytes.length + uptoBulk d + 1
  | (_, d) => uptoBulk d + 1
 end
def uptoSmall : (H : Type) → List (DataW H) → Bool := fun _ ds => decide (uptoBulkAll ds ≤ 1048576)
def OpenSpec.upto (s : _root_.Go.ChangeSpec) : _root_.Go.OpenSpec := { _root_.Go.OpenSpec.ofChange s with cond := some uptoSmall }

/-- 'easellaw08.WideNexts', WHERE WHAT IT READS IS OF BULK AT MOST 1048576: true; the input reads as it did. -/
def wideNextsUptoRow : OpenClaim := { program := "ythnaekmceakdaaa", sum := "36d4ec7ef185ca3592dcc2b79affd0416d99e996272cb7cdddb2ab249a23377f", func := "easel/easellaw08.WideNexts", spec := "wideNexts", apart := false, narrowed := true }
def WideNextsUptoSaid : Prop := wideNextsUptoRow.holds Try.pinned (OpenSpec.upto wideNextsSpec)

/-- 'easellaw08.WideCircles', WHERE WHAT IT READS IS OF BULK AT MOST 1048576: true; the input reads as it did. -/
def wideCirclesUptoRow : OpenClaim := { program := "ythnaekmceakdaaa", sum := "36d4ec7ef185ca3592dcc2b79affd0416d99e996272cb7cdddb2ab249a23377f", func := "easel/easellaw08.WideCircles", spec := "wideCircles", apart := false, narrowed := true }
def WideCirclesUptoSaid : Prop := wideCirclesUptoRow.holds Try.pinned (OpenSpec.upto wideCirclesSpec)

/-- 'easellaw08.WideRises', WHERE WHAT IT READS IS OF BULK AT MOST 1048576: true; the input reads as it did. -/
def wideRisesUptoRow : OpenClaim := { program := "ythnaekmceakdaaa", sum := "36d4ec7ef185ca3592dcc2b79affd0416d99e996272cb7cdddb2ab249a23377f", func := "easel/easellaw08.WideRises", spec := "wideRises", apart := false, narrowed := true }
def WideRisesUptoSaid : Prop := wideRisesUptoRow.holds Try.pinned (OpenSpec.upto wideRisesSpec)

/-- 'easellaw08.WideNone', WHERE WHAT IT READS IS OF BULK AT MOST 1048576: true; the input reads as it did. -/
def wideNoneUptoRow : OpenClaim := { program := "ythnaekmceakdaaa", sum := "36d4ec7ef185ca3592dcc2b79affd0416d99e996272cb7cdddb2ab249a23377f", func := "easel/easellaw08.WideNone", spec := "wideNone", apart := false, narrowed := true }
def WideNoneUptoSaid : Prop := wideNoneUptoRow.holds Try.pinned (OpenSpec.upto wideNoneSpec)

/-- 'easellaw08.WideKnown', WHERE WHAT IT READS IS OF BULK AT MOST 1048576: true; the input reads as it did. -/
def wideKnownUptoRow : OpenClaim := { program := "ythnaekmceakdaaa", sum := "36d4ec7ef185ca3592dcc2b79affd0416d99e996272cb7cdddb2ab249a23377f", func := "easel/easellaw08.WideKnown", spec := "wideKnown", apart := false, narrowed := true }
def WideKnownUptoSaid : Prop := wideKnownUptoRow.holds Try.pinned (OpenSpec.upto wideKnownSpec)

end Rows
end Go.Proofs.Ythnaekmceakdaaa
