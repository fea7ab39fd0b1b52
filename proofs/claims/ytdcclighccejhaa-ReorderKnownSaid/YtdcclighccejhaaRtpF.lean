/- Contributors, as Parse takes them. Conditions: as each says. -/
import Derived.Test.YtdcclighccejhaaRtpE
set_option linter.unusedVariables false
namespace Go.Proofs.Ytdcclighccejhaa
open Go.RowKit

/-- Numbers of 32 digits as cells. -/
def cells32 (xs : List Nat) : List Value := xs.map fun (x : Nat) => Value.int .u32 (x : Int)
theorem length_cells32 (xs : List Nat) : (cells32 xs).length = xs.length := by simp [cells32]
theorem cells32_append (a b : List Nat) : cells32 (a ++ b) = cells32 a ++ cells32 b := by simp [cells32]
/-- The first so many contributors. -/
def csrcOf (bs : List Nat) : Nat → List Nat
  | 0 => []
  | n + 1 => csrcOf bs n ++ [be ((bs.drop (4 * n)).take 4)]
theorem csrcOf_length (bs : List Nat) (n : Nat) : (csrcOf bs n).length = n := by
  induction n with
  | zero => rfl
  | succ n ih => simp [csrcOf, ih]
theorem Try.infoU32 : (Try.prog.info? 38).map (fun i => (i.zero, i.size, i.bytes)) = some (some (.int .u32 0), 1, 4) := by kernel_rfl

/-- Contributors, and what stands behind them. -/
def GotCsrc (w : World) (bs : List Nat) (n : Nat) (e : Ending) (w' : World) : Prop :=
  ∃ vc vb, e = .returned (.tuple #[vc, vb, .bool true]) ∧ w'.ownsRow w.heap.size 38 1 vc n (cells32 (csrcOf bs n)) ∧ Src w vb (bs.drop (4 * n)) ∧ Pure w w'

theorem _root_.Go.World.ownsRow.drewN {w : World} {B n : Nat} {t : TypeId} {v : Value} {xs : List Value} (h : w.ownsRow B t 1 v n xs) (m : Nat) : (w.drewN m).ownsRow B t 1 v n xs := h
theorem csrc_only {w wr w1 w2 : World} {v : Value} {n : Nat} {t : TypeId} {xs : List Value} {o : Obj} (h : Pure w wr) (h1 : Pure wr w1) (hw : wr.ownsRow w.heap.size t 1 v n xs) (hg : (w1.alloc o).grownBy w2 v.ownBlock) : Pure w w2 := by
  refine (h.trans h1 (fun _ _ e => e)).trans (T := fun k => v.ownBlock = some k) (((Only.refl _ w1).alloc _).grown hg (fun i e _ => e)) ?_
  intro i hi e
  have := (hw.lt i e).1
  omega

end Go.Proofs.Ytdcclighccejhaa
