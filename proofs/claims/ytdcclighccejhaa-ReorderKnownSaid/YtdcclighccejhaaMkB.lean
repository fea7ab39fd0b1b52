/- mark: Put, parseFirst, Parse. Conditions: as each says. -/
import Derived.Test.YtdcclighccejhaaMkA
import Derived.Laws.OwnMore
set_option linter.unusedVariables false
namespace Go.Proofs.Ytdcclighccejhaa
open Go.RowKit

/-- Bytes are answered in new memory, with a number. -/
def PutB (r : Nat) (out : List Nat) (w : World) (e : Ending) (w' : World) : Prop :=
  ∃ v, e = .returned (.tuple #[v, .int .i64 (r : Nat)]) ∧ w'.ownsRow w.heap.size 5 1 v out.length (cellsOf out) ∧ Only (fun _ => False) w w'
def Mk.bad (m : Mk) : Nat := if m.right then 0 else 40
def Mk.out (m : Mk) : List Nat := if m.right then m.enc else []
theorem own_lit (w : World) (bs : List Nat) (B : Nat) (hB : B ≤ w.heap.size) (hl : bs.length ≤ 1000000) : (w.alloc (.cells (cellsOf bs).toArray 5)).ownsRow B 5 1 (.slice (some ⟨w.heap.size, 0, none⟩) bs.length bs.length) bs.length (cellsOf bs) := by
  have h := World.ownsRow_lit (base := B) (e := 5) (size := 1) w (cellsOf bs).toArray bs.length hB (by unfold maxLen; omega) (by simp [length_cellsOf])
  simpa using h

theorem mk_hasb (b : Nat) (h : b < 256) : (bits .and .u8 (b : Int) 128 != 0) = hasb b 128 ∧ (bits .and .u8 (b : Int) 64 != 0) = hasb b 64 ∧ (bits .and .u8 (b : Int) 32 != 0) = hasb b 32 ∧ (bits .and .u8 (b : Int) 16 != 0) = hasb b 16 ∧ (bits .and .u8 (b : Int) 8 != 0) = hasb b 8 ∧ bits .and .u8 (b : Int) 7 = ((b % 8 : Nat) : Int) := by
  have : ∀ i : Fin 256, (bits .and .u8 ((i.val : Nat) : Int) 128 != 0) = hasb i.val 128 ∧ (bits .and .u8 ((i.val : Nat) : Int) 64 != 0) = hasb i.val 64 ∧ (bits .and .u8 ((i.val : Nat) : Int) 32 != 0) = hasb i.val 32 ∧ (bits .and .u8 ((i.val : Nat) : Int) 16 != 0) = hasb i.val 16 ∧ (bits .and .u8 ((i.val : Nat) : Int) 8 != 0) = hasb i.val 8 ∧ bits .and .u8 ((i.val : Nat) : Int) 7 = ((i.val % 8 : Nat) : Int) := by decide +kernel
  exact this ⟨b, h⟩
theorem mkFirst_right (b : Nat) : (mkFirst b).right = decide (b % 16 = 0) := by
  unfold mkFirst Mk.right hasb
  rw [Bool.eq_iff_iff]
  simp
  omega
def MkParA (bs : List Nat) (w : World) (e : Ending) (w' : World) : Prop := e = .returned (.tuple #[.agg (mkOf bs).cells, .int .i64 (mkErr bs : Nat)]) ∧ Only (fun _ => False) w w'
/-- What three bytes tell. -/
def mkThree (b x y : Nat) : Mk := ⟨hasb b 128, hasb b 64, hasb b 32, hasb b 16, true, hasb b 8, b % 8, x, y⟩
theorem mkThree_right (b x y : Nat) : (mkThree b x y).right = true := by
  unfold mkThree Mk.right
  simp
  omega
end Go.Proofs.Ytdcclighccejhaa
