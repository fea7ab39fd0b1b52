/- Parse: what bytes write, plainly; its short ways. Conditions: as each says. -/
import Derived.Test.YtdcclighccejhaaRtpF
import Derived.Deep.DeepCutAuto
import Derived.Outline
set_option linter.unusedVariables false
namespace Go.Proofs.Ytdcclighccejhaa
open Go.RowKit

theorem u8_and15 (x : Nat) (h : x < 256) : bits .and .u8 (x : Int) 15 = ((x % 16 : Nat) : Int) := by
  have : ∀ i : Fin 256, bits .and .u8 ((i.val : Nat) : Int) 15 = ((i.val % 16 : Nat) : Int) := by decide +kernel
  exact this ⟨x, h⟩
theorem u8_and127 (x : Nat) (h : x < 256) : bits .and .u8 (x : Int) 127 = ((x % 128 : Nat) : Int) := by
  have : ∀ i : Fin 256, bits .and .u8 ((i.val : Nat) : Int) 127 = ((i.val % 128 : Nat) : Int) := by decide +kernel
  exact this ⟨x, h⟩
theorem u8_and128 (x : Nat) (h : x < 256) : (bits .and .u8 (x : Int) 128 != 0) = decide (128 ≤ x) := by
  have : ∀ i : Fin 256, (bits .and .u8 ((i.val : Nat) : Int) 128 != 0) = decide (128 ≤ i.val) := by decide +kernel
  exact this ⟨x, h⟩
theorem u8_and16 (x : Nat) (h : x < 256) : (bits .and .u8 (x : Int) 16 != 0) = decide (x / 16 % 2 = 1) := by
  have : ∀ i : Fin 256, (bits .and .u8 ((i.val : Nat) : Int) 16 != 0) = decide (i.val / 16 % 2 = 1) := by decide +kernel
  exact this ⟨x, h⟩
theorem u8_and32 (x : Nat) (h : x < 256) : (bits .and .u8 (x : Int) 32 != 0) = decide (x / 32 % 2 = 1) := by
  have : ∀ i : Fin 256, (bits .and .u8 ((i.val : Nat) : Int) 32 != 0) = decide (i.val / 32 % 2 = 1) := by decide +kernel
  exact this ⟨x, h⟩

/-- What a packet's bytes tell: contributors, whether there is an extension, padding; what stands behind each. -/
def b0 (bs : List Nat) : Nat := bs.getD 0 0
def many (bs : List Nat) : Nat := b0 bs % 16
def hasX (bs : List Nat) : Bool := decide (b0 bs / 16 % 2 = 1)
def hasP (bs : List Nat) : Bool := decide (b0 bs / 32 % 2 = 1)
def rest1 (bs : List Nat) : List Nat := (bs.drop 12).drop (4 * many bs)
def extBad (bs : List Nat) : Bool := hasX bs && (decide ((rest1 bs).length < 4) || decide ((rest1 bs).length < extEnd (rest1 bs)))
def rest2 (bs : List Nat) : List Nat := if hasX bs then (rest1 bs).drop (extEnd (rest1 bs)) else rest1 bs
def padBad (bs : List Nat) : Bool := hasP bs && !decide (0 < lastOf (rest2 bs) ∧ lastOf (rest2 bs) ≤ (rest2 bs).length)
def padN (bs : List Nat) : Nat := if hasP bs then lastOf (rest2 bs) else 0
/-- The error that bytes tell, 0 if they write a packet. -/
def parseErr (bs : List Nat) : Nat := if bs.length < 12 then 10 else if b0 bs / 64 ≠ 2 then 20 else if (bs.drop 12).length < 4 * many bs then 10 else if extBad bs then 10 else if padBad bs then 21 else 0
/-- The packet that bytes write. -/
def parsed (bs : List Nat) : Pk :=
  { marker := decide (128 ≤ bs.getD 1 0), ty := bs.getD 1 0 % 128, seq := be ((bs.drop 2).take 2), time := be ((bs.drop 4).take 4), ssrc := be ((bs.drop 8).take 4),
    csrc := csrcOf (bs.drop 12) (many bs), hasExt := hasX bs, profile := if hasX bs then be ((rest1 bs).take 2) else 0,
    ext := if hasX bs then ((rest1 bs).drop 4).take (extEnd (rest1 bs) - 4) else [], pay := (rest2 bs).take ((rest2 bs).length - padN bs), pad := padN bs }
def Pk.zero : Pk := ⟨false, 0, 0, 0, 0, [], false, 0, [], [], 0⟩

/-- What Parse answers. -/
def GotPk (w : World) (bs : List Nat) (e : Ending) (w' : World) : Prop :=
  Pure w w' ∧ ((parseErr bs ≠ 0 ∧ e = .returned (.tuple #[Pk.zero.val (.slice none 0 0) (.slice none 0 0) (.slice none 0 0), .int .i64 (parseErr bs : Nat)])) ∨
    (parseErr bs = 0 ∧ ∃ vc ve vp, e = .returned (.tuple #[(parsed bs).val vc ve vp, .int .i64 0]) ∧ w'.ownsRow w.heap.size 38 1 vc (parsed bs).csrc.length (cells32 (parsed bs).csrc) ∧
      w'.ownsRow w.heap.size 5 1 ve (parsed bs).ext.length (cellsOf (parsed bs).ext) ∧ w'.ownsRow w.heap.size 5 1 vp (parsed bs).pay.length (cellsOf (parsed bs).pay)))

end Go.Proofs.Ytdcclighccejhaa
