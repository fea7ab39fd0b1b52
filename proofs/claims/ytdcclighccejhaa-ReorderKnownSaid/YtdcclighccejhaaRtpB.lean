/- Right, Size, and the first two bytes of a packet. Conditions: as each says. -/
import Derived.Test.YtdcclighccejhaaRtpA
set_option linter.unusedVariables false
namespace Go.Proofs.Ytdcclighccejhaa
open Go.RowKit

/-- A packet, plainly. -/
structure Pk where
  marker : Bool
  ty : Nat
  seq : Nat
  time : Nat
  ssrc : Nat
  csrc : List Nat
  hasExt : Bool
  profile : Nat
  ext : List Nat
  pay : List Nat
  pad : Nat

/-- Its value, with its three rows. -/
def Pk.val (p : Pk) (vc ve vp : Value) : Value := .agg #[.bool p.marker, .int .u8 p.ty, .int .u16 p.seq, .int .u32 p.time, .int .u32 p.ssrc, vc, .bool p.hasExt, .int .u16 p.profile, ve, vp, .int .u8 p.pad]

/-- Its numbers are of their kinds. -/
structure Pk.Fit (p : Pk) : Prop where
  ty : p.ty < 256
  seq : p.seq < 65536
  time : p.time < 4294967296
  ssrc : p.ssrc < 4294967296
  csrc : ∀ x ∈ p.csrc, x < 4294967296
  profile : p.profile < 65536
  ext : ∀ x ∈ p.ext, x < 256
  pay : ∀ x ∈ p.pay, x < 256
  pad : p.pad < 256

def Pk.right (p : Pk) : Bool := decide (p.ty ≤ 127 ∧ p.csrc.length ≤ 15 ∧ p.ext.length % 4 = 0 ∧ p.ext.length ≤ 262140 ∧ (p.hasExt = true ∨ (p.profile = 0 ∧ p.ext.length = 0)))
def Pk.size (p : Pk) : Nat := 12 + 4 * p.csrc.length + p.pay.length + p.pad + (if p.hasExt then 4 + p.ext.length else 0)

/-- The first byte, of a packet of at most 15 contributors; the second. -/
def Pk.first (p : Pk) : Nat := 128 + p.csrc.length + (if p.pad = 0 then 0 else 32) + (if p.hasExt then 16 else 0)
def Pk.second (p : Pk) : Nat := p.ty + (if p.marker then 128 else 0)

theorem first_bits (l : Nat) (h : l ≤ 15) : bits .or .u8 (128 + (l : Int)) 32 = 128 + (l : Int) + 32 ∧ bits .or .u8 (128 + (l : Int)) 16 = 128 + (l : Int) + 16 ∧ bits .or .u8 (128 + (l : Int) + 32) 16 = 128 + (l : Int) + 32 + 16 := by
  have : l = 0 ∨ l = 1 ∨ l = 2 ∨ l = 3 ∨ l = 4 ∨ l = 5 ∨ l = 6 ∨ l = 7 ∨ l = 8 ∨ l = 9 ∨ l = 10 ∨ l = 11 ∨ l = 12 ∨ l = 13 ∨ l = 14 ∨ l = 15 := by omega
  rcases this with rfl | rfl | rfl | rfl | rfl | rfl | rfl | rfl | rfl | rfl | rfl | rfl | rfl | rfl | rfl | rfl <;> decide

theorem second_bits (t : Nat) (h : t ≤ 127) : bits .or .u8 128 (t : Int) = ((t + 128 : Nat) : Int) := by
  have e : (128 : Int) = ((1 * 128 : Nat) : Int) := rfl
  rw [e, u8_or_nat _ _ (by decide) (by omega), or_add 7 128 1 t (by decide) (by omega)]
  congr 1
  omega

end Go.Proofs.Ytdcclighccejhaa
