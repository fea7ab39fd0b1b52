/- The small calls of package rtp: numbers of bytes, and bytes of numbers. Conditions: as each says. -/
import Derived.Test.YtdcclighccejhaaBase
import Derived.Laws.BitsAllLaws
import Derived.Laws.Rows
set_option linter.unusedVariables false
namespace Go.Proofs.Ytdcclighccejhaa
open Go.RowKit

/-- What a call leaves that writes nothing that was there. -/
abbrev Pure (w w' : World) : Prop := Only (fun _ => False) w w'

/-- The number of bytes, the greatest first. -/
def be (bs : List Nat) : Nat := bs.foldl (fun n x => n * 256 + x) 0
theorem be2 (x y : Nat) : be [x, y] = x * 256 + y := by simp [be]
theorem be4 (x y z t : Nat) : be [x, y, z, t] = x * 16777216 + y * 65536 + z * 256 + t := by simp [be]; omega
theorem or_add (k m a b : Nat) (hm : m = 2 ^ k) (h : b < m) : a * m ||| b = a * m + b := by
  subst hm
  rw [Nat.mul_comm]
  exact (Nat.two_pow_add_eq_or_of_lt h a).symm

theorem number_eq (a b c d : Nat) (ha : a < 256) (hb : b < 256) (hc : c < 256) (hd : d < 256) :
    bits .or .u32 (bits .or .u32 (bits .or .u32 ((a : Int) * 16777216) ((b : Int) * 65536)) ((c : Int) * 256)) (d : Int) = ((be [a, b, c, d] : Nat) : Int) := by
  rw [be4]
  have e1 : (a : Int) * 16777216 = ((a * 16777216 : Nat) : Int) := by omega
  have e2 : (b : Int) * 65536 = ((b * 65536 : Nat) : Int) := by omega
  have e3 : (c : Int) * 256 = ((c * 256 : Nat) : Int) := by omega
  rw [e1, e2, e3, u32_or_nat _ _ (by omega) (by omega), or_add 24 16777216 a _ (by decide) (by omega)]
  have e4 : a * 16777216 + b * 65536 = (a * 256 + b) * 65536 := by omega
  rw [e4, u32_or_nat _ _ (by omega) (by omega), or_add 16 65536 _ _ (by decide) (by omega)]
  clear e1 e2 e3 e4
  have e6 : ((a * 256 + b) * 256 + c) * 256 ||| d = a * 16777216 + b * 65536 + c * 256 + d := by
    rw [or_add 8 256 _ _ (by decide) (by omega)]
    omega
  have E6 := Lib.hid e6
  clear e6
  have e5 : (a * 256 + b) * 65536 + c * 256 = ((a * 256 + b) * 256 + c) * 256 := by omega
  rw [e5, u32_or_nat _ _ (by omega) (by omega), E6.out]
  clear E6 e5
  omega

/-- The bytes of a number, four of them. -/
def b4 (n : Nat) : List Nat := [n / 16777216 % 256, n / 65536 % 256, n / 256 % 256, n % 256]

end Go.Proofs.Ytdcclighccejhaa
