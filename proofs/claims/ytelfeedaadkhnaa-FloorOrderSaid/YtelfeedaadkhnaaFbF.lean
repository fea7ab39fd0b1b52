/- math/bits.Len64. Conditions: as it says. -/
import Derived.Test.YtelfeedaadkhnaaChecked
import Derived.Lib.Strings
import Derived.Lib.Slices
import Derived.Lib.Small
import Derived.Lib.Walk
import Derived.Lib.BitFns
set_option linter.unusedVariables false
namespace Go.Proofs.Ytelfeedaadkhnaa

theorem shut (s d x : Nat) (S z : Int) (hS : S = (s : Int)) (hd : 2 ^ s = d) (hs : s ≤ 56) (hx : x < 18446744073709551616) (hz : z = ((x / d : Nat) : Int)) (hq : x / d < 256) (h1 : d ≤ x) :
    (S + ((Lib.len8 (z % 256) + 9223372036854775808) % 18446744073709551616 - 9223372036854775808) + 9223372036854775808) % 18446744073709551616 - 9223372036854775808 = ((Lib.bitLen x : Nat) : Int) := by
  have e := Lib.bitLen_shift s x (by rw [hd]; exact h1) hx
  rw [hd] at e
  subst hz hS
  generalize x / d = q at *
  have l := Lib.bitLen_le8' (q : Int) (by omega) (by omega)
  rw [Int.toNat_natCast] at l
  rw [Int.emod_eq_of_lt (a := (q : Int)) (by omega) (by omega), Lib.len8_of _ (by omega) (by omega), Int.toNat_natCast, e]
  generalize Lib.bitLen q = b at *
  omega
theorem shut0 (x : Nat) (hq : x < 256) : (Lib.len8 ((x : Int) % 256) + 9223372036854775808) % 18446744073709551616 - 9223372036854775808 = ((Lib.bitLen x : Nat) : Int) := by
  have l := Lib.bitLen_le8' (x : Int) (by omega) (by omega)
  rw [Int.toNat_natCast] at l
  rw [Int.emod_eq_of_lt (a := (x : Int)) (by omega) (by omega), Lib.len8_of _ (by omega) (by omega), Int.toNat_natCast]
  generalize Lib.bitLen x = b at *
  omega

set_option maxRecDepth 100000 in
set_option maxHeartbeats 2000000 in
theorem len64_is (x : Nat) (w : World) (hx : x < 18446744073709551616) :
    Calls Try.prog 76 #[.int .u64 x] w fun e w' => e = .returned (.int .i64 (Lib.bitLen x : Nat)) ∧ w' = w := by
  go_enter Try.func76, Try.ntmps76
  go_wp2
  all_goals (go_ret; refine ⟨congrArg Ending.returned (congrArg (Value.int IntKind.i64) ?_), rfl⟩)
  · exact shut 56 72057594037927936 x _ _ rfl rfl (by omega) hx (by omega) (by omega) (by omega)
  · exact shut 48 281474976710656 x _ _ rfl rfl (by omega) hx (by omega) (by omega) (by omega)
  · exact shut 40 1099511627776 x _ _ rfl rfl (by omega) hx (by omega) (by omega) (by omega)
  · exact shut 32 4294967296 x _ _ rfl rfl (by omega) hx (by omega) (by omega) (by omega)
  · exact shut 24 16777216 x _ _ rfl rfl (by omega) hx (by omega) (by omega) (by omega)
  · exact shut 16 65536 x _ _ rfl rfl (by omega) hx (by omega) (by omega) (by omega)
  · exact shut 8 256 x _ _ rfl rfl (by omega) hx (by omega) (by omega) (by omega)
  · exact shut0 x (by omega)
end Go.Proofs.Ytelfeedaadkhnaa
