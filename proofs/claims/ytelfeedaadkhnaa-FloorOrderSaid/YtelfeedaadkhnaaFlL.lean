/- floor: a floor that is not there; the statements' does, by its call. Conditions: as each says. -/
import Derived.Test.YtelfeedaadkhnaaFlK
set_option linter.unusedVariables false
set_option linter.unusedSimpArgs false
namespace Go.Proofs.Ytelfeedaadkhnaa
open Go Go.RowKit

set_option maxRecDepth 20000 in
set_option maxHeartbeats 1000000 in
theorem join_nil (n : Nat) (mod : Bool) (w : World) : Calls Try.prog 24 #[.pointer none, .int .u32 (n : Int), .bool mod] w fun e w' => e = .returned (.int .i64 1) ∧ w = w' := by
  go_enter Try.func24, Try.ntmps24
  go_wp2_with fail
  refine (there_nil _).mono ?_
  rintro e w1 ⟨rfl, rfl⟩
  go_wp2
  go_ret
  exact ⟨rfl, rfl⟩
set_option maxRecDepth 20000 in
set_option maxHeartbeats 1000000 in
theorem leave_nil (n now : Nat) (w : World) : Calls Try.prog 35 #[.pointer none, .int .u32 (n : Int), .int .u64 (now : Int)] w fun e w' => e = .returned (.int .i64 1) ∧ w = w' := by
  go_enter Try.func35, Try.ntmps35
  go_wp2_with fail
  refine (there_nil _).mono ?_
  rintro e w1 ⟨rfl, rfl⟩
  go_wp2
  go_ret
  exact ⟨rfl, rfl⟩
set_option maxRecDepth 20000 in
set_option maxHeartbeats 1000000 in
theorem request_nil (n now : Nat) (w : World) : Calls Try.prog 25 #[.pointer none, .int .u32 (n : Int), .int .u64 (now : Int)] w fun e w' => e = .returned (.int .i64 1) ∧ w = w' := by
  go_enter Try.func25, Try.ntmps25
  go_wp2_with fail
  refine (there_nil _).mono ?_
  rintro e w1 ⟨rfl, rfl⟩
  go_wp2
  go_ret
  exact ⟨rfl, rfl⟩
set_option maxRecDepth 20000 in
set_option maxHeartbeats 1000000 in
theorem release_nil (n now : Nat) (w : World) : Calls Try.prog 36 #[.pointer none, .int .u32 (n : Int), .int .u64 (now : Int)] w fun e w' => e = .returned (.int .i64 1) ∧ w = w' := by
  go_enter Try.func36, Try.ntmps36
  go_wp2_with fail
  refine (there_nil _).mono ?_
  rintro e w1 ⟨rfl, rfl⟩
  go_wp2
  go_ret
  exact ⟨rfl, rfl⟩
set_option maxRecDepth 20000 in
set_option maxHeartbeats 1000000 in
theorem revoke_nil (k n now : Nat) (w : World) : Calls Try.prog 26 #[.pointer none, .int .u32 (k : Int), .int .u32 (n : Int), .int .u64 (now : Int)] w fun e w' => e = .returned (.int .i64 1) ∧ w = w' := by
  go_enter Try.func26, Try.ntmps26
  go_wp2_with fail
  refine (there_nil _).mono ?_
  rintro e w1 ⟨rfl, rfl⟩
  go_wp2
  go_ret
  exact ⟨rfl, rfl⟩
set_option maxRecDepth 20000 in
set_option maxHeartbeats 1000000 in
theorem heard_nil (n now : Nat) (key : Bool) (w : World) : Calls Try.prog 20 #[.pointer none, .int .u32 (n : Int), .int .u64 (now : Int), .bool key] w fun e w' => e = .returned (.bool false) ∧ w = w' := by
  go_enter Try.func20, Try.ntmps20
  go_wp2_with fail
  refine (there_nil _).mono ?_
  rintro e w1 ⟨rfl, rfl⟩
  go_wp2
  go_ret
  exact ⟨rfl, rfl⟩
set_option maxRecDepth 20000 in
set_option maxHeartbeats 1000000 in
theorem pending_nil (w : World) : Calls Try.prog 22 #[.pointer none] w fun e w' => e = .returned (.bool false) ∧ w = w' := by
  go_enter Try.func22, Try.ntmps22
  go_wp2_with fail
  refine (there_nil _).mono ?_
  rintro e w1 ⟨rfl, rfl⟩
  go_wp2
  go_ret
  exact ⟨rfl, rfl⟩
set_option maxRecDepth 20000 in
set_option maxHeartbeats 1000000 in
theorem waiting_nil (w : World) : Calls Try.prog 16 #[.pointer none] w fun e w' => e = .returned (.slice none 0 0) ∧ w = w' := by
  go_enter Try.func16, Try.ntmps16
  go_wp2_with fail
  refine (there_nil _).mono ?_
  rintro e w1 ⟨rfl, rfl⟩
  go_wp2
  go_ret
  exact ⟨rfl, rfl⟩
set_option maxRecDepth 20000 in
set_option maxHeartbeats 1000000 in
theorem members_nil (w : World) : Calls Try.prog 17 #[.pointer none] w fun e w' => e = .returned (.slice none 0 0) ∧ w = w' := by
  go_enter Try.func17, Try.ntmps17
  go_wp2_with fail
  refine (there_nil _).mono ?_
  rintro e w1 ⟨rfl, rfl⟩
  go_wp2
  go_ret
  exact ⟨rfl, rfl⟩
set_option maxRecDepth 20000 in
set_option maxHeartbeats 1000000 in
theorem grants_nil (w : World) : Calls Try.prog 14 #[.pointer none] w fun e w' => e = .returned (.slice none 0 0) ∧ w = w' := by
  go_enter Try.func14, Try.ntmps14
  go_wp2_with fail
  refine (there_nil _).mono ?_
  rintro e w1 ⟨rfl, rfl⟩
  go_wp2
  go_ret
  exact ⟨rfl, rfl⟩
set_option maxRecDepth 20000 in
set_option maxHeartbeats 1000000 in
theorem answer_is (b : Bool) (w : World) : Calls Try.prog 33 #[.bool b] w fun e w' => e = .returned (.int .i64 (if b then 1001 else 1000)) ∧ w = w' := by
  cases b
  · go_enter Try.func33, Try.ntmps33
    go_wp2
    go_ret
    exact ⟨rfl, rfl⟩
  · go_enter Try.func33, Try.ntmps33
    go_wp2
    go_ret
    exact ⟨rfl, rfl⟩
/-- A call, as a value. -/
abbrev actV (d : Int) (who other : Nat) (flag : Bool) (by_ : Nat) : Value := .agg #[.int .i64 d, .int .u32 (who : Int), .int .u32 (other : Int), .bool flag, .int .u8 (by_ : Int)]
/-- The contract of the call that a number tells, where it answers an error. -/
def ActCall (vf : Value) (who other : Nat) (flag : Bool) (now : Nat) (w : World) (R : Value → World → Prop) : Nat → Prop
  | 0 => Calls Try.prog 24 #[vf, .int .u32 (who : Int), .bool flag] w fun e w' => ∃ v, e = .returned v ∧ R v w'
  | 1 => Calls Try.prog 35 #[vf, .int .u32 (who : Int), .int .u64 (now : Int)] w fun e w' => ∃ v, e = .returned v ∧ R v w'
  | 2 => Calls Try.prog 25 #[vf, .int .u32 (who : Int), .int .u64 (now : Int)] w fun e w' => ∃ v, e = .returned v ∧ R v w'
  | 3 => Calls Try.prog 25 #[vf, .int .u32 (who : Int), .int .u64 (now : Int)] w fun e w' => ∃ v, e = .returned v ∧ R v w'
  | 4 => Calls Try.prog 36 #[vf, .int .u32 (who : Int), .int .u64 (now : Int)] w fun e w' => ∃ v, e = .returned v ∧ R v w'
  | 5 => Calls Try.prog 26 #[vf, .int .u32 (who : Int), .int .u32 (other : Int), .int .u64 (now : Int)] w fun e w' => ∃ v, e = .returned v ∧ R v w'
  | 6 => Calls Try.prog 20 #[vf, .int .u32 (who : Int), .int .u64 (now : Int), .bool flag] w fun e w' => ∃ b : Bool, e = .returned (.bool b) ∧ R (.int .i64 (if b then 1001 else 1000)) w'
  | _ => Calls Try.prog 21 #[vf, .int .u64 (now : Int)] w fun e w' => ∃ b : Bool, e = .returned (.bool b) ∧ R (.int .i64 (if b then 1001 else 1000)) w'
set_option maxRecDepth 20000 in
set_option maxHeartbeats 4000000 in
theorem does_go (vf : Value) (d : Int) (who other now by_ : Nat) (flag : Bool) (w : World) (R : Value → World → Prop) (p : Nat) (hd : -9223372036854775808 ≤ d ∧ d ≤ 9223372036854775807) (hp : d % 9 = (p : Int))
    (H : ActCall vf who other flag now (w.alloc (.cells #[.int .i64 d, .int .u32 (who : Int), .int .u32 (other : Int), .bool flag, .int .u8 (by_ : Int)] 40)) R p) :
    Calls Try.prog 11 #[vf, actV d who other flag by_, .int .u64 (now : Int)] w fun e w' => ∃ v, e = .returned v ∧ R v w' := by
  have HP := Lib.hid (fun w => pick_is d 9 w hd (by decide) (by decide))
  rw [hp] at HP
  have hp9 : p < 9 := by omega
  have HH := Lib.hid H
  clear H hd hp
  have : p = 0 ∨ p = 1 ∨ p = 2 ∨ p = 3 ∨ p = 4 ∨ p = 5 ∨ p = 6 ∨ p = 7 ∨ p = 8 := by omega
  go_enter Try.func11, Try.ntmps11
  go_wp2_with fail
  refine (HP.out _).mono ?_
  rintro e w1 ⟨rfl, rfl⟩
  rcases this with rfl | rfl | rfl | rfl | rfl | rfl | rfl | rfl | rfl
  · go_wp2_with fail
    refine Calls.mono HH.out ?_
    rintro e w1 ⟨v, rfl, hR⟩
    have HR := Lib.hid hR
    clear hR HH
    go_wp2
    go_ret
    exact ⟨_, rfl, HR.out⟩
  · go_wp2_with fail
    refine Calls.mono HH.out ?_
    rintro e w1 ⟨v, rfl, hR⟩
    have HR := Lib.hid hR
    clear hR HH
    go_wp2
    go_ret
    exact ⟨_, rfl, HR.out⟩
  · go_wp2_with fail
    refine Calls.mono HH.out ?_
    rintro e w1 ⟨v, rfl, hR⟩
    have HR := Lib.hid hR
    clear hR HH
    go_wp2
    go_ret
    exact ⟨_, rfl, HR.out⟩
  · go_wp2_with fail
    refine Calls.mono HH.out ?_
    rintro e w1 ⟨v, rfl, hR⟩
    have HR := Lib.hid hR
    clear hR HH
    go_wp2
    go_ret
    exact ⟨_, rfl, HR.out⟩
  · go_wp2_with fail
    refine Calls.mono HH.out ?_
    rintro e w1 ⟨v, rfl, hR⟩
    have HR := Lib.hid hR
    clear hR HH
    go_wp2
    go_ret
    exact ⟨_, rfl, HR.out⟩
  · go_wp2_with fail
    refine Calls.mono HH.out ?_
    rintro e w1 ⟨v, rfl, hR⟩
    have HR := Lib.hid hR
    clear hR HH
    go_wp2
    go_ret
    exact ⟨_, rfl, HR.out⟩
  · go_wp2_with fail
    refine Calls.mono HH.out ?_
    rintro e w1 ⟨v, rfl, hR⟩
    have HR := Lib.hid hR
    clear hR HH
    go_wp2_with fail
    refine (answer_is v _).mono ?_
    rintro e w2 ⟨rfl, rfl⟩
    cases v
    · go_wp2
      go_ret
      exact ⟨_, rfl, HR.out⟩
    · go_wp2
      go_ret
      exact ⟨_, rfl, HR.out⟩
  · go_wp2_with fail
    refine Calls.mono HH.out ?_
    rintro e w1 ⟨v, rfl, hR⟩
    have HR := Lib.hid hR
    clear hR HH
    go_wp2_with fail
    refine (answer_is v _).mono ?_
    rintro e w2 ⟨rfl, rfl⟩
    cases v
    · go_wp2
      go_ret
      exact ⟨_, rfl, HR.out⟩
    · go_wp2
      go_ret
      exact ⟨_, rfl, HR.out⟩
  · go_wp2_with fail
    refine Calls.mono HH.out ?_
    rintro e w1 ⟨v, rfl, hR⟩
    have HR := Lib.hid hR
    clear hR HH
    go_wp2_with fail
    refine (answer_is v _).mono ?_
    rintro e w2 ⟨rfl, rfl⟩
    cases v
    · go_wp2
      go_ret
      exact ⟨_, rfl, HR.out⟩
    · go_wp2
      go_ret
      exact ⟨_, rfl, HR.out⟩
end Go.Proofs.Ytelfeedaadkhnaa
