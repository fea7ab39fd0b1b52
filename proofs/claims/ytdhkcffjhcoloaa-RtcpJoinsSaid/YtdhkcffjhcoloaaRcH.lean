/- rtcp: noughts up to a word; Right; a packet written. Conditions: as each says. -/
import Derived.Test.YtdhkcffjhcoloaaRcG
import Derived.Test.YtdhkcffjhcoloaaRcF
set_option linter.unusedVariables false
namespace Go.Proofs.Ytdhkcffjhcoloaa
open Go.RowKit

set_option maxHeartbeats 400000 in
theorem toWord_is (n : Nat) (w : World) (h : n ≤ 1000000000) : Calls Try.prog 81 #[.int .i64 n] w fun e w' => e = .returned (.int .i64 ((n + 3) / 4 * 4 : Nat)) ∧ w = w' := by
  go_enter Try.func81, Try.ntmps81
  go_wp2
  go_ret
  exact ⟨by go_num, rfl⟩
/-- Noughts up to a word. -/
def pad4 (l : List Nat) : List Nat := l ++ List.replicate ((l.length + 3) / 4 * 4 - l.length) 0
set_option maxRecDepth 100000 in
set_option maxHeartbeats 1000000 in
theorem noughts_is (w0 w : World) (v : Value) (out : List Nat) (hacc : Acc w0 v out w) (hl : out.length ≤ 1000000) :
    Calls Try.prog 57 #[v] w fun e w' => ∃ v', e = .returned v' ∧ Acc w0 v' (pad4 out) w' ∧ Only (fun k => v.ownBlock = some k) w w' := by
  obtain ⟨A, c, rfl⟩ := hacc.slice
  have HA := Lib.hid hacc
  clear hacc
  obtain ⟨L, hL⟩ : ∃ L, out.length = L := ⟨_, rfl⟩
  have HL := Lib.hid hL
  have HP := Lib.hid (show pad4 out = out ++ List.replicate ((L + 3) / 4 * 4 - L) 0 from by unfold pad4; rw [hL])
  rw [hL] at hl HA ⊢
  obtain ⟨m, hm⟩ : ∃ m, (L + 3) / 4 * 4 - L = m := ⟨_, rfl⟩
  rw [hm] at HP
  have s1 : IntKind.i64.wrap (((L + 3) / 4 * 4 : Nat) - (L : Int)) = (m : Int) := by rw [IntWalk.i64_in _ (by omega)]; omega
  have HS := Lib.hid (show (((L + 3) / 4 * 4 : Nat) : Int) - (L : Int) = (m : Int) from by omega)
  have hm4 : m ≤ 4 := by omega
  clear hL hm
  go_enter Try.func57, Try.ntmps57
  obtain ⟨tw, htw⟩ : ∃ tw, (L + 3) / 4 * 4 = tw := ⟨_, rfl⟩
  have HTW := Lib.hid (toWord_is L w (by omega))
  rw [htw] at s1 HTW HS
  have b1 : L ≤ tw := by omega
  have b2 : tw ≤ L + 4 := by omega
  clear htw
  go_wp2_with (first
    | (go_at_call 81; refine HTW.out.mono ?_; rintro e w1 ⟨rfl, rfl⟩)
    | (at_builtin; refine wpList_acc_noughts rfl _ _ 3 .i64 Try.underlying3 rfl HA.out rfl m (by show Value.int .i64 _ = _; rw [← HS.out]) (by rw [HL.out]; omega) ?_; intro v3 w3 hacc3 hg3))
  go_ret
  exact ⟨_, rfl, by rw [HP.out]; exact hacc3, hg3⟩

def Pkt.ok (p : Pkt) : Bool := decide (p.count ≤ 31) && (p.body.length % 4 == 0) && (p.pad % 4 == 0) && decide (p.body.length + p.pad ≤ 262140)
structure Pkt.Fit (p : Pkt) : Prop where
  count : p.count < 256
  kind : p.kind < 256
  pad : p.pad < 256
  bytes : ∀ x ∈ p.body, x < 256
set_option maxRecDepth 100000 in
set_option maxHeartbeats 2000000 in
theorem right_is (p : Pkt) (u : Value) (w : World) (hf : p.Fit) (hs : Src w u p.body) (hl : p.body.length ≤ 1000000) :
    Calls Try.prog 15 #[.agg #[.int .u8 (p.count : Nat), .int .u8 (p.kind : Nat), u, .int .u8 (p.pad : Nat)]] w fun e w' => e = .returned (.bool p.ok) ∧ Only (fun _ => False) w w' := by
  obtain ⟨A, c, rfl⟩ := hs.slice
  have HOK := Lib.hid (show p.ok = (decide (p.count ≤ 31) && (p.body.length % 4 == 0) && (p.pad % 4 == 0) && decide (p.body.length + p.pad ≤ 262140)) from rfl)
  rw [HOK.out]
  obtain ⟨h1, h2, h3, -⟩ := hf
  clear hs HOK
  generalize p.body.length = L at *
  generalize p.count = n at *
  generalize p.kind = k at *
  generalize p.pad = d at *
  have e1 : decide ((n : Int) ≤ 31) = decide (n ≤ 31) := decide_eq_decide.2 (by omega)
  have e2 : ((L : Int) % 4 == 0) = (L % 4 == 0) := by rw [Bool.eq_iff_iff, beq_iff_eq, beq_iff_eq]; omega
  have e3 : ((d : Int) % 4 == 0) = (d % 4 == 0) := by rw [Bool.eq_iff_iff, beq_iff_eq, beq_iff_eq]; omega
  have e4 : decide ((L : Int) + (d : Int) ≤ 262140) = decide (L + d ≤ 262140) := decide_eq_decide.2 (by omega)
  generalize decide (n ≤ 31) = b1 at *
  generalize (L % 4 == 0) = b2 at *
  generalize (d % 4 == 0) = b3 at *
  generalize decide (L + d ≤ 262140) = b4 at *
  cases b1 <;> cases b2 <;> cases b3 <;> cases b4
  all_goals
    go_enter Try.func15, Try.ntmps15
    go_wp2
    go_ret
    exact ⟨rfl, (Only.refl _ w).alloc _⟩

/-- A packet's bytes. -/
def Pkt.enc (p : Pkt) : List Nat :=
  [128 + p.count + (if p.pad = 0 then 0 else 32), p.kind, (p.body.length + p.pad) / 4 / 256, (p.body.length + p.pad) / 4 % 256] ++ p.body ++ (if p.pad = 0 then [] else List.replicate (p.pad - 1) 0 ++ [p.pad])
theorem u8_head (n : Nat) (h : n ≤ 31) : bits .or .u8 128 (n : Int) = ((128 + n : Nat) : Int) := by
  have : ∀ i : Fin 32, bits .or .u8 128 ((i.val : Nat) : Int) = ((128 + i.val : Nat) : Int) := by decide +kernel
  exact this ⟨n, by omega⟩
theorem u8_head32 (n : Nat) (h : n ≤ 31) : bits .or .u8 (((128 + n : Nat) : Int)) 32 = ((128 + n + 32 : Nat) : Int) := by
  have : ∀ i : Fin 32, bits .or .u8 ((128 + i.val : Nat) : Int) 32 = ((128 + i.val + 32 : Nat) : Int) := by decide +kernel
  exact this ⟨n, by omega⟩
end Go.Proofs.Ytdhkcffjhcoloaa
