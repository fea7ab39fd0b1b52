/- Right, Size, and the first two bytes of a packet. Conditions: as each says. -/
import Derived.Test.YtcgfmjdlningpaaRtpA
set_option linter.unusedVariables false
namespace Go.Proofs.Ytcgfmjdlningpaa
open Go.RowKit

/-- A packet, plainly. -/
structure Pk where
  marker : Bool
  ty : Nat
  seq : Nat
  time : Nat
  ssrc : Nat
  csrc : List Nat
  hasExt : Bool
  profile : Nat
  ext : List Nat
  pay : List Nat
  pad : Nat

/-- Its value, with its three rows. -/
def Pk.val (p : Pk) (vc ve vp : Value) : Value := .agg #[.bool p.marker, .int .u8 p.ty, .int .u16 p.seq, .int .u32 p.time, .int .u32 p.ssrc, vc, .bool p.hasExt, .int .u16 p.profile, ve, vp, .int .u8 p.pad]

/-- Its numbers are of their kinds. -/
structure Pk.Fit (p : Pk) : Prop where
  ty : p.ty < 256
  seq : p.seq < 65536
  time : p.time < 4294967296
  ssrc : p.ssrc < 4294967296
  csrc : ∀ x ∈ p.csrc, x < 4294967296
  profile : p.profile < 65536
  ext : ∀ x ∈ p.ext, x < 256
  pay : ∀ x ∈ p.pay, x < 256
  pad : p.pad < 256

def Pk.right (p : Pk) : Bool := decide (p.ty ≤ 127 ∧ p.csrc.length ≤ 15 ∧ p.ext.length % 4 = 0 ∧ p.ext.length ≤ 262140 ∧ (p.hasExt = true ∨ (p.profile = 0 ∧ p.ext.length = 0)))
def Pk.size (p : Pk) : Nat := 12 + 4 * p.csrc.length + p.pay.length + p.pad + (if p.hasExt then 4 + p.ext.length else 0)

set_option maxRecDepth 100000 in
set_option maxHeartbeats 1000000 in
theorem right_is (p : Pk) (Ac Ae Ap : Option Addr) (cc ce cp : Nat) (w : World) (hc : p.csrc.length ≤ 140737488355328) (he : p.ext.length ≤ 140737488355328) :
    Calls Try.prog 82 #[p.val (.slice Ac p.csrc.length cc) (.slice Ae p.ext.length ce) (.slice Ap p.pay.length cp)] w fun e w' => e = .returned (.bool p.right) ∧ Pure w w' := by
  obtain ⟨m, ty, sq, tm, ss, cs, hx, pr, ex, py, pd⟩ := p
  have hr : Pk.right ⟨m, ty, sq, tm, ss, cs, hx, pr, ex, py, pd⟩ = (decide (ty ≤ 127) && decide (cs.length ≤ 15) && decide (ex.length % 4 = 0) && decide (ex.length ≤ 262140) && (hx || (decide (pr = 0) && decide (ex.length = 0)))) := by
    simp [Pk.right, Bool.and_assoc]
  rw [hr]
  clear hr
  simp only [Pk.val]
  simp only at hc he
  generalize cs.length = lc at *
  generalize ex.length = le at *
  generalize py.length = lp at *
  have tail : ∀ b : Bool, True := fun _ => trivial
  by_cases h1 : ty ≤ 127
  · by_cases h2 : lc ≤ 15
    · by_cases h3 : le % 4 = 0
      · by_cases h4 : le ≤ 262140
        · have g3 : ((le : Int) % 4 != 0) = false := by simp; omega
          cases hx
          · by_cases h5 : pr = 0
            · subst h5
              by_cases h6 : le = 0
              · subst h6
                go_enter Try.func82, Try.ntmps82
                go_wp2
                go_ret
                exact ⟨by simp, (Only.refl _ _).alloc _⟩
              · have g6 : ((le : Int) == 0) = false := by simp; omega
                go_enter Try.func82, Try.ntmps82
                go_wp2
                go_ret
                exact ⟨by simp [h1, h2, h3, h4, h6], (Only.refl _ _).alloc _⟩
            · have g5 : ((pr : Int) == 0) = false := by simp; omega
              go_enter Try.func82, Try.ntmps82
              go_wp2
              go_ret
              exact ⟨by simp [h1, h2, h3, h4, h5], (Only.refl _ _).alloc _⟩
          · go_enter Try.func82, Try.ntmps82
            go_wp2
            go_ret
            exact ⟨by simp [h1, h2, h3, h4], (Only.refl _ _).alloc _⟩
        · have g3 : ((le : Int) % 4 != 0) = false := by simp; omega
          have h4' : 262140 < le := by omega
          go_enter Try.func82, Try.ntmps82
          go_wp2
          go_ret
          exact ⟨by simp [h4], (Only.refl _ _).alloc _⟩
      · have g3 : ((le : Int) % 4 != 0) = true := by simp; omega
        go_enter Try.func82, Try.ntmps82
        go_wp2
        go_ret
        exact ⟨by simp [h3], (Only.refl _ _).alloc _⟩
    · have h2' : 15 < lc := by omega
      go_enter Try.func82, Try.ntmps82
      go_wp2
      go_ret
      exact ⟨by simp, (Only.refl _ _).alloc _⟩
  · have h1' : 127 < ty := by omega
    go_enter Try.func82, Try.ntmps82
    go_wp2
    go_ret
    exact ⟨by simp, (Only.refl _ _).alloc _⟩

set_option maxRecDepth 100000 in
set_option maxHeartbeats 400000 in
theorem size_is (p : Pk) (Ac Ae Ap : Option Addr) (cc ce cp : Nat) (w : World) (hc : p.csrc.length ≤ 1000000) (he : p.ext.length ≤ 1000000) (hp : p.pay.length ≤ 1000000) (hd : p.pad < 256) :
    Calls Try.prog 83 #[p.val (.slice Ac p.csrc.length cc) (.slice Ae p.ext.length ce) (.slice Ap p.pay.length cp)] w fun e w' => e = .returned (.int .i64 (p.size : Nat)) ∧ Pure w w' := by
  obtain ⟨m, ty, sq, tm, ss, cs, hx, pr, ex, py, pd⟩ := p
  simp only [Pk.val, Pk.size]
  simp only at hc he hp hd
  generalize cs.length = lc at *
  generalize ex.length = le at *
  generalize py.length = lp at *
  cases hx
  · go_enter Try.func83, Try.ntmps83
    go_wp2
    go_ret
    exact ⟨rfl, (Only.refl _ _).alloc _⟩
  · go_enter Try.func83, Try.ntmps83
    go_wp2
    go_ret
    exact ⟨rfl, (Only.refl _ _).alloc _⟩

/-- The first byte, of a packet of at most 15 contributors; the second. -/
def Pk.first (p : Pk) : Nat := 128 + p.csrc.length + (if p.pad = 0 then 0 else 32) + (if p.hasExt then 16 else 0)
def Pk.second (p : Pk) : Nat := p.ty + (if p.marker then 128 else 0)

theorem first_bits (l : Nat) (h : l ≤ 15) : bits .or .u8 (128 + (l : Int)) 32 = 128 + (l : Int) + 32 ∧ bits .or .u8 (128 + (l : Int)) 16 = 128 + (l : Int) + 16 ∧ bits .or .u8 (128 + (l : Int) + 32) 16 = 128 + (l : Int) + 32 + 16 := by
  have : l = 0 ∨ l = 1 ∨ l = 2 ∨ l = 3 ∨ l = 4 ∨ l = 5 ∨ l = 6 ∨ l = 7 ∨ l = 8 ∨ l = 9 ∨ l = 10 ∨ l = 11 ∨ l = 12 ∨ l = 13 ∨ l = 14 ∨ l = 15 := by omega
  rcases this with rfl | rfl | rfl | rfl | rfl | rfl | rfl | rfl | rfl | rfl | rfl | rfl | rfl | rfl | rfl | rfl <;> decide

theorem second_bits (t : Nat) (h : t ≤ 127) : bits .or .u8 128 (t : Int) = ((t + 128 : Nat) : Int) := by
  have e : (128 : Int) = ((1 * 128 : Nat) : Int) := rfl
  rw [e, u8_or_nat _ _ (by decide) (by omega), or_add 7 128 1 t (by decide) (by omega)]
  congr 1
  omega

set_option maxRecDepth 100000 in
set_option maxHeartbeats 400000 in
theorem first_is (p : Pk) (Ac Ae Ap : Option Addr) (cc ce cp : Nat) (w : World) (hc : p.csrc.length ≤ 15) :
    Calls Try.prog 86 #[p.val (.slice Ac p.csrc.length cc) (.slice Ae p.ext.length ce) (.slice Ap p.pay.length cp)] w fun e w' => e = .returned (.int .u8 (p.first : Nat)) ∧ Pure w w' := by
  obtain ⟨m, ty, sq, tm, ss, cs, hx, pr, ex, py, pd⟩ := p
  simp only [Pk.val, Pk.first]
  simp only at hc
  have HB := Lib.hid (first_bits cs.length hc)
  generalize cs.length = lc at *
  generalize ex.length = le at *
  generalize py.length = lp at *
  rcases Nat.eq_zero_or_pos pd with rfl | hpd
  · cases hx
    · go_enter Try.func86, Try.ntmps86
      go_wp2
      go_ret
      exact ⟨rfl, (Only.refl _ _).alloc _⟩
    · go_enter Try.func86, Try.ntmps86
      go_wp2
      go_ret
      refine ⟨?_, (Only.refl _ _).alloc _⟩
      show Ending.returned (.int .u8 _) = _
      rw [HB.out.2.1]
  · have hne : pd ≠ 0 := by omega
    cases hx
    · go_enter Try.func86, Try.ntmps86
      go_wp2
      go_ret
      refine ⟨?_, (Only.refl _ _).alloc _⟩
      show Ending.returned (.int .u8 _) = _
      rw [HB.out.1]
    · go_enter Try.func86, Try.ntmps86
      go_wp2
      go_ret
      refine ⟨?_, (Only.refl _ _).alloc _⟩
      show Ending.returned (.int .u8 _) = _
      rw [HB.out.1, HB.out.2.2]

set_option maxRecDepth 100000 in
set_option maxHeartbeats 400000 in
theorem second_is (p : Pk) (vc ve vp : Value) (w : World) (hc : p.ty ≤ 127) :
    Calls Try.prog 87 #[p.val vc ve vp] w fun e w' => e = .returned (.int .u8 (p.second : Nat)) ∧ Pure w w' := by
  obtain ⟨m, ty, sq, tm, ss, cs, hx, pr, ex, py, pd⟩ := p
  simp only [Pk.val, Pk.second]
  simp only at hc
  have HB := Lib.hid (second_bits ty hc)
  cases m
  · go_enter Try.func87, Try.ntmps87
    go_wp2
    go_ret
    exact ⟨rfl, (Only.refl _ _).alloc _⟩
  · go_enter Try.func87, Try.ntmps87
    go_wp2
    go_ret
    refine ⟨?_, (Only.refl _ _).alloc _⟩
    show Ending.returned (.int .u8 _) = _
    rw [HB.out]
    rfl
end Go.Proofs.Ytcgfmjdlningpaa
