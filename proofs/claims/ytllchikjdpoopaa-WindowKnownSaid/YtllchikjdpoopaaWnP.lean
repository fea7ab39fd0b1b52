/- A window, plainly: what it tells, what comes. Conditions: as each says. -/
import Derived.Test.YtllchikjdpoopaaRow
import Derived.Test.YtllchikjdpoopaaStep
import Derived.WalkKit
import Derived.Laws.BitsAllLaws
set_option linter.unusedVariables false
namespace Go.Proofs.Ytllchikjdpoopaa
open Go Go.RowKit

/-- A window, plainly: its size, whether a number came, its top, the least one, the digits by their place, the counts. -/
structure Wm where
  size : Nat
  some : Bool
  top : Nat
  least : Nat
  f : Nat → Bool
  c : Nat → Nat
def Wm.low (m : Wm) : Nat := m.top - min m.top (m.size - 1)
def Wm.look (m : Wm) (n : Nat) : Nat := if m.some = false ∨ m.top < n then 0 else if n < m.low then 2 else if m.f (n % 1024) then 1 else 0
def wiped (f : Nat → Bool) (n k : Nat) (p : Nat) : Bool := f p && !((List.range k).any fun d => (n - d) % 1024 == p)
def Wm.rise (m : Wm) (n : Nat) : Wm := { m with top := n, f := wiped m.f n (min (n - m.top) m.size) }
def Wm.begin (m : Wm) (n : Nat) : Wm := if m.some then m else { m with some := true, top := n, least := n }
def Wm.up (m : Wm) (n : Nat) : Wm := if m.top < n then m.rise n else m
def Wm.add (m : Wm) (n : Nat) : Wm := { m with least := min m.least n, f := fun p => m.f p || n % 1024 == p }
def Wm.keep (m : Wm) (n : Nat) : Wm := ((m.begin n).up n).add n
def Wm.tell (m : Wm) (s : Nat) : Wm := { m with c := fun i => if i = s then m.c i + 1 else m.c i }
def Wm.inn (m : Wm) (n : Nat) : Wm := if m.look n = 0 then (m.tell 0).keep n else m.tell (m.look n)
def Wm.miss (m : Wm) : List Nat := ((List.range' (max m.low m.least) (m.top - max m.low m.least))).filter fun n => !m.f (n % 1024)
def Wm.new (size : Nat) : Wm := ⟨size, false, 0, 0, fun _ => false, fun _ => 0⟩

theorem Wm.look_lt (m : Wm) (n : Nat) : m.look n < 3 := by
  unfold Wm.look
  repeat' split
  all_goals omega

/-- Sixteen words hold the digits. -/
def DW (D : Nat → Nat) (f : Nat → Bool) : Prop := (∀ i, i < 16 → D i < 18446744073709551616) ∧ ∀ i j, i < 16 → j < 64 → (D i).testBit j = f (64 * i + j)
def upd (D : Nat → Nat) (i v : Nat) (k : Nat) : Nat := if k = i then v else D k
theorem two_lt (j : Nat) (h : j < 64) : 2 ^ j < 18446744073709551616 := by
  have := Nat.pow_lt_pow_right (a := 2) (by decide) h
  simpa using this
theorem at_place (p : Nat) : 64 * (p / 64) + p % 64 = p := Nat.div_add_mod p 64
theorem DW.has {D : Nat → Nat} {f : Nat → Bool} (h : DW D f) (p : Nat) (hp : p < 1024) : ∃ x : Nat, bits .and .u64 (D (p / 64) : Int) ((2 ^ (p % 64) : Nat) : Int) = (x : Int) ∧ decide (x ≠ 0) = f p := by
  have hj : p % 64 < 64 := Nat.mod_lt _ (by decide)
  have ht := h.2 (p / 64) (p % 64) (by omega) hj
  rw [at_place] at ht
  refine ⟨D (p / 64) &&& 2 ^ (p % 64), u64_and_nat _ _ (h.1 _ (by omega)) (two_lt _ hj), ?_⟩
  rw [← ht, Bool.eq_iff_iff, decide_eq_true_eq]
  constructor
  · intro hne
    obtain ⟨i, hi⟩ := Nat.exists_testBit_of_ne_zero hne
    rw [Nat.testBit_and, Nat.testBit_two_pow, Bool.and_eq_true, decide_eq_true_eq] at hi
    rw [hi.2]
    exact hi.1
  · intro hb he
    have := congrArg (fun x => Nat.testBit x (p % 64)) he
    simp only [Nat.testBit_and, Nat.testBit_two_pow, hb, Nat.zero_testBit, decide_true, Bool.and_self] at this
    cases this
theorem DW.put {D : Nat → Nat} {f : Nat → Bool} (h : DW D f) (p : Nat) (hp : p < 1024) : ∃ x : Nat, bits .or .u64 (D (p / 64) : Int) ((2 ^ (p % 64) : Nat) : Int) = (x : Int) ∧ DW (upd D (p / 64) x) (fun q => f q || p == q) := by
  have hj : p % 64 < 64 := Nat.mod_lt _ (by decide)
  refine ⟨D (p / 64) ||| 2 ^ (p % 64), u64_or_nat _ _ (h.1 _ (by omega)) (two_lt _ hj), ?_, ?_⟩
  · intro i hi
    unfold upd
    split
    · have := Nat.or_lt_two_pow (n := 64) (show D (p / 64) < 2 ^ 64 from h.1 _ (by omega)) (show 2 ^ (p % 64) < 2 ^ 64 from two_lt _ hj)
      simpa using this
    · exact h.1 i hi
  · intro i j hi hj2
    unfold upd
    have ht := h.2 i j hi hj2
    split
    · rename_i e
      subst e
      rw [Nat.testBit_or, ht, Nat.testBit_two_pow]
      congr 1
      have : (p % 64 = j) ↔ (p = 64 * (p / 64) + j) := by omega
      rw [Bool.eq_iff_iff]
      simpa using this
    · rename_i e
      rw [ht]
      have : (p == 64 * i + j) = false := by
        rw [beq_eq_false_iff_ne]
        intro e2
        omega
      show f (64 * i + j) = (f (64 * i + j) || p == 64 * i + j)
      rw [this, Bool.or_false]
theorem flip_bit (j k : Nat) (hj : j < 64) (hk : k < 64) : (18446744073709551615 - 2 ^ j).testBit k = !decide (j = k) := by
  have := Nat.testBit_two_pow_sub_succ (x := 2 ^ j) (n := 64) (two_lt j hj) k
  rw [show 18446744073709551615 - 2 ^ j = 2 ^ 64 - (2 ^ j + 1) from by simp, this, Nat.testBit_two_pow]
  simp [hk]
theorem DW.blank {D : Nat → Nat} {f : Nat → Bool} (h : DW D f) (p : Nat) (hp : p < 1024) : ∃ x : Nat, bits .andNot .u64 (D (p / 64) : Int) ((2 ^ (p % 64) : Nat) : Int) = (x : Int) ∧ DW (upd D (p / 64) x) (fun q => f q && !(p == q)) := by
  have hj : p % 64 < 64 := Nat.mod_lt _ (by decide)
  refine ⟨D (p / 64) &&& (18446744073709551615 - 2 ^ (p % 64)), u64_andNot_nat _ _ (h.1 _ (by omega)) (two_lt _ hj), ?_, ?_⟩
  · intro i hi
    unfold upd
    split
    · exact Nat.lt_of_le_of_lt Nat.and_le_left (h.1 _ (by omega))
    · exact h.1 i hi
  · intro i j hi hj2
    unfold upd
    have ht := h.2 i j hi hj2
    split
    · rename_i e
      subst e
      rw [Nat.testBit_and, ht, flip_bit _ _ hj hj2]
      congr 2
      have : (p % 64 = j) ↔ (p = 64 * (p / 64) + j) := by omega
      rw [Bool.eq_iff_iff]
      simpa using this
    · rename_i e
      rw [ht]
      have : (p == 64 * i + j) = false := by
        rw [beq_eq_false_iff_ne]
        intro e2
        omega
      show f (64 * i + j) = (f (64 * i + j) && !(p == 64 * i + j))
      rw [this, Bool.not_false, Bool.and_true]
theorem DW.nil : DW (fun _ => 0) (fun _ => false) := ⟨fun _ _ => Nat.zero_lt_of_lt (show 0 < 18446744073709551616 by decide), fun i j _ _ => Nat.zero_testBit j⟩
end Go.Proofs.Ytllchikjdpoopaa
