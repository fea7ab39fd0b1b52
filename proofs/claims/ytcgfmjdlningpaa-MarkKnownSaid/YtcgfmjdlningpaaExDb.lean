/- ext.Parse: a round, plainly. Conditions: as each says. -/
import Derived.Test.YtcgfmjdlningpaaExDa
set_option linter.unusedVariables false
namespace Go.Proofs.Ytcgfmjdlningpaa
open Go.RowKit

section
variable {one : Bool} {bs : List Nat} {i b : Nat} {done : List El}
theorem exs_pad (hr : bs.drop i = b :: bs.drop (i + 1)) (hb : b = 0) (eq : exP one bs = ((exP one (bs.drop i)).1, done ++ (exP one (bs.drop i)).2)) : exP one bs = ((exP one (bs.drop (i + 1))).1, done ++ (exP one (bs.drop (i + 1))).2) := by
  have h := exP_pad (one := one) (bs := b :: bs.drop (i + 1)) (by simp) (by unfold exKind; simp [hb])
  rw [hr, h] at eq
  exact eq
theorem exs_end (hr : bs.drop i = b :: bs.drop (i + 1)) (hb : b ≠ 0) (h15 : b / 16 = 15) (eq : exP true bs = ((exP true (bs.drop i)).1, done ++ (exP true (bs.drop i)).2)) : exP true bs = (0, done) := by
  have h := exP_end (one := true) (bs := b :: bs.drop (i + 1)) (by simp) (by unfold exKind; simp [hb, h15])
  rw [hr, h] at eq
  rw [eq]
  simp
theorem exs_bad (hr : bs.drop i = b :: bs.drop (i + 1)) (hb : b ≠ 0) (h0 : b / 16 = 0) (eq : exP true bs = ((exP true (bs.drop i)).1, done ++ (exP true (bs.drop i)).2)) : (exP true bs).1 = 31 := by
  have h := exP_bad (one := true) (bs := b :: bs.drop (i + 1)) (by simp) (by unfold exKind; simp [hb, h0])
  rw [hr, h] at eq
  rw [eq]
theorem exs_short (hr : bs.drop i = b :: bs.drop (i + 1)) (hk : exKind one (b :: bs.drop (i + 1)) = 3) (eq : exP one bs = ((exP one (bs.drop i)).1, done ++ (exP one (bs.drop i)).2)) : (exP one bs).1 = 10 := by
  have h := exP_short (one := one) (bs := b :: bs.drop (i + 1)) (by simp) hk
  rw [hr, h] at eq
  rw [eq]
theorem exs_go {j : Nat} (hr : bs.drop i = b :: bs.drop (i + 1)) (hk : exKind one (b :: bs.drop (i + 1)) = 4) (hj : j = i + exLen one (b :: bs.drop (i + 1))) (eq : exP one bs = ((exP one (bs.drop i)).1, done ++ (exP one (bs.drop i)).2)) :
    exP one bs = ((exP one (bs.drop j)).1, (done ++ [exEl one (b :: bs.drop (i + 1))]) ++ (exP one (bs.drop j)).2) := by
  have h := exP_go (one := one) (bs := b :: bs.drop (i + 1)) (by simp) hk
  have hd : (b :: bs.drop (i + 1)).drop (exLen one (b :: bs.drop (i + 1))) = bs.drop j := by rw [← hr, List.drop_drop, hj, hr]
  rw [hd] at h
  rw [hr, h] at eq
  rw [eq]
  simp
end
/-- What becomes of a round. -/
def ExNext (one : Bool) (bs : List Nat) (i : Nat) (done : List El) (idv : Nat) (dat : List Nat) (p9 : Nat) (f9 : Int) : Prop :=
  (f9 = 10 ∧ (exP one bs).1 = 10) ∨ (f9 = 0 ∧ ∃ j, i < j ∧ j ≤ bs.length ∧ p9 = 8 * j ∧ exP one bs = ((exP one (bs.drop j)).1, (done ++ [⟨idv, dat⟩]) ++ (exP one (bs.drop j)).2))
theorem ex_one (rb : Nat) (rv : Value) {bs : List Nat} {i b : Nat} {done : List El} (hi : i < bs.length) (hr : bs.drop i = b :: bs.drop (i + 1)) (hb : ∀ x ∈ bs, x < 256) (hb2 : b < 256) (h0 : b ≠ 0) (h15 : b / 16 ≠ 15) (h1 : b / 16 ≠ 0) (eq : exP true bs = ((exP true (bs.drop i)).1, done ++ (exP true (bs.drop i)).2)) :
    ∃ num p5 f5 n dat p9 f9, num ≤ 300 ∧ n = num + 1 ∧ NumOut 90 rb bs rv b i num p5 f5 ∧ ByOut rb bs rv p5 f5 n dat p9 f9 ∧ ExNext true bs i done (b / 16) dat p9 f9 := by
  have hl : (bs.drop (i + 1)).length = bs.length - (i + 1) := List.length_drop
  by_cases hs : bs.length - (i + 1) < b % 16 + 1
  · refine ⟨b % 16, 8 * (i + 1), 0, b % 16 + 1, [], 8 * (i + 1), 10, by omega, rfl, num_one hb2, by_short (by omega) hs (by omega), .inl ⟨rfl, exs_short hr ?_ eq⟩⟩
    unfold exKind
    simp only [h0, h15, h1, if_false, if_true, hl]
    rw [if_pos hs]
  · refine ⟨b % 16, 8 * (i + 1), 0, b % 16 + 1, (bs.drop (i + 1)).take (b % 16 + 1), 8 * (i + 1 + (b % 16 + 1)), 0, by omega, rfl, num_one hb2, by_good (by omega) hb, .inr ⟨rfl, i + 1 + (b % 16 + 1), by omega, by omega, rfl, ?_⟩⟩
    have h := exs_go (j := i + 1 + (b % 16 + 1)) hr (show exKind true (b :: bs.drop (i + 1)) = 4 from by
      unfold exKind
      simp only [h0, h15, h1, if_false, if_true, hl]
      rw [if_neg hs]) (by unfold exLen; simp; omega) eq
    exact h
theorem ex_two (rb : Nat) (rv : Value) {bs : List Nat} {i b : Nat} {done : List El} (hi : i < bs.length) (hr : bs.drop i = b :: bs.drop (i + 1)) (hb : ∀ x ∈ bs, x < 256) (h0 : b ≠ 0) (eq : exP false bs = ((exP false (bs.drop i)).1, done ++ (exP false (bs.drop i)).2)) :
    ∃ num p5 f5 dat p9 f9, num ≤ 300 ∧ NumOut 91 rb bs rv b i num p5 f5 ∧ ByOut rb bs rv p5 f5 num dat p9 f9 ∧ ExNext false bs i done b dat p9 f9 := by
  by_cases hl : bs.length = i + 1
  · refine ⟨0, 8 * i + 8, 10, [], 8 * i + 8, 10, by omega, num_none hl, by_failed, .inl ⟨rfl, exs_short hr ?_ eq⟩⟩
    rw [List.drop_eq_nil_of_le (by omega)]
    unfold exKind
    simp [h0]
  · have hi1 : i + 1 < bs.length := by omega
    have hr1 : bs.drop (i + 1) = bs.getD (i + 1) 0 :: bs.drop (i + 2) := by
      rw [List.drop_eq_getElem_cons hi1, List.getD_eq_getElem?_getD, List.getElem?_eq_getElem hi1]
      rfl
    have hm : bs.getD (i + 1) 0 < 256 := by
      rw [List.getD_eq_getElem?_getD, List.getElem?_eq_getElem hi1]
      exact hb _ (List.getElem_mem _)
    have hnum := num_two (rb := rb) (rv := rv) (b := b) hi1 hb
    have hl2 : (bs.drop (i + 2)).length = bs.length - (i + 2) := List.length_drop
    generalize bs.getD (i + 1) 0 = m at *
    by_cases hs : bs.length - (i + 2) < m
    · refine ⟨m, 8 * (i + 2), 0, [], 8 * (i + 2), 10, by omega, hnum, by_short (by omega) hs (by omega), .inl ⟨rfl, exs_short hr ?_ eq⟩⟩
      rw [hr1]
      unfold exKind
      simp only [h0, if_false, Bool.false_eq_true, hl2]
      rw [if_pos hs]
    · refine ⟨m, 8 * (i + 2), 0, (bs.drop (i + 2)).take m, 8 * (i + 2 + m), 0, by omega, hnum, by_good (by omega) hb, .inr ⟨rfl, i + 2 + m, by omega, by omega, rfl, ?_⟩⟩
      have h := exs_go (j := i + 2 + m) hr (show exKind false (b :: bs.drop (i + 1)) = 4 from by
        rw [hr1]
        unfold exKind
        simp only [h0, if_false, Bool.false_eq_true, hl2]
        rw [if_neg hs]) (by rw [hr1]; unfold exLen; simp; omega) eq
      rw [hr1] at h
      exact h
end Go.Proofs.Ytcgfmjdlningpaa
