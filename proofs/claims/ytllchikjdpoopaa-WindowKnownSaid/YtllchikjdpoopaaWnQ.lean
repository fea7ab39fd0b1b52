/- What WindowOnce says, plainly. Conditions: as each says. -/
import Derived.Test.YtllchikjdpoopaaWnN
set_option linter.unusedVariables false
namespace Go.Proofs.Ytllchikjdpoopaa
open Go Go.RowKit

/-- All of l came: they were taken, or lie below. -/
def Past (s : Nat) (L l : List Nat) : Prop := ∀ x ∈ l, x ∈ L ∨ x < rBot s L
theorem bot_le (s : Nat) (L : List Nat) (hs : 1 ≤ s) : rBot s L ≤ rTop L := by
  unfold rBot
  split <;> omega
theorem Past.le {s : Nat} {L l : List Nat} (h : Past s L l) (hs : 1 ≤ s) {x : Nat} (hx : x ∈ l) : x ≤ rTop L := by
  rcases h x hx with e | e
  · exact rTop_ge e
  · have := bot_le s L hs
    omega
theorem bot_mono (s : Nat) (L : List Nat) (n : Nat) : rBot s L ≤ rBot s (rIn s L n) := by
  unfold rIn
  split
  · unfold rBot
    rw [rTop_snoc]
    split <;> split <;> omega
  · exact Nat.le_refl _
theorem in_keeps (s : Nat) (L : List Nat) (n : Nat) {x : Nat} (h : x ∈ L) : x ∈ rIn s L n := by
  unfold rIn
  split
  · exact List.mem_append_left _ h
  · exact h
theorem not_nil {s : Nat} {L l : List Nat} (h : Past s L l) (hs : 1 ≤ s) {x : Nat} (hx : x ∈ l) : L ≠ [] := by
  rintro rfl
  rcases h x hx with e | e
  · simp at e
  · unfold rBot rTop at e
    rw [if_pos (by simp; omega)] at e
    omega
theorem Past.snoc {s : Nat} {L l : List Nat} (h : Past s L l) (n : Nat) : Past s (rIn s L n) (l ++ [n]) := by
  intro x hx
  rcases List.mem_append.1 hx with hx | hx
  · rcases h x hx with e | e
    · exact .inl (in_keeps s L n e)
    · exact .inr (Nat.lt_of_lt_of_le e (bot_mono s L n))
  · obtain rfl : x = n := by simpa using hx
    have hu : rIn s L x = if rLook s L x = 0 then L ++ [x] else L := rfl
    rw [hu]
    split
    · left; simp
    · rename_i h0
      unfold rLook at h0
      split at h0
      · exact absurd rfl h0
      · split at h0
        · right; assumption
        · split at h0
          · left; assumption
          · exact absurd rfl h0
/-- What came is not new. -/
theorem Past.old {s : Nat} {L l : List Nat} (h : Past s L l) (hs : 1 ≤ s) {n : Nat} (hn : n ∈ l) : rLook s L n ≠ 0 := by
  have h1 := not_nil h hs hn
  have h2 := h.le hs hn
  unfold rLook
  rw [if_neg (by rw [not_or]; exact ⟨h1, by omega⟩)]
  rcases h n hn with e | e
  · by_cases hb : n < rBot s L
    · rw [if_pos hb]; omega
    · rw [if_neg hb, if_pos e]; omega
  · rw [if_pos e]; omega
/-- What came and is within reach is told as come. -/
theorem Past.twice {s : Nat} {L l : List Nat} (h : Past s L l) (hs : 1 ≤ s) {n : Nat} (hn : n ∈ l) (hr : rTop L - n < s) : rLook s L n = 1 := by
  have h1 := not_nil h hs hn
  have h2 := h.le hs hn
  have hb : ¬ n < rBot s L := by
    unfold rBot
    split <;> omega
  unfold rLook
  rw [if_neg (by rw [not_or]; exact ⟨h1, by omega⟩), if_neg hb]
  rcases h n hn with e | e
  · rw [if_pos e]
  · exact absurd e hb
/-- What is missing is new, below the top, and rises. -/
theorem miss_at {s : Nat} {L : List Nat} (j : Nat) (hj : j < (rMiss s L).length) : rLook s L (rMiss s L)[j] = 0 ∧ (rMiss s L)[j] < rTop L := by
  have hm := List.getElem_mem hj
  generalize (rMiss s L)[j] = x at *
  unfold rMiss at hm
  by_cases h0 : L = []
  · rw [if_pos h0] at hm; simp at hm
  · rw [if_neg h0] at hm
    unfold rMissTo at hm
    rw [List.mem_filter, List.mem_range'_1] at hm
    obtain ⟨⟨h1, h2⟩, h3⟩ := hm
    have h4 : x ∉ L := by simpa using h3
    refine ⟨?_, by omega⟩
    unfold rLook
    rw [if_neg (by rw [not_or]; exact ⟨h0, by omega⟩), if_neg (by omega), if_neg h4]
theorem miss_rises {s : Nat} {L : List Nat} (j : Nat) (hj : j + 1 < (rMiss s L).length) : (rMiss s L)[j]'(by omega) < (rMiss s L)[j + 1] := by
  have hp : (rMiss s L).Pairwise (· < ·) := by
    unfold rMiss
    split
    · exact List.Pairwise.nil
    · exact List.Pairwise.filter _ List.pairwise_lt_range'
  exact List.pairwise_iff_getElem.1 hp j (j + 1) (by omega) hj (by omega)
theorem miss_lt64 {s : Nat} {L : List Nat} (h : ∀ x ∈ L, x < 18446744073709551616) (j : Nat) (hj : j < (rMiss s L).length) : (rMiss s L)[j] < 18446744073709551616 := by
  have h1 := (miss_at j hj).2
  have h2 := rTop_lt h
  omega

/-- What is taken is what of l is brought near. -/
def Near (s base : Nat) (L l : List Nat) : Prop := ∀ x, x ∈ L ↔ ∃ y ∈ l, x = base + y % s
theorem Near.top {s base : Nat} {L l : List Nat} (h : Near s base L l) (hs : 1 ≤ s) (hne : L ≠ []) : base ≤ rTop L ∧ rTop L < base + s := by
  obtain ⟨y, _, hy⟩ := (h (rTop L)).1 (rTop_mem hne)
  have := Nat.mod_lt y (show 0 < s by omega)
  omega
theorem Near.look {s base : Nat} {L l : List Nat} (h : Near s base L l) (hs : 1 ≤ s) (n : Nat) : rLook s L (base + n % s) = if base + n % s ∈ L then 1 else 0 := by
  have hm := Nat.mod_lt n (show 0 < s by omega)
  unfold rLook
  by_cases hne : L = []
  · rw [if_pos (.inl hne), hne]; simp
  · obtain ⟨h1, h2⟩ := h.top hs hne
    by_cases ht : rTop L < base + n % s
    · rw [if_pos (.inr ht), if_neg (fun e => by have := rTop_ge e; omega)]
    · have hb : ¬ base + n % s < rBot s L := by
        unfold rBot
        split <;> omega
      rw [if_neg (by rw [not_or]; exact ⟨hne, ht⟩), if_neg hb]
theorem Near.snoc {s base : Nat} {L l : List Nat} (h : Near s base L l) (hs : 1 ≤ s) (n : Nat) : Near s base (rIn s L (base + n % s)) (l ++ [n]) := by
  intro x
  have hu : rIn s L (base + n % s) = if rLook s L (base + n % s) = 0 then L ++ [base + n % s] else L := rfl
  rw [hu, h.look hs]
  by_cases hm : base + n % s ∈ L
  · rw [if_pos hm, if_neg (by decide)]
    constructor
    · intro hx
      obtain ⟨y, hy, e⟩ := (h x).1 hx
      exact ⟨y, List.mem_append_left _ hy, e⟩
    · rintro ⟨y, hy, e⟩
      rcases List.mem_append.1 hy with hy | hy
      · exact (h x).2 ⟨y, hy, e⟩
      · obtain rfl : y = n := by simpa using hy
        rw [e]; exact hm
  · rw [if_neg hm, if_pos rfl]
    constructor
    · intro hx
      rcases List.mem_append.1 hx with hx | hx
      · obtain ⟨y, hy, e⟩ := (h x).1 hx
        exact ⟨y, List.mem_append_left _ hy, e⟩
      · exact ⟨n, by simp, by simpa using hx⟩
    · rintro ⟨y, hy, e⟩
      rcases List.mem_append.1 hy with hy | hy
      · exact List.mem_append_left _ ((h x).2 ⟨y, hy, e⟩)
      · obtain rfl : y = n := by simpa using hy
        rw [e]; simp
end Go.Proofs.Ytllchikjdpoopaa
