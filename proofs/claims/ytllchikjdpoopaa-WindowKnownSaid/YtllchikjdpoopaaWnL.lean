/- A window and all numbers that came to it: they tell the same. Conditions: as each says. -/
import Derived.Test.YtllchikjdpoopaaWnK
set_option linter.unusedVariables false
namespace Go.Proofs.Ytllchikjdpoopaa
open Go Go.RowKit

theorem foldl_max_ge : ∀ (L : List Nat) (a : Nat), a ≤ L.foldl max a ∧ ∀ x ∈ L, x ≤ L.foldl max a
  | [], a => ⟨Nat.le_refl _, by simp⟩
  | x :: L, a => by
    obtain ⟨h1, h2⟩ := foldl_max_ge L (max a x)
    refine ⟨by simp only [List.foldl_cons]; omega, fun y hy => ?_⟩
    rcases List.mem_cons.1 hy with rfl | hy
    · simp only [List.foldl_cons]; omega
    · exact h2 y hy
theorem foldl_max_mem : ∀ (L : List Nat) (a : Nat), L.foldl max a = a ∨ L.foldl max a ∈ L
  | [], a => .inl rfl
  | x :: L, a => by
    rcases foldl_max_mem L (max a x) with h | h
    · simp only [List.foldl_cons, h]
      by_cases hx : a ≤ x
      · right; rw [Nat.max_eq_right hx]; simp
      · left; omega
    · right; exact List.mem_cons_of_mem _ h
theorem rTop_mem {L : List Nat} (h : L ≠ []) : rTop L ∈ L := by
  rcases foldl_max_mem L 0 with e | e
  · cases L with
    | nil => exact absurd rfl h
    | cons x L =>
      have := (foldl_max_ge (x :: L) 0).2 x (by simp)
      have hx : x = 0 := by omega
      unfold rTop
      rw [e, hx]
      simp
  · exact e
theorem rTop_ge {L : List Nat} {x : Nat} (h : x ∈ L) : x ≤ rTop L := (foldl_max_ge L 0).2 x h
theorem rTop_snoc (L : List Nat) (n : Nat) : rTop (L ++ [n]) = max (rTop L) n := by simp [rTop, List.foldl_append]
theorem foldl_min_le : ∀ (L : List Nat) (a : Nat), L.foldl min a ≤ a ∧ (∀ x ∈ L, L.foldl min a ≤ x) ∧ (L.foldl min a = a ∨ L.foldl min a ∈ L)
  | [], a => ⟨Nat.le_refl _, by simp, .inl rfl⟩
  | x :: L, a => by
    obtain ⟨h1, h2, h3⟩ := foldl_min_le L (min a x)
    simp only [List.foldl_cons]
    refine ⟨by omega, fun y hy => ?_, ?_⟩
    · rcases List.mem_cons.1 hy with rfl | hy
      · omega
      · exact h2 y hy
    · rcases h3 with h | h
      · by_cases hx : a ≤ x
        · left; omega
        · right
          have : List.foldl min (min a x) L = x := by omega
          rw [this]
          simp
      · right; exact List.mem_cons_of_mem _ h
theorem rLeast_mem {L : List Nat} (h : L ≠ []) : rLeast L ∈ L := by
  rcases (foldl_min_le L (rTop L)).2.2 with e | e
  · unfold rLeast
    rw [e]
    exact rTop_mem h
  · exact e
theorem rLeast_le {L : List Nat} {x : Nat} (h : x ∈ L) : rLeast L ≤ x := (foldl_min_le L (rTop L)).2.1 x h
theorem rLeast_snoc {L : List Nat} (h : L ≠ []) (n : Nat) : rLeast (L ++ [n]) = min (rLeast L) n := by
  have h1 := rLeast_mem (L := L ++ [n]) (by simp)
  have h2 := rLeast_le (L := L ++ [n]) (x := n) (by simp)
  have h3 := rLeast_le (L := L ++ [n]) (x := rLeast L) (by simp [rLeast_mem h])
  rcases List.mem_append.1 h1 with e | e
  · have := rLeast_le e
    omega
  · have : rLeast (L ++ [n]) = n := by simpa using e
    omega

/-- The window is as all numbers that came, in a row, have it. -/
structure Sim (s : Nat) (m : Wm) (L : List Nat) : Prop where
  size : m.size = s
  some : m.some = decide (L ≠ [])
  top : m.top = rTop L
  least : m.least = rLeast L
  none : L = [] → ∀ p, m.f p = false
  near : ∀ n, L ≠ [] → m.low ≤ n → n ≤ m.top → m.f (n % 1024) = decide (n ∈ L)
theorem Sim.new (s : Nat) : Sim s (Wm.new s) [] := ⟨rfl, rfl, rfl, rfl, fun _ _ => rfl, fun _ h => absurd rfl h⟩
theorem Sim.low {s : Nat} {m : Wm} {L : List Nat} (h : Sim s m L) (hs : 1 ≤ s) : m.low = rBot s L := by
  unfold Wm.low rBot
  rw [h.size, h.top]
  split <;> omega
theorem Sim.look {s : Nat} {m : Wm} {L : List Nat} (h : Sim s m L) (hs : 1 ≤ s) (n : Nat) : m.look n = rLook s L n := by
  unfold Wm.look rLook
  rw [h.low hs, h.top, h.some]
  by_cases h1 : L = [] ∨ rTop L < n
  · rw [if_pos h1, if_pos (by simpa using h1)]
  · rw [if_neg h1, if_neg (by simpa using h1)]
    rw [not_or] at h1
    split
    · rfl
    · rename_i h2
      rw [h.near n h1.1 (by rw [h.low hs]; omega) (by rw [h.top]; omega)]
      simp only [decide_eq_true_eq]
theorem mod_near {a b : Nat} (h : a % 1024 = b % 1024) (h1 : a < b + 1024) (h2 : b < a + 1024) : a = b := by omega
theorem Sim.tell {s : Nat} {m : Wm} {L : List Nat} (h : Sim s m L) (i : Nat) : Sim s (m.tell i) L := ⟨h.size, h.some, h.top, h.least, h.none, h.near⟩
theorem wiped_any (f : Nat → Bool) (n k p : Nat) : wiped f n k p = true ↔ f p = true ∧ ∀ d, d < k → (n - d) % 1024 ≠ p := by
  unfold wiped
  rw [Bool.and_eq_true, Bool.not_eq_true', List.any_eq_false]
  simp
theorem Sim.keep {s : Nat} {m : Wm} {L : List Nat} (h : Sim s m L) (hs : 1 ≤ s) (hs2 : s ≤ 1024) (n : Nat) (hl : m.look n = 0) : Sim s (m.keep n) (L ++ [n]) := by
  by_cases h0 : L = []
  · subst h0
    have hb : m.begin n = { m with some := true, top := n, least := n } := by
      unfold Wm.begin
      rw [h.some]
      rfl
    have hk : m.keep n = ({ m with some := true, top := n, least := n } : Wm).add n := by
      unfold Wm.keep
      rw [hb]
      unfold Wm.up
      rw [if_neg (by simp)]
    rw [hk]
    refine ⟨h.size, by simp [Wm.add], ?_, ?_, fun e => by simp at e, ?_⟩
    · show n = rTop [n]
      simp [rTop]
    · show min n n = rLeast [n]
      simp [rLeast, rTop]
    · intro k _ hk1 hk2
      have hk1 : n - min n (m.size - 1) ≤ k := hk1
      have hk2 : k ≤ n := hk2
      rw [h.size] at hk1
      show (m.f (k % 1024) || n % 1024 == k % 1024) = decide (k ∈ [n])
      rw [h.none rfl]
      by_cases e : k = n
      · subst e; simp
      · have : n % 1024 ≠ k % 1024 := fun e2 => e (mod_near e2 (by omega) (by omega)).symm
        simp [e, this]
  · have hsome : m.some = true := by rw [h.some]; simpa using h0
    have hb : m.begin n = m := by unfold Wm.begin; rw [hsome]; rfl
    have htop := h.top
    have hmt := rTop_mem h0
    by_cases ht : m.top < n
    · have hk : m.keep n = (m.rise n).add n := by
        unfold Wm.keep
        rw [hb]
        unfold Wm.up
        rw [if_pos ht]
      rw [hk]
      refine ⟨h.size, by simp [Wm.add, Wm.rise, hsome], ?_, ?_, fun e => by simp at e, ?_⟩
      · show n = rTop (L ++ [n])
        rw [rTop_snoc]
        omega
      · show min m.least n = rLeast (L ++ [n])
        rw [rLeast_snoc h0, h.least]
      · intro k _ hk1 hk2
        have hk1 : n - min n (m.size - 1) ≤ k := hk1
        have hk2 : k ≤ n := hk2
        rw [h.size] at hk1
        show (wiped m.f n (min (n - m.top) m.size) (k % 1024) || n % 1024 == k % 1024) = decide (k ∈ L ++ [n])
        rw [h.size]
        by_cases e : k = n
        · subst e; simp
        · have e2 : (n % 1024 == k % 1024) = false := by
            rw [beq_eq_false_iff_ne]
            exact fun e2 => e (mod_near e2 (by omega) (by omega)).symm
          rw [e2, Bool.or_false]
          have hkn : k ∈ L ++ [n] ↔ k ∈ L := by simp [e]
          rw [Bool.eq_iff_iff, wiped_any, decide_eq_true_eq, hkn]
          by_cases hkt : k ≤ m.top
          · have hlow : m.low ≤ k := by unfold Wm.low; rw [h.size]; omega
            rw [h.near k h0 hlow hkt, decide_eq_true_eq]
            constructor
            · exact fun x => x.1
            · exact fun x => ⟨x, fun d hd e3 => by have := mod_near e3 (by omega) (by omega); omega⟩
          · constructor
            · intro x
              exact absurd (by rw [show n - (n - k) = k by omega]) (x.2 (n - k) (by omega))
            · intro x
              have := rTop_ge x
              omega
    · have hk : m.keep n = m.add n := by
        unfold Wm.keep
        rw [hb]
        unfold Wm.up
        rw [if_neg ht]
      rw [hk]
      have hnl : ¬ n < m.low ∧ ¬ m.f (n % 1024) = true := by
        unfold Wm.look at hl
        rw [if_neg (by rw [hsome]; simp; omega)] at hl
        by_cases h5 : n < m.low
        · rw [if_pos h5] at hl; omega
        · rw [if_neg h5] at hl
          by_cases h6 : m.f (n % 1024) = true
          · rw [if_pos h6] at hl; omega
          · exact ⟨h5, h6⟩
      refine ⟨h.size, by simp [Wm.add, hsome], ?_, ?_, fun e => by simp at e, ?_⟩
      · show m.top = rTop (L ++ [n])
        rw [rTop_snoc]
        omega
      · show min m.least n = rLeast (L ++ [n])
        rw [rLeast_snoc h0, h.least]
      · intro k _ hk1 hk2
        have hk1 : m.low ≤ k := hk1
        have hk2 : k ≤ m.top := hk2
        show (m.f (k % 1024) || n % 1024 == k % 1024) = decide (k ∈ L ++ [n])
        rw [h.near k h0 hk1 hk2]
        by_cases e : k = n
        · subst e; simp
        · have hlow : m.top - min m.top (m.size - 1) ≤ k := hk1
          have hlow2 : m.top - min m.top (m.size - 1) ≤ n := Nat.not_lt.1 hnl.1
          rw [h.size] at hlow hlow2
          have e2 : (n % 1024 == k % 1024) = false := by
            rw [beq_eq_false_iff_ne]
            exact fun e2 => e (mod_near e2 (by omega) (by omega)).symm
          rw [e2, Bool.or_false]
          simp [e]
theorem Sim.inn {s : Nat} {m : Wm} {L : List Nat} (h : Sim s m L) (hs : 1 ≤ s) (hs2 : s ≤ 1024) (n : Nat) : Sim s (m.inn n) (rIn s L n) := by
  unfold Wm.inn rIn
  rw [← h.look hs]
  split
  · rename_i h0
    exact (h.tell 0).keep hs hs2 n h0
  · exact h.tell _
theorem Sim.miss {s : Nat} {m : Wm} {L : List Nat} (h : Sim s m L) (hs : 1 ≤ s) : m.miss = rMiss s L := by
  unfold Wm.miss rMiss
  rw [h.low hs, h.top, h.least]
  by_cases h0 : L = []
  · subst h0
    rw [if_pos rfl]
    simp [rTop]
  · rw [if_neg h0]
    unfold rMissTo
    refine List.filter_congr fun k hk => ?_
    rw [List.mem_range'_1] at hk
    rw [h.near k h0 (by rw [h.low hs]; omega) (by rw [h.top]; omega)]
theorem inn_c (m : Wm) (n i : Nat) : (m.inn n).c i = if i = m.look n then m.c i + 1 else m.c i := by
  have hk : ∀ m : Wm, (m.keep n).c = m.c := fun m => by
    unfold Wm.keep Wm.add Wm.up Wm.rise Wm.begin
    repeat' split
    all_goals rfl
  unfold Wm.inn
  split
  · rename_i h0
    rw [hk, h0]
    rfl
  · rfl
end Go.Proofs.Ytllchikjdpoopaa
