/- What the reference puts has the digits of what is put. Conditions: as each says. -/
import Derived.Test.YtefcimkopgcagaaFcM
import Derived.Test.YtefcimkopgcagaaFcGr
set_option linter.unusedVariables false
set_option linter.unusedSimpArgs false
namespace Go.Proofs.Ytefcimkopgcagaa
open Go.RowKit

theorem digs8_inj2 (a b : Nat) (ha : a < 256) (hb : b < 256) (h : digs 8 a = digs 8 b) : a = b := by
  have h1 := congrArg val h
  rw [val_digs, val_digs] at h1
  have e8 : 2 ^ 8 = 256 := by decide
  rw [e8] at h1
  omega
theorem D_inj2 : ∀ (a b : List Nat), (∀ x ∈ a, x < 256) → (∀ x ∈ b, x < 256) → D a = D b → a = b
  | [], [], _, _, _ => rfl
  | [], y :: b, _, _, h => by
    have := congrArg List.length h
    rw [D_length, D_length] at this
    simp at this
  | x :: a, [], _, _, h => by
    have := congrArg List.length h
    rw [D_length, D_length] at this
    simp at this
  | x :: a, y :: b, ha, hb, h => by
    rw [D_cons, D_cons] at h
    obtain ⟨h1, h2⟩ := List.append_inj h (by rw [digs_length, digs_length])
    rw [digs8_inj2 x y (ha x (by simp)) (hb y (by simp)) h1, D_inj2 a b (fun z hz => ha z (by simp [hz])) (fun z hz => hb z (by simp [hz])) h2]
/-- Digits make the same bytes. -/
theorem Wrote.unique2 {a b d : List Nat} (h : Wrote a d) (k : Wrote b d) : a = b := by
  refine D_inj2 a b h.bytes k.bytes ?_
  rw [h.digits, k.digits, h.rows, k.rows]

theorem D_numB : ∀ (k n : Nat), D (numB k n) = digs (8 * k) n
  | 0, _ => rfl
  | k + 1, n => by
    show D (numB k (n / 256) ++ [n % 256]) = _
    rw [D_last, D_numB k, show 8 * (k + 1) = 8 * k + 8 by omega, digs_add]
    congr 1
    exact digs_mod 8 8 n (Nat.le_refl _)
theorem numB_lt : ∀ (k n : Nat), ∀ x ∈ numB k n, x < 256
  | 0, _, x, h => by cases h
  | k + 1, n, x, h => by
    have h : x ∈ numB k (n / 256) ++ [n % 256] := h
    rcases List.mem_append.1 h with h | h
    · exact numB_lt k _ x h
    · have : x = n % 256 := by simpa using h
      rw [this]
      exact Nat.mod_lt _ (by decide)
theorem D_flat {α : Type} (f g : α → List Nat) : ∀ (l : List α), (∀ x ∈ l, D (f x) = g x) → D (l.flatMap f) = l.flatMap g
  | [], _ => rfl
  | x :: l, h => by
    rw [List.flatMap_cons, List.flatMap_cons, D_append, h x (by simp), D_flat f g l (fun y hy => h y (by simp [hy]))]
theorem D_pair (p : Pr) : D (pairB p) = pairD p := by
  unfold pairB pairD
  rw [D_append, D_numB, D_numB]
theorem D_order (p : Od) : D (orderB p) = orderD p := by
  unfold orderB orderD
  rw [D_append, D_numB, D_cons]
  rfl
theorem D_head (a b : Nat) : D (numB 4 a ++ numB 4 b) = digs 32 a ++ digs 32 b := by rw [D_append, D_numB, D_numB]
theorem digs_rate (e t : Nat) (ht : t < 262144) : digs 24 (e * 262144 + t) = digs 6 e ++ digs 18 t := by
  have h := digs_add 6 18 (e * 262144 + t)
  rw [show 6 + 18 = 24 from rfl] at h
  have e18 : 2 ^ 18 = 262144 := by decide
  rw [h, e18, show (e * 262144 + t) / 262144 = e by omega]
  congr 1
  have h2 := digs_mod 18 18 (e * 262144 + t) (Nat.le_refl _)
  rw [e18, show (e * 262144 + t) % 262144 = t by omega] at h2
  exact h2.symm
theorem body_put (m : Ms) (h : rightMs m = true) : D (bodyB m) = putD m := by
  unfold rightMs okMs at h
  have h := of_decide_eq_true h
  have hn : ∀ {α : Type} {l : List α}, l.length = 0 → l = [] := fun e => List.eq_nil_of_length_eq_zero e
  unfold bodyB partB headB putD partD headD nmOf
  rcases h with ⟨h1, h2, h3, h4, h5, -⟩ | ⟨h1, h2, h3, -⟩ | ⟨h1, h2, h3, -⟩ | ⟨h1, h2, h3, -, -, h7⟩
  · rw [hn h4, h1]
    simp only [Nat.reduceEqDiff, if_false, if_true, List.flatMap_nil, List.append_nil, D_append, D_numB, D_flat pairB pairD _ (fun x _ => D_pair x), List.append_assoc]
    rfl
  · rw [hn h2, hn h3, h1]
    simp only [Nat.reduceEqDiff, if_false, if_true, List.flatMap_nil, List.append_nil, D_append, D_numB]
    rfl
  · rw [hn h2, h1]
    simp only [Nat.reduceEqDiff, if_false, if_true, List.flatMap_nil, List.append_nil, List.nil_append, D_append, D_numB, D_flat orderB orderD _ (fun x _ => D_order x), List.append_assoc]
    rfl
  · rw [hn h2, hn h3, h1]
    unfold rateB rateD
    have hr := digs_rate m.exp m.mant (by omega)
    simp only [if_true, Nat.reduceEqDiff, if_false, List.flatMap_nil, List.append_nil, D_append, D_numB, D_flat (numB 4) (digs 32) _ (fun x _ => D_numB 4 x), List.append_assoc, hr]
    rfl
theorem bytes_of {f : Nat → List Nat} (l : List Nat) (h : ∀ y, ∀ x ∈ f y, x < 256) : ∀ x ∈ l.flatMap f, x < 256 := by
  intro x hx
  obtain ⟨y, _, hy⟩ := List.mem_flatMap.1 hx
  exact h y x hy
theorem body_bytes (m : Ms) (hf : MFit m) (hs : m.srcs.length < 256) : ∀ x ∈ bodyB m, x < 256 := by
  intro x hx
  unfold bodyB partB headB at hx
  simp only [List.mem_append] at hx
  rcases hx with ((h | h) | h | h) | h
  · exact numB_lt _ _ x h
  · exact numB_lt _ _ x h
  · obtain ⟨p, _, hp⟩ := List.mem_flatMap.1 h
    rcases List.mem_append.1 hp with h | h
    · exact numB_lt _ _ x h
    · exact numB_lt _ _ x h
  · obtain ⟨p, hp0, hp⟩ := List.mem_flatMap.1 h
    rcases List.mem_append.1 hp with h | h
    · exact numB_lt _ _ x h
    · have hno := (hf.orders p hp0).2
      simp only [List.mem_cons, List.mem_nil_iff, or_false] at h
      omega
  · split at h
    · unfold rateB at h
      rcases List.mem_append.1 h with h | h
      · simp only [List.mem_cons, List.mem_nil_iff, or_false] at h
        omega
      · rcases List.mem_append.1 h with h | h
        · exact numB_lt _ _ x h
        · exact bytes_of _ (fun y => numB_lt 4 y) x h
    · cases h
theorem body_len (m : Ms) : (D (bodyB m)).length = 8 * (bodyB m).length := D_length _
/-- The same bytes. -/
theorem body_same (m : Ms) (hf : MFit m) (h : rightMs m = true) {bs : List Nat} (hw : Wrote bs (putD m)) : bs = bodyB m := by
  have hs : m.srcs.length < 256 := by
    unfold rightMs okMs at h
    have := of_decide_eq_true h
    omega
  refine hw.unique2 ⟨?_, ?_, body_bytes m hf hs⟩
  · rw [body_put m h, ← body_put m h, D_length, Nat.sub_self]
    simp
  · rw [← body_put m h, D_length]
    omega
end Go.Proofs.Ytefcimkopgcagaa
