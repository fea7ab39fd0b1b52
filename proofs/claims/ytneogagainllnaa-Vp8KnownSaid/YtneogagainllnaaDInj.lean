/- Rows of the same digits are the same; rows that a literal laid. Conditions: as each says. -/
import Derived.Test.YtneogagainllnaaRow
import Derived.Test.YtneogagainllnaaBitsM
set_option linter.unusedVariables false
namespace Go.Proofs.Ytneogagainllnaa
open Go.RowKit

theorem digs8_inj (a b : Nat) (ha : a < 256) (hb : b < 256) (h : digs 8 a = digs 8 b) : a = b := by
  have h1 := congrArg val h
  rw [val_digs, val_digs] at h1
  have e8 : 2 ^ 8 = 256 := by decide
  rw [e8] at h1
  omega
theorem D_inj : ∀ (a b : List Nat), (∀ x ∈ a, x < 256) → (∀ x ∈ b, x < 256) → D a = D b → a = b
  | [], [], _, _, _ => rfl
  | [], y :: b, _, _, h => by
    have := congrArg List.length h
    rw [D_length, D_length] at this
    simp at this
  | x :: a, [], _, _, h => by
    have := congrArg List.length h
    rw [D_length, D_length] at this
    simp at this
  | x :: a, y :: b, ha, hb, h => by
    rw [D_cons, D_cons] at h
    obtain ⟨h1, h2⟩ := List.append_inj h (by rw [digs_length, digs_length])
    rw [digs8_inj x y (ha x (by simp)) (hb y (by simp)) h1, D_inj a b (fun z hz => ha z (by simp [hz])) (fun z hz => hb z (by simp [hz])) h2]
/-- Digits make the same bytes. -/
theorem Wrote.unique {a b d : List Nat} (h : Wrote a d) (k : Wrote b d) : a = b := by
  refine D_inj a b h.bytes k.bytes ?_
  rw [h.digits, k.digits, h.rows, k.rows]

theorem only_at {w w1 w2 : World} {b : Nat} (h : Only (fun _ => False) w w1) (hb : w.heap.size ≤ b) (ho : Only (fun k => k = b) w1 w2) : Only (fun _ => False) w w2 :=
  h.trans ho (fun i hi e => by omega)
theorem only_more {w w1 w2 : World} (h : Only (fun _ => False) w w1) (ho : Only (fun _ => False) w1 w2) : Only (fun _ => False) w w2 := h.trans ho (fun _ _ e => e)

/-- Of bytes that a literal laid just now. -/
theorem src_lit (w : World) (bs : List Nat) : Src (w.alloc (.cells (cellsOf bs).toArray 5)) (.slice (some ⟨w.heap.size, 0, none⟩) bs.length bs.length) bs := by
  refine .inr ⟨_, bs.length, rfl, Nat.le_refl _, fun j u hu => ?_⟩
  rw [add_plain, Nat.zero_add]
  have := (Is.made w 5 (cellsOf bs).toArray).cell j
  rw [this]
  simpa using hu
end Go.Proofs.Ytneogagainllnaa
