/- Small words: worlds in a row, literals of bytes, a number of bytes. (DInj and VpR hold some of these, too: do not import both.) Conditions: as each says. -/
import Derived.Test.YtglgmhdajmncjaaCut
import Derived.Test.YtglgmhdajmncjaaBt
import Derived.Laws.Tables
set_option linter.unusedVariables false
namespace Go.Proofs.Ytglgmhdajmncjaa
open Go.RowKit

theorem only_more {w w1 w2 : World} (h : Only (fun _ => False) w w1) (ho : Only (fun _ => False) w1 w2) : Only (fun _ => False) w w2 := h.trans ho (fun _ _ e => e)
theorem only_stored {w w1 : World} {o : Obj} (h : Only (fun k => k = w.heap.size) (w.alloc o) w1) : Only (fun _ => False) w w1 :=
  ((Only.refl _ w).alloc o).trans h (fun i hi e => by omega)
/-- Of bytes that a literal laid just now. -/
theorem src_lit (w : World) (bs : List Nat) : Src (w.alloc (.cells (cellsOf bs).toArray 5)) (.slice (some ⟨w.heap.size, 0, none⟩) bs.length bs.length) bs := by
  refine .inr ⟨_, bs.length, rfl, Nat.le_refl _, fun j u hu => ?_⟩
  rw [add_plain, Nat.zero_add]
  have := (Is.made w 5 (cellsOf bs).toArray).cell j
  rw [this]
  simpa using hu
theorem Src.of_only {w w1 : World} {v : Value} {bs : List Nat} (h : Src w v bs) (ho : Only (fun _ => False) w w1) : Src w1 v bs := h.only ho (by simp)
theorem bt_drop (bs : List Nat) (k i : Nat) : bt (bs.drop k) i = bt bs (k + i) := by simp [bt, List.getD_eq_getElem?_getD]
theorem bt_take {bs : List Nat} {k i : Nat} (h : i < k) : bt (bs.take k) i = bt bs i := by simp [bt, List.getD_eq_getElem?_getD, h]

/-- The number of bytes, the greatest first. -/
def vu (bs : List Nat) : Nat := bs.foldl (fun n x => n * 256 + x) 0
theorem vu_snoc (bs : List Nat) (x : Nat) : vu (bs ++ [x]) = vu bs * 256 + x := by simp [vu]
theorem vu_lt : ∀ (n : Nat) (bs : List Nat), bs.length = n → (∀ x ∈ bs, x < 256) → vu bs < 256 ^ n
  | 0, bs, h, _ => by rw [List.eq_nil_of_length_eq_zero h]; decide
  | n + 1, bs, h, hb => by
    have hne : bs ≠ [] := fun e => by rw [e] at h; cases h
    rw [← List.dropLast_concat_getLast hne] at hb ⊢
    rw [vu_snoc, Nat.pow_succ]
    have h1 := vu_lt n bs.dropLast (by rw [List.length_dropLast, h]; rfl) (fun x hx => hb x (by simp [hx]))
    have h2 := hb (bs.getLast hne) (by simp)
    omega
theorem vu2 (bs : List Nat) (h : bs.length = 2) : vu bs = bt bs 0 * 256 + bt bs 1 := by
  match bs, h with
  | [x, y], _ => simp [vu, bt]
theorem run_load_at {P : Program} {o : Oper} {ρ : Operand → Value} {w : World} (ty : TypeId) (x : Operand) (ho : o.op = .load ty x) (g : Nat) (hx : ρ x = .pointer (some ⟨g, 0, none⟩)) (t : TypeId) (cs : Array Value) (d : TypeDesc) (hg : Is w g t cs)
    (hu : P.underlying ty = some d) (hd : (match d with | .struct _ | .array _ _ => true | _ => false) = true) (hi : (P.info? ty).map (·.size) = some cs.size) : (execOp ρ o).run P w = .ok (.value (.agg cs)) w := by
  unfold execOp
  simp only [ho, hx, Instr.loadAt, Instr.sureAddr, Sem.run_bind, Sem.run_pure, Result.andThen_ok, run_loadVar_row w g t ty cs (0, 0) d hg hu hd hi]
/-- Rows that are the same are told so. -/
theorem only_drewN (w : World) (n : Nat) : Only (fun _ => False) w (w.drewN n) := (Only.refl _ w).drewN n
end Go.Proofs.Ytglgmhdajmncjaa
