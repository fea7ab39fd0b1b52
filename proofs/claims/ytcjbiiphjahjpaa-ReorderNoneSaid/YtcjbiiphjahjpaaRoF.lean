/- slices.Insert of a packet that waits: at the end, and amid where there is room. Conditions: as each says. -/
import Derived.Test.YtcjbiiphjahjpaaRoE
import Derived.Lib.Overlaps
import Derived.Laws.Externs
set_option linter.unusedVariables false
set_option linter.unusedSimpArgs false
namespace Go.Proofs.Ytcjbiiphjahjpaa
open Go Go.RowKit

/-- An element is in. -/
def Inserted (v : Value) (i B : Nat) (xss : List (List Value)) (xs : List Value) (w : World) (e : Ending) (w' : World) : Prop :=
  ∃ v', e = .returned v' ∧ OwnS w' B 79 13 v' (xss.take i ++ xs :: xss.drop i) ∧ Only (fun k => v.ownBlock = some k) w w'
theorem step_copy_of {P : Program} {ops : Array Oper} {o : Oper} {a : Act} {w : World} {K : Act → World → Prop} {Q : Exit → Act → World → Prop} {E : Prop}
    (hg : o.guard = none) (d x : Operand) (dT sT : TypeId) (hop : o.op = Op.call { callee := Callee.builtin Builtin.copy, args := #[d, x], argTypes := #[dT, sT] })
    (v u : Value) (hd : a.eval d = v) (hx : a.eval x = u) {v' : Value} {w' : World} (hr : ∀ ty, (Builtin.copy_ #[dT, sT] ty #[v, u]).run P w = .ok v' w') (hK : K (a.put o.dst v') w') :
    if Region.wanted o (yielded ops a.tmps) = true then Oper.wp P o a w K Q else E := by
  have hw : Region.wanted o (yielded ops a.tmps) = true := by simp [Region.wanted, hg]
  rw [if_pos hw]
  unfold Oper.wp
  simp [execOp, hop, resolve, invoke, builtin, hd, hx, hr, Result.andThen]
  exact hK
set_option maxRecDepth 20000 in
set_option maxHeartbeats 1000000 in
theorem insert_end (v : Value) (n gx B : Nat) (xss : List (List Value)) (xs : List Value) (w : World) (h : OwnS w B 79 13 v xss) (hn : xss.length = n) (hI : Is w gx 79 xs.toArray) (hx : xs.length = 13) (h1 : ∀ u ∈ xs, u.oneCell' = true) (hl : n ≤ 1000) (hB : B ≤ w.heap.size) :
    Calls Try.prog 33 #[v, .int .i64 (n : Int), .slice (some ⟨gx, 0, none⟩) 1 1] w (Inserted v n B xss xs w) := by
  obtain ⟨A, c, rfl, hc⟩ := h.slice
  rw [hn] at h hc ⊢
  have H := Lib.hid h
  have HI := Lib.hid hI
  have H1 := Lib.hid h1
  have HN := Lib.hid hn
  have hcI : (n : Int) ≤ (c : Int) := by omega
  clear h hI h1 hn
  by_cases hq : c = n
  · subst hq
    go_enter Try.func33, Try.ntmps33
    go_wp2_with (at_builtin; refine wpList_append_struct _ rfl _ _ sty_wt rfl B (.slice A c c) xss rfl (by have := H.out; exact this) gx xs rfl HI.out hx H1.out (by rw [HN.out]; omega) (by decide) hB ?_; intro v' w1 hown ho)
    go_ret
    exact ⟨_, rfl, by rw [List.take_of_length_le (by rw [HN.out]; omega), List.drop_eq_nil_of_le (by rw [HN.out]; omega)]; exact hown, ho⟩
  · go_enter Try.func33, Try.ntmps33
    go_wp2_with (at_builtin; refine wpList_append_struct _ rfl _ _ sty_wt rfl B (.slice A n c) xss rfl (by have := H.out; exact this) gx xs rfl HI.out hx H1.out (by rw [HN.out]; omega) (by decide) hB ?_; intro v' w1 hown ho)
    go_ret
    exact ⟨_, rfl, by rw [List.take_of_length_le (by rw [HN.out]; omega), List.drop_eq_nil_of_le (by rw [HN.out]; omega)]; exact hown, ho⟩
end Go.Proofs.Ytcjbiiphjahjpaa
