/- Rows of structs: a row appended to a row; either may be nil. Conditions: as each says. -/
import Derived.Test.YtglgmhdajmncjaaRowS
set_option linter.unusedVariables false
set_option linter.unusedSimpArgs false
namespace Go.Proofs.Ytglgmhdajmncjaa
open Go Go.RowKit

theorem append_rowsT0 {o : Oper} {a : Act} {K : Act → World → Prop} {Q : Exit → Act → World → Prop} (w : World) (s x : Operand) {t T : TypeId} {sz bytes : Nat} (st : Sty t T sz bytes)
    (ho : o.op = .call { callee := .builtin .append, args := #[s, x], argTypes := #[t, t] })
    (B : Nat) (v : Value) (xss : List (List Value)) (hs : a.eval s = v) (hown : OwnS w B T sz v xss) (B2 : Nat) (v2 : Value) (yss : List (List Value)) (hx : a.eval x = v2) (hown2 : OwnS w B2 T sz v2 yss) (hp : 0 < yss.length)
    (h1 : ∀ ys ∈ yss, ∀ u ∈ ys, u.oneCell' = true)
    (hl : xss.length + yss.length ≤ 100000) (hby : bytes ≤ 100000) (hB : B ≤ w.heap.size)
    (h : ∀ v' w', OwnS w' B T sz v' (xss ++ yss) → Only (fun k => v.ownBlock = some k) w w' → K (a.put o.dst v') w') :
    Oper.wp Try.prog o a w K Q := by
  obtain ⟨i0, z, hi, hz0, hz1, hz2, hz3⟩ := st.info
  obtain ⟨g, c, e, -, hc, -, -⟩ := hown2.place hp
  subst e
  have hb1 : (xss.length + yss.length) * bytes ≤ 100000 * 100000 := Nat.mul_le_mul (by omega) hby
  refine wp_append_own w s x t ho B T i0 z sz bytes st.und hi hz0 hz1 hz2 hz3 st.pos v xss.length xss.flatten hs hown.1 ⟨g, 0, none⟩ yss.length c yss.flatten hx (flat_length _ hown2.2) (fun j u hu => ?_) (fun u hu => ?_) (by unfold maxLen; omega) (by omega) hB (fun v' w' h1 h2 _ => h v' w' ⟨?_, ?_⟩ ?_)
  · rw [add_plain]
    have := hown2.from_ (k := 0) j u (by simpa using hu)
    rw [Nat.zero_mul] at this
    exact this
  · obtain ⟨ys, hy, hu⟩ := List.mem_flatten.1 hu
    exact h1 ys hy u hu
  · rw [List.length_append, List.flatten_append]
    exact h1
  · intro ys hy
    rcases List.mem_append.1 hy with hy | hy
    · exact hown.2 ys hy
    · exact hown2.2 ys hy
  · exact (Only.refl _ w).grown h2 (fun i hi _ => hi)
theorem append_rowsT {o : Oper} {a : Act} {K : Act → World → Prop} {Q : Exit → Act → World → Prop} (w : World) (s x : Operand) {t T : TypeId} {sz bytes : Nat} (st : Sty t T sz bytes)
    (ho : o.op = .call { callee := .builtin .append, args := #[s, x], argTypes := #[t, t] })
    (B : Nat) (v : Value) (xss : List (List Value)) (hs : a.eval s = v) (hown : OwnS w B T sz v xss) (B2 : Nat) (v2 : Value) (yss : List (List Value)) (hx : a.eval x = v2) (hown2 : OwnS w B2 T sz v2 yss)
    (h1 : ∀ ys ∈ yss, ∀ u ∈ ys, u.oneCell' = true)
    (hl : xss.length + yss.length ≤ 100000) (hby : bytes ≤ 100000) (hB : B ≤ w.heap.size)
    (h : ∀ v' w', OwnS w' B T sz v' (xss ++ yss) → Only (fun k => v.ownBlock = some k) w w' → K (a.put o.dst v') w') :
    Oper.wp Try.prog o a w K Q := by
  rcases Nat.eq_zero_or_pos yss.length with h0 | hp
  · obtain rfl := List.eq_nil_of_length_eq_zero h0
    obtain ⟨i0, z, hi, hz0, hz1, hz2, hz3⟩ := st.info
    have hb1 : xss.length * bytes ≤ 100000 * 100000 := Nat.mul_le_mul (by simp at hl; omega) hby
    rcases hown2.1.2 with ⟨rfl, -⟩ | ⟨g, cap, cur, rfl, -⟩
    · have hrun := run_append_owned_none (P := Try.prog) w B t o.type T i0 sz st.und hi v xss.length xss.flatten hown.1
      unfold Oper.wp
      simp [execOp, ho, resolve, invoke, builtin, hs, hx, hrun, Result.andThen]
      exact h v w (by rw [List.append_nil]; exact hown) (Only.refl _ w)
    · refine wp_append_own w s x t ho B T i0 z sz bytes st.und hi hz0 hz1 hz2 hz3 st.pos v xss.length xss.flatten hs hown.1 ⟨g, 0, none⟩ 0 cap [] hx (by simp) (by simp) (by simp) (by unfold maxLen; simp at hl; omega) (by simp; omega) hB (fun v' w' h1 h2 _ => h v' w' ⟨?_, ?_⟩ ?_)
      · simpa using h1
      · rw [List.append_nil]
        exact hown.2
      · exact (Only.refl _ w).grown h2 (fun i hi _ => hi)
  · exact append_rowsT0 w s x st ho B v xss hs hown B2 v2 yss hx hown2 hp h1 hl hby hB h
theorem wpList_append_rowsT {ops : Array Oper} {rest : List Oper} {o : Oper} {a : Act} {Q : Exit → Act → World → Prop} (w : World) (hgd : o.guard = none) (s x : Operand) {t T : TypeId} {sz bytes : Nat} (st : Sty t T sz bytes)
    (ho : o.op = .call { callee := .builtin .append, args := #[s, x], argTypes := #[t, t] })
    (B : Nat) (v : Value) (xss : List (List Value)) (hs : a.eval s = v) (hown : OwnS w B T sz v xss) (B2 : Nat) (v2 : Value) (yss : List (List Value)) (hx : a.eval x = v2) (hown2 : OwnS w B2 T sz v2 yss)
    (h1 : ∀ ys ∈ yss, ∀ u ∈ ys, u.oneCell' = true)
    (hl : xss.length + yss.length ≤ 100000) (hby : bytes ≤ 100000) (hB : B ≤ w.heap.size)
    (h : ∀ v' w', OwnS w' B T sz v' (xss ++ yss) → Only (fun k => v.ownBlock = some k) w w' → wpList Try.prog ops Q rest (a.put o.dst v') w') :
    wpList Try.prog ops Q (o :: rest) a w :=
  wpList_plain hgd fun _ hK => append_rowsT w s x st ho B v xss hs hown B2 v2 yss hx hown2 h1 hl hby hB fun v' w' h1 h2 => hK _ _ (h v' w' h1 h2)
end Go.Proofs.Ytglgmhdajmncjaa
