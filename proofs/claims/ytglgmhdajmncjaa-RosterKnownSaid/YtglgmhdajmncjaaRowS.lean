/- Rows of structs: copy and clear of whole elements; the first elements of a row; what an append over them leaves. Conditions: as each says. -/
import Derived.Test.YtglgmhdajmncjaaStrW
import Derived.Laws.IdiomCopy
import Derived.Deep.DeepAppendRoom
import Derived.Deep.RegionLaw
import Derived.Maps.AppendAt
set_option linter.unusedVariables false
set_option linter.unusedSimpArgs false
namespace Go.Proofs.Ytglgmhdajmncjaa
open Go Go.RowKit

section
variable {P : Program}
theorem run_copy_wide (w : World) (dT sT ty elem : TypeId) (b o dLen dCap : Nat) (a : Addr) (sLen sCap sz k : Nat) (cs : List Value)
    (hu : P.underlying dT = some (.slice elem)) (hs : (P.info? elem).map (·.size) = some sz) (hk : Nat.min sLen dLen = k) (hn : cs.length = k * sz)
    (hsrc : ∀ j v, cs[j]? = some v → w.cell? (a.add j) = some v) (hc : ∀ j, j < cs.length → (w.cell? ⟨b, o + j, none⟩).isSome = true) (hf : ∀ j, j < cs.length → w.frozen? ⟨b, o + j, none⟩ = false) (h1 : ∀ v ∈ cs, v.oneCell' = true) :
    (Builtin.copy_ #[dT, sT] ty #[.slice (some ⟨b, o, none⟩) dLen dCap, .slice (some a) sLen sCap]).run P w = .ok (goInt k) (w.setCells b o cs) := by
  have hl := run_loadCells_list (P := P) w a cs hsrc
  have hst := run_storeCells_cells (P := P) b o cs 0 w (by simpa using hc) (by simpa using hf) h1
  cases hq : P.info? elem with
  | none => simp [hq] at hs
  | some i =>
    have hi : i.size = sz := by simpa [hq] using hs
    simp [Builtin.copy_, run_underlying hu, Builtin.lenOf, Builtin.firstCells, sizeOf, typeInfo, hq, hi, hk, ← hn, hl, hst]
theorem run_clear_wide (w : World) (t e ty : TypeId) (z : Value) (ht : P.underlying t = some (.slice e)) (hv : ∀ w, (zeroValue e).run P w = .ok z w) (b o n c : Nat) (hn : 0 < n)
    (hc : ∀ j, j < (Builtin.zeroCells z.cells n).toList.length → (w.cell? ⟨b, o + j, none⟩).isSome = true) (hf : ∀ j, j < (Builtin.zeroCells z.cells n).toList.length → w.frozen? ⟨b, o + j, none⟩ = false) (h1 : ∀ v ∈ (Builtin.zeroCells z.cells n).toList, v.oneCell' = true) :
    (Builtin.clear_ #[t] ty #[.slice (some ⟨b, o, none⟩) n c]).run P w = .ok (.tuple #[]) (w.setCells b o (Builtin.zeroCells z.cells n).toList) := by
  have hst := run_storeCells_cells (P := P) b o (Builtin.zeroCells z.cells n).toList 0 w (by simpa using hc) (by simpa using hf) h1
  obtain ⟨m, rfl⟩ : ∃ m, n = m + 1 := ⟨n - 1, by omega⟩
  simp [Builtin.clear_, run_underlying ht, hv, hst]
theorem wpList_copy_of {w : World} {ops : Array Oper} {rest : List Oper} {o : Oper} {a : Act} {Q : Exit → Act → World → Prop} (hgd : o.guard = none) (d s : Operand) (t t' : TypeId)
    (ho : o.op = .call { callee := .builtin .copy, args := #[d, s], argTypes := #[t, t'] }) (v u : Value) (hd : a.eval d = v) (hs : a.eval s = u) {v' : Value} {w' : World}
    (hr : ∀ ty, (Builtin.copy_ #[t, t'] ty #[v, u]).run P w = .ok v' w') (h : wpList P ops Q rest (a.put o.dst v') w') : wpList P ops Q (o :: rest) a w :=
  wpList_plain hgd fun _ hK => by
    unfold Oper.wp execOp
    simp only [ho, resolve, invoke, builtin, Sem.run_bind, Sem.run_pure, Result.andThen_ok, List.map_toArray, List.map_cons, List.map_nil, hd, hs, hr]
    exact hK _ _ h
theorem wpList_clear_of {w : World} {ops : Array Oper} {rest : List Oper} {o : Oper} {a : Act} {Q : Exit → Act → World → Prop} (hgd : o.guard = none) (s : Operand) (t : TypeId)
    (ho : o.op = .call { callee := .builtin .clear, args := #[s], argTypes := #[t] }) (u : Value) (hs : a.eval s = u) {v' : Value} {w' : World}
    (hr : ∀ ty, (Builtin.clear_ #[t] ty #[u]).run P w = .ok v' w') (h : wpList P ops Q rest (a.put o.dst v') w') : wpList P ops Q (o :: rest) a w :=
  wpList_plain hgd fun _ hK => by
    unfold Oper.wp execOp
    simp only [ho, resolve, invoke, builtin, Sem.run_bind, Sem.run_pure, Result.andThen_ok, List.map_toArray, List.map_cons, List.map_nil, hs, hr]
    exact hK _ _ h
end
theorem zeroCells_size (z : Array Value) : ∀ n, (Builtin.zeroCells z n).size = n * z.size := by
  intro n
  simp [Builtin.zeroCells]
/-- The first elements of a row, as a row of its own in the same block. -/
theorem OwnS.pre {w : World} {B : Nat} {T : TypeId} {sz g n c k : Nat} {xss : List (List Value)} (h : OwnS w B T sz (.slice (some ⟨g, 0, none⟩) n c) xss) (hn : xss.length = n) (hk : k ≤ n) : OwnS w B T sz (.slice (some ⟨g, 0, none⟩) k c) (xss.take k) := by
  rcases h.1.2 with ⟨e, h0⟩ | ⟨g', cap, cur, e, hb, hg, hc, hm, hcs, ht⟩
  · cases e
  · injection e with e1 e2 e3
    injection e1 with e1
    injection e1 with e1
    subst e1 e3
    have hfl := flat_length xss h.2
    have htl : (xss.take k).length = k := by rw [List.length_take]; omega
    have h2 : ∀ xs ∈ xss.take k, xs.length = sz := fun xs hx => h.2 xs (List.mem_of_mem_take hx)
    have hf2 := flat_length (xss.take k) h2
    have hmul : k * sz ≤ xss.length * sz := Nat.mul_le_mul_right _ (by omega)
    have hpre : (xss.take k).flatten = xss.flatten.take (k * sz) := by
      have e0 : xss.flatten = (xss.take k).flatten ++ (xss.drop k).flatten := by rw [← List.flatten_append, List.take_append_drop]
      have hf3 : (xss.take k).flatten.length = k * sz := by rw [hf2, htl]
      rw [e0, List.take_append_of_le_length (by rw [hf3]; exact Nat.le_refl _)]
      exact (List.take_of_length_le (by rw [hf3]; exact Nat.le_refl _)).symm
    refine ⟨⟨hf2, .inr ⟨g, c, cur, by rw [htl], hb, hg, by omega, hm, hcs, ?_⟩⟩, h2⟩
    rw [htl, hpre, ← ht, List.take_take, Nat.min_eq_left hmul]
/-- Cells of a row, from an element on. -/
theorem OwnS.from_ {w : World} {B : Nat} {T : TypeId} {sz g n c k : Nat} {xss : List (List Value)} (h : OwnS w B T sz (.slice (some ⟨g, 0, none⟩) n c) xss) (j : Nat) (u : Value) (hj : ((xss.drop k).flatten)[j]? = some u) : w.cell? ⟨g, k * sz + j, none⟩ = some u := by
  have hkl : k < xss.length := by
    rcases Nat.lt_or_ge k xss.length with h | h
    · exact h
    · rw [List.drop_eq_nil_of_le h] at hj
      simp at hj
  rcases h.1.2 with ⟨e, h0⟩ | ⟨g', cap, cur, e, hb, hg, hc, hm, hcs, ht⟩
  · cases e
  · injection e with e1 e2 e3
    injection e1 with e1
    injection e1 with e1
    subst e1 e3
    have hfl := flat_length xss h.2
    have h2 : ∀ xs ∈ xss.take k, xs.length = sz := fun xs hx => h.2 xs (List.mem_of_mem_take hx)
    have hf2 := flat_length (xss.take k) h2
    rw [show (xss.take k).length = k by rw [List.length_take]; omega] at hf2
    have e0 : xss.flatten = (xss.take k).flatten ++ (xss.drop k).flatten := by rw [← List.flatten_append, List.take_append_drop]
    have hq : xss.flatten[k * sz + j]? = some u := by
      rw [e0, List.getElem?_append_right (by omega), hf2, Nat.add_sub_cancel_left]
      exact hj
    have hlt : k * sz + j < xss.length * sz := by rw [← hfl]; exact (List.getElem?_eq_some_iff.1 hq).1
    rw [cell_of_row w g (k * sz + j) cur T (0, 0) hg, ← hq, ← ht, List.getElem?_take_of_lt hlt]
    simp
/-- The first elements of what is left, when cells behind them are written. -/
theorem own_tail {w : World} {B : Nat} {T : TypeId} {sz g n c : Nat} {xss : List (List Value)} (h : OwnS w B T sz (.slice (some ⟨g, 0, none⟩) n c) xss) (hn : xss.length = n) (vs : List Value) (hv : n * sz + vs.length ≤ c * sz) : OwnS (w.setCells g (n * sz) vs) B T sz (.slice (some ⟨g, 0, none⟩) n c) xss ∧ Only (fun k => k = g) w (w.setCells g (n * sz) vs) := by
  rcases h.1.2 with ⟨e, h0⟩ | ⟨g', cap, cur, e, hb, hg, hc, hm, hcs, ht⟩
  · cases e
  · injection e with e1 e2 e3
    injection e1 with e1
    injection e1 with e1
    subst e1 e3
    refine ⟨⟨⟨h.1.1, .inr ⟨g, c, setA cur (n * sz) vs, by rw [hn], hb, Is.many vs _ _ _ _ hg, hc, hm, by rw [setA_size]; exact hcs, ?_⟩⟩, h.2⟩, Only.many vs _ _ (Only.refl _ w) (fun _ => rfl)⟩
    rw [← ht]
    apply List.ext_getElem?
    intro j
    rw [List.getElem?_take, List.getElem?_take, hn]
    by_cases hj : j < n * sz
    · rw [if_pos hj, if_pos hj, Array.getElem?_toList, Array.getElem?_toList, setA_get vs cur _ j (by omega), if_neg (by omega)]
    · rw [if_neg hj, if_neg hj]
theorem own_is {w : World} {B : Nat} {T : TypeId} {sz g n c : Nat} {xss : List (List Value)} (h : OwnS w B T sz (.slice (some ⟨g, 0, none⟩) n c) xss) : ∃ cur, Is w g T cur ∧ cur.size = c * sz ∧ xss.length ≤ c ∧ c ≤ maxLen ∧ n = xss.length := by
  rcases h.1.2 with ⟨e, h0⟩ | ⟨g', cap, cur, e, hb, hg, hc, hm, hcs, ht⟩
  · cases e
  · injection e with e1 e2 e3
    injection e1 with e1
    injection e1 with e1
    subst e1 e3
    exact ⟨cur, hg, hcs, hc, hm, e2⟩
/-- What an append over the first elements leaves. -/
theorem own_shift {w : World} {B g n c k m : Nat} {xss : List (List Value)} {T : TypeId} {sz : Nat} (h : OwnS w B T sz (.slice (some ⟨g, 0, none⟩) n c) xss) (hn : xss.length = n) (hm : n - k = m) (hkn : k ≤ n) :
    OwnS (w.setCells g 0 (xss.drop k).flatten) B T sz (.slice (some ⟨g, 0, none⟩) m c) (xss.drop k) ∧ Only (fun j => j = g) w (w.setCells g 0 (xss.drop k).flatten) := by
  have h2 : ∀ xs ∈ xss.drop k, xs.length = sz := fun xs hx => h.2 xs (List.mem_of_mem_drop hx)
  have hl : (xss.drop k).length = m := by rw [List.length_drop]; omega
  have hfl := flat_length _ h2
  rw [hl] at hfl
  rcases h.1.2 with ⟨e, h0⟩ | ⟨g', cap, cur, e, hb, hg, hc, hmx, hcs, ht⟩
  · cases e
  · injection e with e1 e2 e3
    injection e1 with e1
    injection e1 with e1
    subst e1 e3
    have hmc : m * sz ≤ c * sz := Nat.mul_le_mul_right _ (by omega)
    refine ⟨⟨⟨by rw [hl]; exact hfl, .inr ⟨g, c, setA cur 0 (xss.drop k).flatten, by rw [hl], hb, Is.many _ _ _ _ _ hg, by omega, hmx, by rw [setA_size]; exact hcs, ?_⟩⟩, h2⟩, Only.many _ _ _ (Only.refl _ w) (fun _ => rfl)⟩
    rw [hl]
    apply List.ext_getElem?
    intro j
    rw [List.getElem?_take, Array.getElem?_toList, setA_get _ cur 0 j (by omega)]
    by_cases hj : j < m * sz
    · rw [if_pos hj, if_pos (by omega), Nat.sub_zero]
    · rw [if_neg hj, List.getElem?_eq_none (by omega)]
/-- An append of a struct: and where the row lies then. -/
theorem append_runN {o : Oper} {a : Act} {K : Act → World → Prop} {Q : Exit → Act → World → Prop} (w : World) (s x : Operand) {t T : TypeId} {sz bytes : Nat} (st : Sty t T sz bytes)
    (ho : o.op = .call { callee := .builtin .append, args := #[s, x], argTypes := #[t, t] })
    (B : Nat) (v : Value) (xss : List (List Value)) (hs : a.eval s = v) (hown : OwnS w B T sz v xss) (g : Nat) (xs : List Value) (hx : a.eval x = .slice (some ⟨g, 0, none⟩) 1 1) (hsrc : Is w g T xs.toArray)
    (hxl : xs.length = sz) (h1 : ∀ u ∈ xs, u.oneCell' = true)
    (hl : xss.length ≤ 100000) (hby : bytes ≤ 100000) (hB : B ≤ w.heap.size)
    (h : ∀ v' w', OwnS w' B T sz v' (xss ++ [xs]) → Only (fun k => v.ownBlock = some k) w w' → (∀ k, v'.ownBlock = some k → v.ownBlock = some k ∨ w.heap.size ≤ k) → K (a.put o.dst v') w') :
    Oper.wp Try.prog o a w K Q := by
  obtain ⟨i0, z, hi, hz0, hz1, hz2, hz3⟩ := st.info
  have hb1 : (xss.length + 1) * bytes ≤ 100001 * 100000 := Nat.mul_le_mul (by omega) hby
  obtain ⟨v', w', hr, h2, h3, h4, h5⟩ := run_append_own_at (P := Try.prog) w B t o.type T i0 z sz bytes st.und hi hz0 hz1 hz2 hz3 st.pos v xss.length xss.flatten hown.1 ⟨g, 0, none⟩ 1 1 xs (by rw [hxl, Nat.one_mul]) (fun j u hu => by
    rw [add_plain, hsrc.cell]
    simpa using hu) h1 (by unfold maxLen; omega) (by omega) hB
  unfold Oper.wp execOp
  simp only [ho, resolve, invoke, builtin, Sem.run_bind, Sem.run_pure, Result.andThen_ok, List.map_toArray, List.map_cons, List.map_nil, hs, hx, hr]
  refine h v' w' ⟨?_, ?_⟩ ((Only.refl _ w).grown h3 (fun i hi _ => hi)) (fun k hk => ?_)
  · rw [List.length_append, List.flatten_append]
    simpa using h2
  · intro ys hy
    rcases List.mem_append.1 hy with hy | hy
    · exact hown.2 ys hy
    · rw [List.mem_singleton.1 hy]; exact hxl
  · rcases h5 with e | e
    · exact .inl (e ▸ hk)
    · rw [e] at hk
      injection hk with hk
      exact .inr (by omega)
theorem wpList_append_structN {ops : Array Oper} {rest : List Oper} {o : Oper} {a : Act} {Q : Exit → Act → World → Prop} (w : World) (hgd : o.guard = none) (s x : Operand) {t T : TypeId} {sz bytes : Nat} (st : Sty t T sz bytes)
    (ho : o.op = .call { callee := .builtin .append, args := #[s, x], argTypes := #[t, t] })
    (B : Nat) (v : Value) (xss : List (List Value)) (hs : a.eval s = v) (hown : OwnS w B T sz v xss) (g : Nat) (xs : List Value) (hx : a.eval x = .slice (some ⟨g, 0, none⟩) 1 1) (hsrc : Is w g T xs.toArray)
    (hxl : xs.length = sz) (h1 : ∀ u ∈ xs, u.oneCell' = true)
    (hl : xss.length ≤ 100000) (hby : bytes ≤ 100000) (hB : B ≤ w.heap.size)
    (h : ∀ A c w', OwnS w' B T sz (.slice A (xss.length + 1) c) (xss ++ [xs]) → Only (fun k => v.ownBlock = some k) w w' → (∀ k, Value.ownBlock (.slice A (xss.length + 1) c) = some k → v.ownBlock = some k ∨ w.heap.size ≤ k) → wpList Try.prog ops Q rest (a.put o.dst (.slice A (xss.length + 1) c)) w') :
    wpList Try.prog ops Q (o :: rest) a w :=
  wpList_plain hgd fun _ hK => append_runN w s x st ho B v xss hs hown g xs hx hsrc hxl h1 hl hby hB fun v' w' h1 h2 h3 => by
    obtain ⟨A, c, rfl, -⟩ := h1.slice
    rw [List.length_append] at h1 h3 ⊢
    exact hK _ _ (h A c w' h1 h2 h3)
/-- A store amid a block; the world behind it is a letter. -/
theorem wpList_store_midw {P : Program} {ops : Array Oper} {rest : List Oper} {op : Oper} {a : Act} {w : World} {Q : Exit → Act → World → Prop} (hgd : op.guard = none) (ty : TypeId) (x y : Operand) (ho : op.op = .store ty x y)
    (b o : Nat) (cells : Array Value) (hx : a.eval x = .pointer (some ⟨b, o, none⟩)) (hy : a.eval y = .agg cells)
    (ht : w.there b o cells.size) (hi : (P.info? ty).map (·.size) = some cells.size) (h1 : cells.all (·.oneCell') = true)
    (h : ∀ w', w' = w.setCells b o cells.toList → wpList P ops Q rest (a.put op.dst undef) w') : wpList P ops Q (op :: rest) a w :=
  wpList_store_mid hgd ty x y ho b o cells hx hy ht hi h1 (h _ rfl)
theorem wpList_load_midW {P : Program} {ops : Array Oper} {rest : List Oper} {op : Oper} {a : Act} {w : World} {Q : Exit → Act → World → Prop} (hw : Region.wanted op (yielded ops a.tmps) = true) (ty : TypeId) (x : Operand) (ho : op.op = .load ty x)
    (b o : Nat) (hx : a.eval x = .pointer (some ⟨b, o, none⟩)) (cs : List Value) (d : TypeDesc) (hc : w.rangeAt b o cs)
    (hu : P.underlying ty = some d) (hd : d.isRow = true) (hi : (P.info? ty).map (·.size) = some cs.length)
    (h : wpList P ops Q rest (a.put op.dst (.agg cs.toArray)) w) : wpList P ops Q (op :: rest) a w :=
  wpList_want hw fun _ hK => wp_load_mid ty x ho b o hx cs d hc hu hd hi (hK _ _ h)
theorem results_is {P : Program} {fn : Func} {p q : Tmp} {ty : TypeId} (h : fn.results = #[.cell p ty, .tmp q]) (tmps : Array Value) (w : World) (g : Nat) (t : TypeId) (cs : Array Value) (d : TypeDesc) (x : Value)
    (hp : tmps.getD p undef = .pointer (some ⟨g, 0, none⟩)) (hq : tmps.getD q undef = x) (hg : Is w g t cs)
    (hu : P.underlying ty = some d) (hd : (match d with | .struct _ | .array _ _ => true | _ => false) = true) (hi : (P.info? ty).map (·.size) = some cs.size) :
    (results fn tmps).run P w = .ok (.tuple #[.agg cs, x]) w := by
  have hp' : tmps[p]?.getD undef = .pointer (some ⟨g, 0, none⟩) := by simpa using hp
  have hq' : tmps[q]?.getD undef = x := by simpa using hq
  simp [results, h, hp', hq', asAddr, run_loadVar_row w g t ty cs (0, 0) d hg hu hd hi]
end Go.Proofs.Ytglgmhdajmncjaa
