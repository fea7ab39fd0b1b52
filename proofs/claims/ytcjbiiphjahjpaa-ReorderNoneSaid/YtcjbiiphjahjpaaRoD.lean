/- Rows of structs: copy and clear of whole elements; slices.Delete. Conditions: as each says. -/
import Derived.Test.YtcjbiiphjahjpaaRoC
import Derived.Laws.IdiomCopy
import Derived.Deep.DeepAppendRoom
set_option linter.unusedVariables false
set_option linter.unusedSimpArgs false
namespace Go.Proofs.Ytcjbiiphjahjpaa
open Go Go.RowKit

section
variable {P : Program}
theorem run_copy_wide (w : World) (dT sT ty elem : TypeId) (b o dLen dCap : Nat) (a : Addr) (sLen sCap sz k : Nat) (cs : List Value)
    (hu : P.underlying dT = some (.slice elem)) (hs : (P.info? elem).map (·.size) = some sz) (hk : Nat.min sLen dLen = k) (hn : cs.length = k * sz)
    (hsrc : ∀ j v, cs[j]? = some v → w.cell? (a.add j) = some v) (hc : ∀ j, j < cs.length → (w.cell? ⟨b, o + j, none⟩).isSome = true) (hf : ∀ j, j < cs.length → w.frozen? ⟨b, o + j, none⟩ = false) (h1 : ∀ v ∈ cs, v.oneCell' = true) :
    (Builtin.copy_ #[dT, sT] ty #[.slice (some ⟨b, o, none⟩) dLen dCap, .slice (some a) sLen sCap]).run P w = .ok (goInt k) (w.setCells b o cs) := by
  have hl := run_loadCells_list (P := P) w a cs hsrc
  have hst := run_storeCells_cells (P := P) b o cs 0 w (by simpa using hc) (by simpa using hf) h1
  cases hq : P.info? elem with
  | none => simp [hq] at hs
  | some i =>
    have hi : i.size = sz := by simpa [hq] using hs
    simp [Builtin.copy_, run_underlying hu, Builtin.lenOf, Builtin.firstCells, sizeOf, typeInfo, hq, hi, hk, ← hn, hl, hst]
theorem run_clear_wide (w : World) (t e ty : TypeId) (z : Value) (ht : P.underlying t = some (.slice e)) (hv : ∀ w, (zeroValue e).run P w = .ok z w) (b o n c : Nat) (hn : 0 < n)
    (hc : ∀ j, j < (Builtin.zeroCells z.cells n).toList.length → (w.cell? ⟨b, o + j, none⟩).isSome = true) (hf : ∀ j, j < (Builtin.zeroCells z.cells n).toList.length → w.frozen? ⟨b, o + j, none⟩ = false) (h1 : ∀ v ∈ (Builtin.zeroCells z.cells n).toList, v.oneCell' = true) :
    (Builtin.clear_ #[t] ty #[.slice (some ⟨b, o, none⟩) n c]).run P w = .ok (.tuple #[]) (w.setCells b o (Builtin.zeroCells z.cells n).toList) := by
  have hst := run_storeCells_cells (P := P) b o (Builtin.zeroCells z.cells n).toList 0 w (by simpa using hc) (by simpa using hf) h1
  obtain ⟨m, rfl⟩ : ∃ m, n = m + 1 := ⟨n - 1, by omega⟩
  simp [Builtin.clear_, run_underlying ht, hv, hst]
theorem wpList_copy_of {w : World} {ops : Array Oper} {rest : List Oper} {o : Oper} {a : Act} {Q : Exit → Act → World → Prop} (hgd : o.guard = none) (d s : Operand) (t t' : TypeId)
    (ho : o.op = .call { callee := .builtin .copy, args := #[d, s], argTypes := #[t, t'] }) (v u : Value) (hd : a.eval d = v) (hs : a.eval s = u) {v' : Value} {w' : World}
    (hr : ∀ ty, (Builtin.copy_ #[t, t'] ty #[v, u]).run P w = .ok v' w') (h : wpList P ops Q rest (a.put o.dst v') w') : wpList P ops Q (o :: rest) a w :=
  wpList_plain hgd fun _ hK => by
    unfold Oper.wp execOp
    simp only [ho, resolve, invoke, builtin, Sem.run_bind, Sem.run_pure, Result.andThen_ok, List.map_toArray, List.map_cons, List.map_nil, hd, hs, hr]
    exact hK _ _ h
theorem wpList_clear_of {w : World} {ops : Array Oper} {rest : List Oper} {o : Oper} {a : Act} {Q : Exit → Act → World → Prop} (hgd : o.guard = none) (s : Operand) (t : TypeId)
    (ho : o.op = .call { callee := .builtin .clear, args := #[s], argTypes := #[t] }) (u : Value) (hs : a.eval s = u) {v' : Value} {w' : World}
    (hr : ∀ ty, (Builtin.clear_ #[t] ty #[u]).run P w = .ok v' w') (h : wpList P ops Q rest (a.put o.dst v') w') : wpList P ops Q (o :: rest) a w :=
  wpList_plain hgd fun _ hK => by
    unfold Oper.wp execOp
    simp only [ho, resolve, invoke, builtin, Sem.run_bind, Sem.run_pure, Result.andThen_ok, List.map_toArray, List.map_cons, List.map_nil, hs, hr]
    exact hK _ _ h
end
theorem zeroCells_size (z : Array Value) : ∀ n, (Builtin.zeroCells z n).size = n * z.size := by
  intro n
  simp [Builtin.zeroCells]
def zeroWt : Array Value := #[.int .u64 0, .int .u64 0, .bool false, .int .u8 0, .int .u16 0, .int .u32 0, .int .u32 0, .slice none 0 0, .bool false, .int .u16 0, .slice none 0 0, .slice none 0 0, .int .u8 0]
theorem Try.infoWt : (Try.prog.info? 79).map (fun i => (i.zero, i.size, i.bytes)) = some (some (.agg zeroWt), 13, 120) := by kernel_rfl
theorem sty_wt : Sty 63 79 13 120 := by
  obtain ⟨i0, hi, hz0, hz1, hz2⟩ := info_parts Try.infoWt
  exact ⟨Try.underlying63, ⟨i0, _, hi, hz0, hz1, hz2, rfl⟩, by decide⟩
theorem Try.sizeWt : (Try.prog.info? 79).map (·.size) = some 13 := by kernel_rfl
theorem zeroWt_one : ∀ n, ∀ v ∈ (Builtin.zeroCells zeroWt n).toList, v.oneCell' = true := by
  intro n v hv
  simp only [Builtin.zeroCells, Array.toList_map, List.mem_map, Array.toList_range, List.mem_range] at hv
  obtain ⟨i, _, rfl⟩ := hv
  have : i % zeroWt.size < 13 := Nat.mod_lt _ (by decide)
  generalize i % zeroWt.size = j at *
  have : j = 0 ∨ j = 1 ∨ j = 2 ∨ j = 3 ∨ j = 4 ∨ j = 5 ∨ j = 6 ∨ j = 7 ∨ j = 8 ∨ j = 9 ∨ j = 10 ∨ j = 11 ∨ j = 12 := by omega
  rcases this with rfl | rfl | rfl | rfl | rfl | rfl | rfl | rfl | rfl | rfl | rfl | rfl | rfl <;> rfl
/-- The first elements of a row, as a row of its own in the same block. -/
theorem OwnS.pre {w : World} {B : Nat} {T : TypeId} {sz g n c k : Nat} {xss : List (List Value)} (h : OwnS w B T sz (.slice (some ⟨g, 0, none⟩) n c) xss) (hn : xss.length = n) (hk : k ≤ n) : OwnS w B T sz (.slice (some ⟨g, 0, none⟩) k c) (xss.take k) := by
  rcases h.1.2 with ⟨e, h0⟩ | ⟨g', cap, cur, e, hb, hg, hc, hm, hcs, ht⟩
  · cases e
  · injection e with e1 e2 e3
    injection e1 with e1
    injection e1 with e1
    subst e1 e3
    have hfl := flat_length xss h.2
    have htl : (xss.take k).length = k := by rw [List.length_take]; omega
    have h2 : ∀ xs ∈ xss.take k, xs.length = sz := fun xs hx => h.2 xs (List.mem_of_mem_take hx)
    have hf2 := flat_length (xss.take k) h2
    have hmul : k * sz ≤ xss.length * sz := Nat.mul_le_mul_right _ (by omega)
    have hpre : (xss.take k).flatten = xss.flatten.take (k * sz) := by
      have e0 : xss.flatten = (xss.take k).flatten ++ (xss.drop k).flatten := by rw [← List.flatten_append, List.take_append_drop]
      have hf3 : (xss.take k).flatten.length = k * sz := by rw [hf2, htl]
      rw [e0, List.take_append_of_le_length (by rw [hf3]; exact Nat.le_refl _)]
      exact (List.take_of_length_le (by rw [hf3]; exact Nat.le_refl _)).symm
    refine ⟨⟨hf2, .inr ⟨g, c, cur, by rw [htl], hb, hg, by omega, hm, hcs, ?_⟩⟩, h2⟩
    rw [htl, hpre, ← ht, List.take_take, Nat.min_eq_left hmul]
/-- Cells of a row, from an element on. -/
theorem OwnS.from_ {w : World} {B : Nat} {T : TypeId} {sz g n c k : Nat} {xss : List (List Value)} (h : OwnS w B T sz (.slice (some ⟨g, 0, none⟩) n c) xss) (j : Nat) (u : Value) (hj : ((xss.drop k).flatten)[j]? = some u) : w.cell? ⟨g, k * sz + j, none⟩ = some u := by
  have hkl : k < xss.length := by
    rcases Nat.lt_or_ge k xss.length with h | h
    · exact h
    · rw [List.drop_eq_nil_of_le h] at hj
      simp at hj
  rcases h.1.2 with ⟨e, h0⟩ | ⟨g', cap, cur, e, hb, hg, hc, hm, hcs, ht⟩
  · cases e
  · injection e with e1 e2 e3
    injection e1 with e1
    injection e1 with e1
    subst e1 e3
    have hfl := flat_length xss h.2
    have h2 : ∀ xs ∈ xss.take k, xs.length = sz := fun xs hx => h.2 xs (List.mem_of_mem_take hx)
    have hf2 := flat_length (xss.take k) h2
    rw [show (xss.take k).length = k by rw [List.length_take]; omega] at hf2
    have e0 : xss.flatten = (xss.take k).flatten ++ (xss.drop k).flatten := by rw [← List.flatten_append, List.take_append_drop]
    have hq : xss.flatten[k * sz + j]? = some u := by
      rw [e0, List.getElem?_append_right (by omega), hf2, Nat.add_sub_cancel_left]
      exact hj
    have hlt : k * sz + j < xss.length * sz := by rw [← hfl]; exact (List.getElem?_eq_some_iff.1 hq).1
    rw [cell_of_row w g (k * sz + j) cur T (0, 0) hg, ← hq, ← ht, List.getElem?_take_of_lt hlt]
    simp
/-- The first elements of what is left, when cells behind them are written. -/
theorem own_tail {w : World} {B : Nat} {T : TypeId} {sz g n c : Nat} {xss : List (List Value)} (h : OwnS w B T sz (.slice (some ⟨g, 0, none⟩) n c) xss) (hn : xss.length = n) (vs : List Value) (hv : n * sz + vs.length ≤ c * sz) : OwnS (w.setCells g (n * sz) vs) B T sz (.slice (some ⟨g, 0, none⟩) n c) xss ∧ Only (fun k => k = g) w (w.setCells g (n * sz) vs) := by
  rcases h.1.2 with ⟨e, h0⟩ | ⟨g', cap, cur, e, hb, hg, hc, hm, hcs, ht⟩
  · cases e
  · injection e with e1 e2 e3
    injection e1 with e1
    injection e1 with e1
    subst e1 e3
    refine ⟨⟨⟨h.1.1, .inr ⟨g, c, setA cur (n * sz) vs, by rw [hn], hb, Is.many vs _ _ _ _ hg, hc, hm, by rw [setA_size]; exact hcs, ?_⟩⟩, h.2⟩, Only.many vs _ _ (Only.refl _ w) (fun _ => rfl)⟩
    rw [← ht]
    apply List.ext_getElem?
    intro j
    rw [List.getElem?_take, List.getElem?_take, hn]
    by_cases hj : j < n * sz
    · rw [if_pos hj, if_pos hj, Array.getElem?_toList, Array.getElem?_toList, setA_get vs cur _ j (by omega), if_neg (by omega)]
    · rw [if_neg hj, if_neg hj]
theorem own_is {w : World} {B : Nat} {T : TypeId} {sz g n c : Nat} {xss : List (List Value)} (h : OwnS w B T sz (.slice (some ⟨g, 0, none⟩) n c) xss) : ∃ cur, Is w g T cur ∧ cur.size = c * sz ∧ xss.length ≤ c ∧ c ≤ maxLen ∧ n = xss.length := by
  rcases h.1.2 with ⟨e, h0⟩ | ⟨g', cap, cur, e, hb, hg, hc, hm, hcs, ht⟩
  · cases e
  · injection e with e1 e2 e3
    injection e1 with e1
    injection e1 with e1
    subst e1 e3
    exact ⟨cur, hg, hcs, hc, hm, e2⟩
end Go.Proofs.Ytcjbiiphjahjpaa
