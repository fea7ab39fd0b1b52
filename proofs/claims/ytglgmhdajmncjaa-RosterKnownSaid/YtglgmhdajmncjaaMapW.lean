/- Maps keyed by numbers: what lies there, entry by entry, in the order in which they came; look-up, store of a new key, delete, len. Conditions: as each says. -/
import Derived.Test.YtglgmhdajmncjaaMem
import Derived.Maps.OwnSet
set_option linter.unusedVariables false
set_option linter.unusedSimpArgs false
namespace Go.Proofs.Ytglgmhdajmncjaa
open Go Go.RowKit
open Go.MapKept Go.ChangeMaps

/-- A map lies there: its entries, in the order in which they came. -/
def MapAt (w : World) (b : Nat) (q : IntKind) (ms : List (Nat × Value)) : Prop :=
  ∃ es clock, w.heap[b]? = some (.map es clock) ∧ Stamped es clock ∧ es.toList.map (fun e => (e.key, e.val)) = ms.map (fun m => (Value.int q (m.1 : Int), m.2)) ∧ ∀ m ∈ ms, (Lit.int q (m.1 : Int)).wf = true
def mget (ms : List (Nat × Value)) (n : Nat) : Option Value := (ms.find? (fun m => m.1 == n)).map (·.2)

section
variable {w w1 : World} {b n : Nat} {q : IntKind} {ms : List (Nat × Value)} {P : Program} {t k e : TypeId}
theorem MapAt.lt (h : MapAt w b q ms) : b < w.heap.size := by
  obtain ⟨es, c, hb, _⟩ := h
  exact lt_of_heap hb
theorem MapAt.only {S : Nat → Prop} (h : MapAt w b q ms) (ho : Only S w w1) (hn : ¬ S b) : MapAt w1 b q ms := by
  have hlt := h.lt
  obtain ⟨es, c, hb, r⟩ := h
  exact ⟨es, c, (ho.same b hlt hn).trans hb, r⟩
theorem MapAt.made (w : World) (q : IntKind) : MapAt (w.alloc (.map #[] 0)) w.heap.size q [] := ⟨#[], 0, heap_alloc_new w _, stamped_empty 0, by simp, by simp⟩
theorem map_nodup {l : List (Nat × Value)} (h : (l.map (fun m => Value.int q (m.1 : Int))).Nodup) : (l.map (·.1)).Nodup := by
  have : l.map (fun m => Value.int q (m.1 : Int)) = (l.map (·.1)).map (fun n : Nat => Value.int q (n : Int)) := by simp
  rw [this] at h
  exact (List.pairwise_map.1 h).imp (fun hne e => hne (by rw [e]))
theorem MapAt.nodup (h : MapAt w b q ms) : (ms.map (·.1)).Nodup := by
  obtain ⟨es, c, hb, ⟨_, _, hn⟩, he, _⟩ := h
  have := congrArg (List.map Prod.fst) he
  simp only [List.map_map, Function.comp_def] at this
  rw [this] at hn
  exact map_nodup hn
theorem mget_none (h : ∀ m ∈ ms, m.1 ≠ n) : mget ms n = none := by
  unfold mget
  rw [List.find?_eq_none.2 (fun m hm => by simpa using h m hm)]
  rfl
theorem mget_mem : ∀ {ms : List (Nat × Value)} {n : Nat} {v : Value}, (ms.map (·.1)).Nodup → (n, v) ∈ ms → mget ms n = some v
  | [], _, _, _, h => by simp at h
  | m :: r, n, v, hd, h => by
    simp only [List.map_cons, List.nodup_cons] at hd
    rcases List.mem_cons.1 h with rfl | h
    · simp [mget]
    · have hne : m.1 ≠ n := fun e => hd.1 (by rw [e]; exact List.mem_map.2 ⟨_, h, rfl⟩)
      have := mget_mem hd.2 h
      unfold mget at this ⊢
      rw [List.find?_cons_of_neg (by simpa using hne)]
      exact this
theorem mget_iff : mget ms n = none ↔ ∀ m ∈ ms, m.1 ≠ n := by
  constructor
  · intro h m hm e
    unfold mget at h
    simp only [Option.map_eq_none_iff, List.find?_eq_none] at h
    exact h m hm (by simpa using e)
  · exact mget_none
/-- What the map's own search finds. -/
theorem MapAt.find (h : MapAt w b q ms) (hk : P.underlying k = some (.int q)) (hn : (Lit.int q (n : Int)).wf = true) : ∃ es clock, w.heap[b]? = some (.map es clock) ∧ Stamped es clock ∧ es.toList.map (fun e => (e.key, e.val)) = ms.map (fun m => (Value.int q (m.1 : Int), m.2)) ∧
    (((Instr.findKey k (.int q n) es.toList).run P w = .ok none w ∧ (∀ e ∈ es.toList, e.key ≠ .int q n) ∧ mget ms n = none) ∨ ∃ j v, (Instr.findKey k (.int q n) es.toList).run P w = .ok (some (j, v)) w ∧ ms[j]? = some (n, v) ∧ mget ms n = some v) := by
  have hnd := h.nodup
  obtain ⟨es, c, hb, hst, he, hwf⟩ := h
  refine ⟨es, c, hb, hst, he, ?_⟩
  have hkey : ∀ e ∈ es.toList, ∃ l, keyOf P k e.key = some l := by
    intro e hm
    have : (e.key, e.val) ∈ es.toList.map (fun e => (e.key, e.val)) := List.mem_map.2 ⟨e, hm, rfl⟩
    rw [he] at this
    obtain ⟨m, hm, hme⟩ := List.mem_map.1 this
    injection hme with h1 h2
    exact ⟨.int q m.1, by rw [← h1]; exact Maps.keyOf_int_mk hk (hwf m hm)⟩
  rcases (Maps.int_keyed hk).find w (Maps.keyOf_int_mk hk hn) es.toList hkey with ⟨h1, h2⟩ | ⟨j, e0, h1, h2, h3⟩
  · refine .inl ⟨h1, h2, mget_none fun m hm e => ?_⟩
    have : (Value.int q (m.1 : Int), m.2) ∈ ms.map (fun m => (Value.int q (m.1 : Int), m.2)) := List.mem_map.2 ⟨m, hm, rfl⟩
    rw [← he] at this
    obtain ⟨x, hx, hxe⟩ := List.mem_map.1 this
    injection hxe with h4 h5
    exact h2 x hx (by rw [h4, e])
  · have hj : (es.toList.map (fun e => (e.key, e.val)))[j]? = some (e0.key, e0.val) := by simp [h2]
    rw [he, List.getElem?_map] at hj
    obtain ⟨m, hm, hme⟩ := Option.map_eq_some_iff.1 hj
    injection hme with h4 h5
    rw [h3] at h4
    injection h4 with _ h4
    have h4' : m.1 = n := by omega
    have hm' : ms[j]? = some (n, e0.val) := by rw [hm, ← h4', ← h5]
    exact .inr ⟨j, e0.val, h1, hm', mget_mem hnd (List.mem_of_getElem? hm')⟩
theorem MapAt.look (h : MapAt w b q ms) (c : Bool) (ht : P.underlying t = some (.map k e)) (hk : P.underlying k = some (.int q)) {z : Value} (hz : (zeroValue e).run P w = .ok z w) (hn : (Lit.int q (n : Int)).wf = true) :
    (Instr.lookup t (.map (some b)) (.int q n) c).run P w = .ok (if c then .tuple #[(mget ms n).getD z, .bool (mget ms n).isSome] else (mget ms n).getD z) w := by
  obtain ⟨es, cl, hb, hst, he, hf⟩ := h.find hk hn
  rcases hf with ⟨h1, _, h2⟩ | ⟨j, v, h1, _, h2⟩
  · simp [Instr.lookup, run_underlying ht, MapKept.run_getObj_map hb, (Maps.int_keyed hk).check w _ (Maps.keyOf_int_mk hk hn), h1, hz, h2, Result.andThen]
  · simp [Instr.lookup, run_underlying ht, MapKept.run_getObj_map hb, (Maps.int_keyed hk).check w _ (Maps.keyOf_int_mk hk hn), h1, h2, Result.andThen]
theorem MapAt.size (h : MapAt w b q ms) (ht : P.underlying t = some (.map k e)) (ty : TypeId) : (Builtin.len_ #[t] ty #[.map (some b)]).run P w = .ok (.int .i64 (ms.length : Nat)) w := by
  obtain ⟨es, cl, hb, _, he, _⟩ := h
  have : es.size = ms.length := by simpa using congrArg List.length he
  simp [Builtin.len_, run_underlying ht, MapKept.run_getObj_map hb, goInt, Result.andThen, this]
theorem only_setBlock (w : World) (b : Nat) (o : Obj) : Only (fun k => k = b) w (setBlock w b o) :=
  ⟨rfl, rfl, rfl, by simp [setBlock], fun i hi hn => by
    have : ¬ b = i := fun e => hn e.symm
    simp [setBlock, Array.getElem?_setIfInBounds, this]⟩
theorem MapAt.put (h : MapAt w b q ms) (ht : P.underlying t = some (.map k e)) (hk : P.underlying k = some (.int q)) (hn : (Lit.int q (n : Int)).wf = true) (v : Value) (hno : mget ms n = none) :
    ∃ w', (Instr.mapUpdate t (.map (some b)) (.int q n) v).run P w = .ok () w' ∧ MapAt w' b q (ms ++ [(n, v)]) ∧ Only (fun k => k = b) w w' := by
  have hwf := h.choose_spec.choose_spec.2.2.2
  obtain ⟨es, cl, hb, hst, he, hf⟩ := h.find hk hn
  rcases hf with ⟨h1, h3, h2⟩ | ⟨j, v, h1, _, h2⟩
  · refine ⟨setBlock w b (.map (es.push ⟨.int q n, v, cl⟩) (cl + 1)), ?_, ⟨es.push ⟨.int q n, v, cl⟩, cl + 1, heap_setBlock_same hb _, stamped_push hst h3, by simp [he], ?_⟩, only_setBlock w b _⟩
    · simp [Instr.mapUpdate, run_underlying ht, MapKept.run_getObj_map hb, (Maps.int_keyed hk).check w false (Maps.keyOf_int_mk hk hn), h1, MapKept.run_setObj_map _ hb, Result.andThen, setBlock]
    · intro m hm
      rcases List.mem_append.1 hm with hm | hm
      · exact hwf m hm
      · rw [List.mem_singleton.1 hm]; exact hn
  · rw [hno] at h2
    cases h2
theorem erase_filter : ∀ (ms : List (Nat × Value)) (j n : Nat) (v : Value), (ms.map (·.1)).Nodup → ms[j]? = some (n, v) → ms.eraseIdx j = ms.filter (fun m => m.1 != n)
  | [], j, n, v, _, h => by simp at h
  | m :: r, 0, n, v, hd, h => by
    simp only [List.map_cons, List.nodup_cons] at hd
    simp only [List.getElem?_cons_zero, Option.some.injEq] at h
    subst h
    rw [List.eraseIdx_cons_zero, List.filter_cons_of_neg (by simp), List.filter_eq_self.2]
    intro x hx
    simp only [bne_iff_ne, ne_eq]
    intro e
    exact hd.1 (List.mem_map.2 ⟨x, hx, e⟩)
  | m :: r, j + 1, n, v, hd, h => by
    simp only [List.map_cons, List.nodup_cons] at hd
    simp only [List.getElem?_cons_succ] at h
    have hne : m.1 ≠ n := fun e => hd.1 (List.mem_map.2 ⟨(n, v), List.mem_of_getElem? h, e.symm⟩)
    rw [List.eraseIdx_cons_succ, List.filter_cons_of_pos (by simpa using hne), erase_filter r j n v hd.2 h]
theorem MapAt.del (h : MapAt w b q ms) (ht : P.underlying t = some (.map k e)) (hk : P.underlying k = some (.int q)) (hn : (Lit.int q (n : Int)).wf = true) (ty : TypeId) :
    ∃ w', (Builtin.delete_ #[t, k] ty #[.map (some b), .int q n]).run P w = .ok (.tuple #[]) w' ∧ MapAt w' b q (ms.filter (fun m => m.1 != n)) ∧ Only (fun k => k = b) w w' := by
  have hwf := h.choose_spec.choose_spec.2.2.2
  have hnd := h.nodup
  obtain ⟨es, cl, hb, hst, he, hf⟩ := h.find hk hn
  have hwf' : ∀ m ∈ ms.filter (fun m => m.1 != n), (Lit.int q (m.1 : Int)).wf = true := fun m hm => hwf m (List.mem_filter.1 hm).1
  rcases hf with ⟨h1, h3, h2⟩ | ⟨j, v, h1, h3, h2⟩
  · refine ⟨setBlock w b (.map es cl), ?_, ⟨es, cl, heap_setBlock_same hb _, hst, ?_, hwf'⟩, only_setBlock w b _⟩
    · simp [Builtin.delete_, run_underlying ht, MapKept.run_getObj_map hb, (Maps.int_keyed hk).check w _ (Maps.keyOf_int_mk hk hn), h1, MapKept.run_setObj_map _ hb, Result.andThen, setBlock]
    · rw [List.filter_eq_self.2 (fun m hm => by simpa using mget_iff.1 h2 m hm)]
      exact he
  · have hjs : j < es.size := by
      have := congrArg List.length he
      simp only [List.length_map, Array.length_toList] at this
      have := (List.getElem?_eq_some_iff.1 h3).1
      omega
    have hsub : (es.eraseIdxIfInBounds j).toList = es.toList.eraseIdx j := by
      unfold Array.eraseIdxIfInBounds
      rw [dif_pos hjs]
      simp
    refine ⟨setBlock w b (.map (es.eraseIdxIfInBounds j) cl), ?_, ⟨es.eraseIdxIfInBounds j, cl, heap_setBlock_same hb _, stamped_erase hst j, ?_, hwf'⟩, only_setBlock w b _⟩
    · simp [Builtin.delete_, run_underlying ht, MapKept.run_getObj_map hb, (Maps.int_keyed hk).check w _ (Maps.keyOf_int_mk hk hn), h1, MapKept.run_setObj_map _ hb, Result.andThen, setBlock]
    · rw [hsub, map_eraseIdx, he, ← map_eraseIdx, erase_filter ms j n v hnd h3]
end

section
variable {P : Program} {w : World} {ops : Array Oper} {rest : List Oper} {o : Oper} {a : Act} {Q : Exit → Act → World → Prop} {b n : Nat} {q : IntKind} {ms : List (Nat × Value)}
/-- A look-up, at the operation. -/
theorem wpList_mlook (hg : o.guard = none) (m x : Operand) (t : TypeId) (c : Bool) (hop : o.op = Op.lookup t m x c) (k e : TypeId) (ht : P.underlying t = some (.map k e)) (hk : P.underlying k = some (.int q)) {z : Value} (hz : (zeroValue e).run P w = .ok z w)
    (hm : a.eval m = .map (some b)) (h : MapAt w b q ms) (hx : a.eval x = .int q (n : Int)) (hn : (Lit.int q (n : Int)).wf = true)
    (hK : wpList P ops Q rest (a.put o.dst (if c then .tuple #[(mget ms n).getD z, .bool (mget ms n).isSome] else (mget ms n).getD z)) w) : wpList P ops Q (o :: rest) a w := by
  refine wpList_plain hg fun K' hK' => ?_
  have hrun := h.look c ht hk hz hn
  unfold Oper.wp
  cases c <;> simp [execOp, hop, hm, hx, hrun, Result.andThen] <;> exact hK' _ _ hK
theorem wpList_mlookT (hg : o.guard = none) (m x : Operand) (t : TypeId) (hop : o.op = Op.lookup t m x true) (k e : TypeId) (ht : P.underlying t = some (.map k e)) (hk : P.underlying k = some (.int q)) {z : Value} (hz : (zeroValue e).run P w = .ok z w)
    (hm : a.eval m = .map (some b)) (h : MapAt w b q ms) (hx : a.eval x = .int q (n : Int)) (hn : (Lit.int q (n : Int)).wf = true) {v : Value} {s : Bool} (hv : (mget ms n).getD z = v) (hs : (mget ms n).isSome = s)
    (hK : wpList P ops Q rest (a.put o.dst (.tuple #[v, .bool s])) w) : wpList P ops Q (o :: rest) a w :=
  wpList_mlook hg m x t true hop k e ht hk hz hm h hx hn (by rw [if_pos rfl, hv, hs]; exact hK)
theorem wpList_mlookF (hg : o.guard = none) (m x : Operand) (t : TypeId) (hop : o.op = Op.lookup t m x false) (k e : TypeId) (ht : P.underlying t = some (.map k e)) (hk : P.underlying k = some (.int q)) {z : Value} (hz : (zeroValue e).run P w = .ok z w)
    (hm : a.eval m = .map (some b)) (h : MapAt w b q ms) (hx : a.eval x = .int q (n : Int)) (hn : (Lit.int q (n : Int)).wf = true) {v : Value} (hv : (mget ms n).getD z = v)
    (hK : wpList P ops Q rest (a.put o.dst v) w) : wpList P ops Q (o :: rest) a w :=
  wpList_mlook hg m x t false hop k e ht hk hz hm h hx hn (by rw [if_neg (by decide), hv]; exact hK)
theorem wpList_mlen (hg : o.guard = none) (m : Operand) (t : TypeId) (hop : o.op = Op.call { callee := Callee.builtin Builtin.len, args := #[m], argTypes := #[t] }) (k e : TypeId) (ht : P.underlying t = some (.map k e))
    (hm : a.eval m = .map (some b)) (h : MapAt w b q ms) (hK : wpList P ops Q rest (a.put o.dst (.int .i64 (ms.length : Nat))) w) : wpList P ops Q (o :: rest) a w := by
  refine wpList_plain hg fun K' hK' => ?_
  unfold Oper.wp
  simp [execOp, hop, resolve, invoke, builtin, hm, h.size ht o.type, Result.andThen]
  exact hK' _ _ hK
theorem wpList_mput (hg : o.guard = none) (m x y : Operand) (t : TypeId) (hop : o.op = Op.mapUpdate t m x y) (k e : TypeId) (ht : P.underlying t = some (.map k e)) (hk : P.underlying k = some (.int q))
    (hm : a.eval m = .map (some b)) (h : MapAt w b q ms) (hx : a.eval x = .int q (n : Int)) (v : Value) (hv : a.eval y = v) (hn : (Lit.int q (n : Int)).wf = true) (hno : mget ms n = none)
    (hK : ∀ w', MapAt w' b q (ms ++ [(n, v)]) → Only (fun k => k = b) w w' → wpList P ops Q rest (a.put o.dst undef) w') : wpList P ops Q (o :: rest) a w := by
  refine wpList_plain hg fun K' hK' => ?_
  obtain ⟨w', hrun, r1, r2⟩ := h.put ht hk hn v hno
  unfold Oper.wp
  simp [execOp, hop, hm, hx, hv, hrun, Result.andThen]
  exact hK' _ _ (hK w' r1 r2)
theorem wpList_mdel (hg : o.guard = none) (m x : Operand) (t k : TypeId) (hop : o.op = Op.call { callee := Callee.builtin Builtin.delete, args := #[m, x], argTypes := #[t, k] }) (e : TypeId) (ht : P.underlying t = some (.map k e)) (hk : P.underlying k = some (.int q))
    (hm : a.eval m = .map (some b)) (h : MapAt w b q ms) (hx : a.eval x = .int q (n : Int)) (hn : (Lit.int q (n : Int)).wf = true)
    (hK : ∀ w', MapAt w' b q (ms.filter (fun m => m.1 != n)) → Only (fun k => k = b) w w' → wpList P ops Q rest (a.put o.dst (.tuple #[])) w') : wpList P ops Q (o :: rest) a w := by
  refine wpList_plain hg fun K' hK' => ?_
  obtain ⟨w', hrun, r1, r2⟩ := h.del ht hk hn o.type
  unfold Oper.wp
  simp [execOp, hop, resolve, invoke, builtin, hm, hx, hrun, Result.andThen]
  exact hK' _ _ (hK w' r1 r2)
end
end Go.Proofs.Ytglgmhdajmncjaa
