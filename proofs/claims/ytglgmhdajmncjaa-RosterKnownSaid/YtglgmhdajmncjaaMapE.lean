/- Maps keyed by numbers: 'm[k] = v' in two operations (the entry, then its store). Conditions: as each says. -/
import Derived.Test.YtglgmhdajmncjaaMapW
import Derived.WideKeyEntry
set_option linter.unusedVariables false
set_option linter.unusedSimpArgs false
namespace Go.Proofs.Ytglgmhdajmncjaa
open Go Go.RowKit
open Go.MapKept Go.ChangeMaps

/-- A map lies there; its last entry, of a number, was just made. -/
def MapNew (w : World) (b : Nat) (q : IntKind) (ms : List (Nat × Value)) (n : Nat) (st : Nat) : Prop :=
  ∃ es z, w.heap[b]? = some (.map (es.push ⟨.int q (n : Int), z, st⟩) (st + 1)) ∧ Stamped es st ∧ es.toList.map (fun e => (e.key, e.val)) = ms.map (fun m => (Value.int q (m.1 : Int), m.2)) ∧ (∀ m ∈ ms, (Lit.int q (m.1 : Int)).wf = true) ∧ (Lit.int q (n : Int)).wf = true ∧ ∀ e ∈ es.toList, e.key ≠ .int q (n : Int)
section
variable {w w1 : World} {b n st : Nat} {q : IntKind} {ms : List (Nat × Value)} {P : Program} {t k e : TypeId}
theorem MapNew.lt (h : MapNew w b q ms n st) : b < w.heap.size := by
  obtain ⟨es, c, hb, _⟩ := h
  exact lt_of_heap hb
theorem MapNew.only {S : Nat → Prop} (h : MapNew w b q ms n st) (ho : Only S w w1) (hn : ¬ S b) : MapNew w1 b q ms n st := by
  have hlt := h.lt
  obtain ⟨es, c, hb, r⟩ := h
  exact ⟨es, c, (ho.same b hlt hn).trans hb, r⟩
theorem MapAt.entry (h : MapAt w b q ms) (ht : P.underlying t = some (.map k e)) (hk : P.underlying k = some (.int q)) {z : Value} (hz : (zeroValue e).run P w = .ok z w) (hn : (Lit.int q (n : Int)).wf = true) (hno : mget ms n = none) :
    ∃ (st : Nat) (w' : World), (Instr.mapEntry t (.map (some b)) (.int q n)).run P w = .ok (.tuple #[z, goInt st]) w' ∧ MapNew w' b q ms n st ∧ Only (fun k => k = b) w w' := by
  have hwf := h.choose_spec.choose_spec.2.2.2
  obtain ⟨es, cl, hb, hst, he, hf⟩ := h.find hk hn
  rcases hf with ⟨h1, h3, h2⟩ | ⟨j, v, h1, _, h2⟩
  · refine ⟨cl, setBlock w b (.map (es.push ⟨.int q n, z, cl⟩) (cl + 1)), ?_, ⟨es, z, heap_setBlock_same hb _, hst, he, hwf, hn, h3⟩, only_setBlock w b _⟩
    simp [Instr.mapEntry, run_underlying ht, MapKept.run_getObj_map hb, (Maps.int_keyed hk).check w false (Maps.keyOf_int_mk hk hn), h1, hz, MapKept.run_setObj_map _ hb, Result.andThen, setBlock]
  · rw [hno] at h2
    cases h2
theorem MapNew.store (h : MapNew w b q ms n st) (v : Value) : ∃ w', (Instr.entryStore t (.map (some b)) (goInt st) v).run P w = .ok () w' ∧ MapAt w' b q (ms ++ [(n, v)]) ∧ Only (fun k => k = b) w w' := by
  obtain ⟨es, z, hb, hst, he, hwf, hn, hne⟩ := h
  obtain ⟨s1, s2, s3⟩ := id hst
  refine ⟨setBlock w b (.map (es.push ⟨.int q n, v, st⟩) (st + 1)), ?_, ⟨es.push ⟨.int q n, v, st⟩, st + 1, heap_setBlock_same hb _, stamped_push hst hne, by simp [he], ?_⟩, only_setBlock w b _⟩
  · have hidx : (es.push ⟨.int q n, z, st⟩).findIdx? (fun e => ((e.born : Nat) : Int) == ((st : Nat) : Int)) = some es.size := by
      rw [WideElems.findIdx_arr]
      exact WideElems.findIdx_born (l := (es.push ⟨.int q n, z, st⟩).toList) (j := es.size) (e0 := ⟨.int q n, z, st⟩) (by
        simp only [Array.toList_push, List.map_append, List.map_cons, List.map_nil]
        refine List.nodup_append.2 ⟨s2, by simp, fun a ha c hc e1 => ?_⟩
        simp only [List.mem_singleton] at hc
        obtain ⟨x, hx, rfl⟩ := List.mem_map.1 ha
        have := s1 x hx
        omega) (by simp)
    have hmod : (es.push ⟨.int q n, z, st⟩).modify es.size (fun e => { e with val := v }) = es.push ⟨.int q n, v, st⟩ := by
      apply Array.ext'
      rw [Array.toList_modify, Array.toList_push, Array.toList_push, ← Array.length_toList, WideElems.modify_last]
    simp [Instr.entryStore, MapKept.run_getObj_map hb, asInt, asIntOf, goInt, hidx, hmod, MapKept.run_setObj_map _ hb, Result.andThen, setBlock]
  · intro m hm
    rcases List.mem_append.1 hm with hm | hm
    · exact hwf m hm
    · rw [List.mem_singleton.1 hm]; exact hn
end
section
variable {P : Program} {w : World} {o : Oper} {a : Act} {K : Act → World → Prop} {Q : Exit → Act → World → Prop} {b n st : Nat} {q : IntKind} {ms : List (Nat × Value)}
theorem wp_mentry (m x : Operand) (t : TypeId) (hop : o.op = Op.mapEntry t m x) (k e : TypeId) (ht : P.underlying t = some (.map k e)) (hk : P.underlying k = some (.int q)) {z : Value} (hz : (zeroValue e).run P w = .ok z w)
    (hm : a.eval m = .map (some b)) (h : MapAt w b q ms) (hx : a.eval x = .int q (n : Int)) (hn : (Lit.int q (n : Int)).wf = true) (hno : mget ms n = none)
    (hK : ∀ (st : Nat) (w' : World), MapNew w' b q ms n st → Only (fun k => k = b) w w' → K (a.put o.dst (.tuple #[z, goInt st])) w') : Oper.wp P o a w K Q := by
  obtain ⟨st, w', hrun, r1, r2⟩ := h.entry ht hk hz hn hno
  unfold Oper.wp
  simp [execOp, hop, hm, hx, hrun, Result.andThen]
  exact hK st w' r1 r2
theorem wp_mstore (m s x : Operand) (t : TypeId) (hop : o.op = Op.entryStore t m s x) (hm : a.eval m = .map (some b)) (hs : a.eval s = goInt st) (v : Value) (hx : a.eval x = v) (h : MapNew w b q ms n st)
    (hK : ∀ w' : World, MapAt w' b q (ms ++ [(n, v)]) → Only (fun k => k = b) w w' → K (a.put o.dst undef) w') : Oper.wp P o a w K Q := by
  obtain ⟨w', hrun, r1, r2⟩ := h.store (P := P) (t := t) v
  unfold Oper.wp
  simp [execOp, hop, hm, hs, hx, hrun, Result.andThen]
  exact hK w' r1 r2
end
end Go.Proofs.Ytglgmhdajmncjaa
