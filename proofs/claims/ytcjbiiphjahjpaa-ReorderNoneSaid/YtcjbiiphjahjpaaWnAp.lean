/- Rows of numbers of 64 digits: what is appended to nothing. Conditions: as each says. -/
import Derived.Test.YtcjbiiphjahjpaaBase
import Derived.Laws.AppendOwn
import Derived.Laws.OwnMore
set_option linter.unusedVariables false
namespace Go.Proofs.Ytcjbiiphjahjpaa
open Go.RowKit

theorem length_cells64 (l : List Nat) : (cells64 l).length = l.length := by simp [cells64]
set_option maxRecDepth 100000 in
/-- Numbers are appended to nothing. -/
theorem app64 {o : Oper} {a : Act} {K : Act → World → Prop} {Q : Exit → Act → World → Prop} (w : World) (s x : Operand) (ho : o.op = .call { callee := .builtin .append, args := #[s, x], argTypes := #[49, 49] })
    (B : Nat) (vx : Value) (ns : List Nat) (hs : a.eval s = .slice none 0 0) (hx : a.eval x = vx) (hn0 : vx = .slice none 0 0 ∨ ∃ ad n c, vx = .slice (some ad) n c) (hr : Rd .u64 w vx (nats ns)) (hl : ns.length ≤ 1000000) (hB : B ≤ w.heap.size)
    (h : ∀ A c w', w'.ownsRow B 22 1 (.slice A ns.length c) ns.length (cells64 ns) → Only (fun _ => False) w w' → K (a.put o.dst (.slice A ns.length c)) w') : Oper.wp Try.prog o a w K Q := by
  obtain ⟨i0, hi, hz0, hz1, hz2⟩ := info_parts Try.infoU64
  obtain ⟨A, c, rfl, hc, hh⟩ := hr
  rw [nats_length] at hc hx
  have fin : ∀ v' w', w'.ownsRow B 22 1 v' ns.length (cells64 ns) → Only (fun _ => False) w w' → K (a.put o.dst v') w' := fun v' w' h1 h2 => by
    obtain ⟨A', c', rfl, _⟩ := own_slice h1
    exact h A' c' w' h1 h2
  rcases A with _ | ad
  · have h0 : ns.length = 0 := by
      rcases Nat.eq_zero_or_pos ns.length with e | e
      · exact e
      · obtain ⟨b, o, e1, _⟩ := hh (by rw [nats_length]; exact e)
        cases e1
    obtain rfl := List.eq_nil_of_length_eq_zero h0
    have hrun := run_append_owned_none (P := Try.prog) w B 49 o.type 22 i0 1 Try.underlying49 hi (.slice none 0 0) 0 [] (World.ownsRow_nil w B 22 1)
    obtain rfl : c = 0 := by rcases hn0 with e | ⟨_, _, _, e⟩ <;> cases e; rfl
    unfold Oper.wp
    simp [execOp, ho, resolve, invoke, builtin, hs, hx, hrun, Result.andThen]
    exact fin _ w (World.ownsRow_nil w B 22 1) (Only.refl _ w)
  · have hn : ∀ j u, (cells64 ns)[j]? = some u → w.cell? (ad.add j) = some u := by
      intro j u hu
      have hj : j < ns.length := by rw [← length_cells64]; exact (List.getElem?_eq_some_iff.1 hu).1
      obtain ⟨b, o, e1, hcell⟩ := hh (by rw [nats_length]; omega)
      injection e1 with e1
      subst e1
      have h1 := hcell j (by rw [nats_length]; exact hj)
      rw [add_plain, h1, ← hu]
      simp [cells64, nats, hj]
    exact wp_append_own w s x 49 ho B 22 i0 (.int .u64 0) 1 8 Try.underlying49 hi hz0 hz1 hz2 rfl (by decide) (.slice none 0 0) 0 [] hs (World.ownsRow_nil w B 22 1) ad ns.length c (cells64 ns) hx (by rw [length_cells64, Nat.mul_one]) hn (by simp [cells64, Value.oneCell']) (by unfold maxLen; omega) (by omega) hB
      (fun v' w' h1 h2 _ => fin v' w' (by simpa using h1) ((Only.refl _ w).grown h2 (fun i hi _ => by simp [Value.ownBlock] at hi)))
set_option maxRecDepth 100000 in
/-- A number is appended to an owned row. -/
theorem app64one {o : Oper} {a : Act} {K : Act → World → Prop} {Q : Exit → Act → World → Prop} (w : World) (s x : Operand) (ho : o.op = .call { callee := .builtin .append, args := #[s, x], argTypes := #[49, 49] })
    (B : Nat) (v : Value) (ns : List Nat) (y lb : Nat) (hs : a.eval s = v) (hown : w.ownsRow B 22 1 v ns.length (cells64 ns)) (hx : a.eval x = .slice (some ⟨lb, 0, none⟩) 1 1) (hi1 : Is w lb 22 #[.int .u64 (y : Int)]) (hl : ns.length ≤ 1000000) (hB : B ≤ w.heap.size)
    (h : ∀ A c w', w'.ownsRow B 22 1 (.slice A (ns ++ [y]).length c) (ns ++ [y]).length (cells64 (ns ++ [y])) → Only (fun k => v.ownBlock = some k) w w' → K (a.put o.dst (.slice A (ns ++ [y]).length c)) w') : Oper.wp Try.prog o a w K Q := by
  obtain ⟨i0, hi, hz0, hz1, hz2⟩ := info_parts Try.infoU64
  have fin : ∀ v' w', w'.ownsRow B 22 1 v' (ns ++ [y]).length (cells64 (ns ++ [y])) → Only (fun k => v.ownBlock = some k) w w' → K (a.put o.dst v') w' := fun v' w' h1 h2 => by
    obtain ⟨A', c', rfl, _⟩ := own_slice h1
    exact h A' c' w' h1 h2
  have hn : ∀ j u, (cells64 [y])[j]? = some u → w.cell? ((⟨lb, 0, none⟩ : Addr).add j) = some u := by
    intro j u hu
    have hj : j < 1 := by simpa [cells64] using (List.getElem?_eq_some_iff.1 hu).1
    obtain rfl : j = 0 := by omega
    rw [add_plain, hi1.cell, ← hu]
    rfl
  exact wp_append_own w s x 49 ho B 22 i0 (.int .u64 0) 1 8 Try.underlying49 hi hz0 hz1 hz2 rfl (by decide) v ns.length (cells64 ns) hs hown ⟨lb, 0, none⟩ 1 1 (cells64 [y]) hx (by simp [cells64]) hn (by simp [cells64, Value.oneCell']) (by unfold maxLen; omega) (by omega) hB
    (fun v' w' h1 h2 _ => fin v' w' (by simpa [cells64] using h1) ((Only.refl _ w).grown h2 (fun i hi _ => hi)))
theorem wpList_app64one {ops : Array Oper} {rest : List Oper} {o : Oper} {a : Act} {Q : Exit → Act → World → Prop} (w : World) (hgd : o.guard = none) (s x : Operand) (ho : o.op = .call { callee := .builtin .append, args := #[s, x], argTypes := #[49, 49] })
    (B : Nat) (v : Value) (ns : List Nat) (y lb : Nat) (hs : a.eval s = v) (hown : w.ownsRow B 22 1 v ns.length (cells64 ns)) (hx : a.eval x = .slice (some ⟨lb, 0, none⟩) 1 1) (hi1 : Is w lb 22 #[.int .u64 (y : Int)]) (hl : ns.length ≤ 1000000) (hB : B ≤ w.heap.size)
    (h : ∀ A c w', w'.ownsRow B 22 1 (.slice A (ns ++ [y]).length c) (ns ++ [y]).length (cells64 (ns ++ [y])) → Only (fun k => v.ownBlock = some k) w w' → wpList Try.prog ops Q rest (a.put o.dst (.slice A (ns ++ [y]).length c)) w') : wpList Try.prog ops Q (o :: rest) a w :=
  wpList_plain hgd fun _ hK => app64one w s x ho B v ns y lb hs hown hx hi1 hl hB fun A c w' h1 h2 => hK _ _ (h A c w' h1 h2)
theorem wpList_app64 {ops : Array Oper} {rest : List Oper} {o : Oper} {a : Act} {Q : Exit → Act → World → Prop} (w : World) (hgd : o.guard = none) (s x : Operand) (ho : o.op = .call { callee := .builtin .append, args := #[s, x], argTypes := #[49, 49] })
    (B : Nat) (vx : Value) (ns : List Nat) (hs : a.eval s = .slice none 0 0) (hx : a.eval x = vx) (hn0 : vx = .slice none 0 0 ∨ ∃ ad n c, vx = .slice (some ad) n c) (hr : Rd .u64 w vx (nats ns)) (hl : ns.length ≤ 1000000) (hB : B ≤ w.heap.size)
    (h : ∀ A c w', w'.ownsRow B 22 1 (.slice A ns.length c) ns.length (cells64 ns) → Only (fun _ => False) w w' → wpList Try.prog ops Q rest (a.put o.dst (.slice A ns.length c)) w') : wpList Try.prog ops Q (o :: rest) a w :=
  wpList_plain hgd fun _ hK => app64 w s x ho B vx ns hs hx hn0 hr hl hB fun A c w' h1 h2 => hK _ _ (h A c w' h1 h2)
end Go.Proofs.Ytcjbiiphjahjpaa
