/- Rows of numbers of 32 digits: what is appended to nothing. Conditions: as each says. -/
import Derived.Test.YtglgmhdajmncjaaRow
import Derived.Laws.AppendOwn
import Derived.Laws.OwnMore
set_option linter.unusedVariables false
set_option linter.unusedSimpArgs false
namespace Go.Proofs.Ytglgmhdajmncjaa
open Go.RowKit

theorem Try.infoU32 : (Try.prog.info? 30).map (fun i => (i.zero, i.size, i.bytes)) = some (some (.int .u32 0), 1, 4) := by kernel_rfl
def cells32 (l : List Nat) : List Value := l.map fun (n : Nat) => .int .u32 (n : Int)
theorem length_cells32 (l : List Nat) : (cells32 l).length = l.length := by simp [cells32]
theorem own32_rd {w : World} {B : Nat} {v : Value} {ns : List Nat} (h : w.ownsRow B 30 1 v ns.length (cells32 ns)) : Rd .u32 w v (nats ns) := by
  rcases h.2 with ⟨rfl, h0⟩ | ⟨g, cap, cur, rfl, hb, hg, hc, _⟩
  · obtain rfl := List.eq_nil_of_length_eq_zero h0
    exact Rd.nil _ _
  · refine ⟨some ⟨g, 0, none⟩, cap, by rw [nats_length], by rw [nats_length]; exact hc, fun hp => ⟨g, 0, rfl, fun j hj => ?_⟩⟩
    rw [nats_length] at hj
    have h1 := h.cells (g := g) rfl j (.int .u32 (ns[j] : Nat)) (by simp [cells32, hj])
    rw [add_plain] at h1
    rw [h1]
    simp [nats]
set_option maxRecDepth 100000 in
/-- Numbers are appended to nothing. -/
theorem app32 {o : Oper} {a : Act} {K : Act → World → Prop} {Q : Exit → Act → World → Prop} (w : World) (s x : Operand) (ho : o.op = .call { callee := .builtin .append, args := #[s, x], argTypes := #[33, 33] })
    (B : Nat) (vx : Value) (ns : List Nat) (hs : a.eval s = .slice none 0 0) (hx : a.eval x = vx) (hn0 : vx = .slice none 0 0 ∨ ∃ ad n c, vx = .slice (some ad) n c) (hr : Rd .u32 w vx (nats ns)) (hl : ns.length ≤ 1000000) (hB : B ≤ w.heap.size)
    (h : ∀ A c w', w'.ownsRow B 30 1 (.slice A ns.length c) ns.length (cells32 ns) → Only (fun _ => False) w w' → K (a.put o.dst (.slice A ns.length c)) w') : Oper.wp Try.prog o a w K Q := by
  obtain ⟨i0, hi, hz0, hz1, hz2⟩ := info_parts Try.infoU32
  obtain ⟨A, c, rfl, hc, hh⟩ := hr
  rw [nats_length] at hc hx
  have fin : ∀ v' w', w'.ownsRow B 30 1 v' ns.length (cells32 ns) → Only (fun _ => False) w w' → K (a.put o.dst v') w' := fun v' w' h1 h2 => by
    obtain ⟨A', c', rfl, _⟩ := own_slice h1
    exact h A' c' w' h1 h2
  rcases A with _ | ad
  · have h0 : ns.length = 0 := by
      rcases Nat.eq_zero_or_pos ns.length with e | e
      · exact e
      · obtain ⟨b, o, e1, _⟩ := hh (by rw [nats_length]; exact e)
        cases e1
    obtain rfl := List.eq_nil_of_length_eq_zero h0
    have hrun := run_append_owned_none (P := Try.prog) w B 33 o.type 30 i0 1 Try.underlying33 hi (.slice none 0 0) 0 [] (World.ownsRow_nil w B 30 1)
    obtain rfl : c = 0 := by rcases hn0 with e | ⟨_, _, _, e⟩ <;> cases e; rfl
    unfold Oper.wp
    simp [execOp, ho, resolve, invoke, builtin, hs, hx, hrun, Result.andThen]
    exact fin _ w (World.ownsRow_nil w B 30 1) (Only.refl _ w)
  · have hn : ∀ j u, (cells32 ns)[j]? = some u → w.cell? (ad.add j) = some u := by
      intro j u hu
      have hj : j < ns.length := by rw [← length_cells32]; exact (List.getElem?_eq_some_iff.1 hu).1
      obtain ⟨b, o, e1, hcell⟩ := hh (by rw [nats_length]; omega)
      injection e1 with e1
      subst e1
      have h1 := hcell j (by rw [nats_length]; exact hj)
      rw [add_plain, h1, ← hu]
      simp [cells32, nats, hj]
    exact wp_append_own w s x 33 ho B 30 i0 (.int .u32 0) 1 4 Try.underlying33 hi hz0 hz1 hz2 rfl (by decide) (.slice none 0 0) 0 [] hs (World.ownsRow_nil w B 30 1) ad ns.length c (cells32 ns) hx (by rw [length_cells32, Nat.mul_one]) hn (by simp [cells32, Value.oneCell']) (by unfold maxLen; omega) (by omega) hB
      (fun v' w' h1 h2 _ => fin v' w' (by simpa using h1) ((Only.refl _ w).grown h2 (fun i hi _ => by simp [Value.ownBlock] at hi)))
theorem wpList_app32 {ops : Array Oper} {rest : List Oper} {o : Oper} {a : Act} {Q : Exit → Act → World → Prop} (w : World) (hgd : o.guard = none) (s x : Operand) (ho : o.op = .call { callee := .builtin .append, args := #[s, x], argTypes := #[33, 33] })
    (B : Nat) (vx : Value) (ns : List Nat) (hs : a.eval s = .slice none 0 0) (hx : a.eval x = vx) (hn0 : vx = .slice none 0 0 ∨ ∃ ad n c, vx = .slice (some ad) n c) (hr : Rd .u32 w vx (nats ns)) (hl : ns.length ≤ 1000000) (hB : B ≤ w.heap.size)
    (h : ∀ A c w', w'.ownsRow B 30 1 (.slice A ns.length c) ns.length (cells32 ns) → Only (fun _ => False) w w' → wpList Try.prog ops Q rest (a.put o.dst (.slice A ns.length c)) w') : wpList Try.prog ops Q (o :: rest) a w :=
  wpList_plain hgd fun _ hK => app32 w s x ho B vx ns hs hx hn0 hr hl hB fun A c w' h1 h2 => hK _ _ (h A c w' h1 h2)
end Go.Proofs.Ytglgmhdajmncjaa
