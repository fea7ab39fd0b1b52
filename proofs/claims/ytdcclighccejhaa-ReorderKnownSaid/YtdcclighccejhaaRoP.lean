/- reorder: one more that waits, plainly and in memory. Conditions: as each says. -/
import Derived.Test.YtdcclighccejhaaRoN
set_option linter.unusedVariables false
set_option linter.unusedSimpArgs false
namespace Go.Proofs.Ytdcclighccejhaa
open Go Go.RowKit

def insAt {α : Type} (l : List α) (k : Nat) (x : α) : List α := l.take k ++ x :: l.drop k
theorem insAt_length {α : Type} (l : List α) (k : Nat) (x : α) (hk : k ≤ l.length) : (insAt l k x).length = l.length + 1 := by
  unfold insAt
  rw [List.length_append, List.length_cons, List.length_take, List.length_drop]
  omega
theorem insAt_get {α : Type} (l : List α) (k : Nat) (x : α) (hk : k ≤ l.length) (i : Nat) : (insAt l k x)[i]? = if i < k then l[i]? else if i = k then some x else l[i - 1]? := by
  unfold insAt
  have ht : (l.take k).length = k := by rw [List.length_take]; omega
  by_cases h1 : i < k
  · rw [if_pos h1, List.getElem?_append_left (by omega), List.getElem?_take_of_lt h1]
  · rw [if_neg h1, List.getElem?_append_right (by omega), ht]
    by_cases h2 : i = k
    · rw [if_pos h2, h2, Nat.sub_self]
      rfl
    · rw [if_neg h2, show i - k = (i - k - 1) + 1 by omega, List.getElem?_cons_succ, List.getElem?_drop]
      congr 1
      omega
theorem mem_insAt {α : Type} {l : List α} {k : Nat} {x y : α} (h : y ∈ insAt l k x) : y = x ∨ y ∈ l := by
  unfold insAt at h
  rcases List.mem_append.1 h with h | h
  · exact .inr (List.mem_of_mem_take h)
  · rcases List.mem_cons.1 h with h | h
    · exact .inl h
    · exact .inr (List.mem_of_mem_drop h)
theorem apart_iff {α : Type} {R : α → α → Prop} (l : List α) : (∀ (i j : Nat) (a b : α), i < j → l[i]? = some a → l[j]? = some b → R a b) ↔ l.Pairwise R := by
  rw [List.pairwise_iff_getElem]
  constructor
  · intro h i j hi hj hij
    exact h i j _ _ hij (List.getElem?_eq_getElem hi) (List.getElem?_eq_getElem hj)
  · intro h i j a b hij ha hb
    obtain ⟨hi, rfl⟩ := List.getElem?_eq_some_iff.1 ha
    obtain ⟨hj, rfl⟩ := List.getElem?_eq_some_iff.1 hb
    exact h i j hi hj hij
/-- In a list that rises, what is below n and what is not. -/
def Bf.pos (m : Bf) (n : Nat) : Nat := (m.ws.takeWhile fun y => decide (y.n < n)).length
theorem pos_of : ∀ (ws : List Wt) (n k : Nat), k ≤ ws.length → (∀ i x, i < k → ws[i]? = some x → x.n < n) → (∀ i x, k ≤ i → ws[i]? = some x → n ≤ x.n) → (ws.takeWhile fun y => decide (y.n < n)).length = k
  | [], n, k, h, _, _ => by simp at h; simp [h]
  | x :: ws, n, 0, _, _, h2 => by
    have := h2 0 x (Nat.le_refl _) rfl
    rw [List.takeWhile_cons, if_neg (by simp; omega)]
    rfl
  | x :: ws, n, k + 1, h, h1, h2 => by
    have := h1 0 x (by omega) rfl
    rw [List.takeWhile_cons, if_pos (by simp; omega), List.length_cons, pos_of ws n k (by simpa using h) (fun i y hi hy => h1 (i + 1) y (by omega) hy) (fun i y hi hy => h2 (i + 1) y (by omega) hy)]
/-- A buffer to which something came. -/
def Bf.begun (m : Bf) (n : Nat) : Bf := if m.some then m else { m with some := true, last := (n + 18446744073709551615) % 18446744073709551616 }
/-- One more waits. -/
def Bf.ins (m : Bf) (x : Wt) : Bf := { m.begun x.n with ws := insAt m.ws (m.pos x.n) x }
theorem begun_ws (m : Bf) (n : Nat) : (m.begun n).ws = m.ws := by
  unfold Bf.begun
  split <;> rfl
theorem begun_size (m : Bf) (n : Nat) : (m.begun n).size = m.size := by
  unfold Bf.begun
  split <;> rfl
theorem begun_hold (m : Bf) (n : Nat) : (m.begun n).hold = m.hold := by
  unfold Bf.begun
  split <;> rfl
theorem pos_le (m : Bf) (n : Nat) : m.pos n ≤ m.ws.length := (List.takeWhile_prefix _).length_le
theorem wtRows_ins {ws : List Wt} {us : List V3} {k : Nat} (h : us.length = ws.length) (hk : k ≤ ws.length) (x : Wt) (u : V3) : wtRows (insAt ws k x) (insAt us k u) = (wtRows ws us).take k ++ x.cls u :: (wtRows ws us).drop k := by
  unfold wtRows insAt
  rw [List.zipWith_append (by rw [List.length_take, List.length_take, h]), List.zipWith_cons_cons, List.take_zipWith, List.drop_zipWith]
theorem Pks.ins {w : World} {B N : Nat} {ws : List Wt} {us : List V3} (h : Pks w B ws us) {k : Nat} (hk : k ≤ ws.length) {x : Wt} {u : V3} (hu : OwnPk B x.p u.1 u.2.1 u.2.2 w) (hl : ∀ a ∈ us, ∀ j, Blk a j → j < N) (hh : ∀ j, Blk u j → N ≤ j) : Pks w B (insAt ws k x) (insAt us k u) := by
  have hku : k ≤ us.length := by rw [h.len]; exact hk
  refine ⟨by rw [insAt_length _ _ _ hk, insAt_length _ _ _ hku, h.len], fun i y a hy ha => ?_, ?_⟩
  · rw [insAt_get _ _ _ hk] at hy
    rw [insAt_get _ _ _ hku] at ha
    split at hy
    · rename_i h1
      rw [if_pos h1] at ha
      exact h.own i y a hy ha
    · rename_i h1
      rw [if_neg h1] at ha
      split at hy
      · rename_i h2
        rw [if_pos h2] at ha
        injection hy with hy
        injection ha with ha
        subst hy ha
        exact hu
      · rename_i h2
        rw [if_neg h2] at ha
        exact h.own _ y a hy ha
  · rw [apart_iff (R := fun a b : V3 => ∀ k, Blk a k → ¬ Blk b k)]
    have hp := (apart_iff (R := fun a b : V3 => ∀ k, Blk a k → ¬ Blk b k) us).1 h.apart
    unfold insAt
    rw [← List.take_append_drop k us, List.pairwise_append] at hp
    obtain ⟨p1, p2, p3⟩ := hp
    rw [List.pairwise_append]
    refine ⟨p1, List.pairwise_cons.2 ⟨fun a ha j hj hk => ?_, p2⟩, fun a ha c hc => ?_⟩
    · have := hl a (List.mem_of_mem_drop ha) j hk
      have := hh j hj
      omega
    · rcases List.mem_cons.1 hc with rfl | hc
      · intro j hj hk
        have := hl a (List.mem_of_mem_take ha) j hj
        have := hh j hk
        omega
      · exact p3 a ha c hc
theorem built_wt (n a : Int) (c0 c1 c2 c3 c4 c5 c6 c7 c8 c9 c10 : Value) : Try.prog.built 79 [(0, .int .u64 n), (1, .int .u64 a), (2, .agg #[c0, c1, c2, c3, c4, c5, c6, c7, c8, c9, c10])] = some #[.int .u64 n, .int .u64 a, c0, c1, c2, c3, c4, c5, c6, c7, c8, c9, c10] := by kernel_rfl
theorem wp_build_is {P : Program} {o : Oper} {a : Act} {w : World} {K : Act → World → Prop} {Q : Exit → Act → World → Prop} (t : TypeId) (parts : Array (Nat × Operand)) (ho : o.op = .build t parts) (cells : Array Value)
    (hc : P.built t (parts.map fun (i, x) => (i, a.eval x)).toList = some cells) (h : K (a.put o.dst (.agg cells)) w) : o.wp P a w K Q := by
  refine wp_build t parts ho (by rw [hc]; rfl) ?_
  rw [hc]
  exact h
end Go.Proofs.Ytdcclighccejhaa
