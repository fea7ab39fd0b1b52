/- The reference of layer 1, and what statements share: copies, digits of bytes, numbers of digits. What each call answers. Conditions: as each says. -/
import Derived.Test.YtiacjgnngdpohaaRow
set_option linter.unusedVariables false
namespace Go.Proofs.Ytiacjgnngdpohaa
open Go.RowKit

/-- A byte is appended to a row that is owned: the law at the operation. -/
theorem append_lit {ops : Array Oper} {rest : List Oper} {o : Oper} {a : Act} {Q : Exit → Act → World → Prop} (wr : World) (hgd : o.guard = none) (s x : Operand)
    (ho : o.op = .call { callee := .builtin .append, args := #[s, x], argTypes := #[35, 35] })
    (B : Nat) (ds : List Nat) (v : Value) (hs : a.eval s = v) (hown : wr.ownsRow B 5 1 v ds.length (cellsOf ds)) (Y : Int) (y : Nat) (hY : Y = (y : Int))
    (hx : a.eval x = .slice (some ⟨wr.heap.size, 0, none⟩) 1 1) (hl : ds.length ≤ 70368744177664) (hB : B ≤ wr.heap.size)
    (h : ∀ v' w', w'.ownsRow B 5 1 v' (ds ++ [y]).length (cellsOf (ds ++ [y])) → Only (fun k => v.ownBlock = some k) wr w' → wpList Try.prog ops Q rest (a.put o.dst v') w') :
    wpList Try.prog ops Q (o :: rest) a (wr.alloc (.cells #[.int .u8 Y] 5)) := by
  subst hY
  obtain ⟨i0, hi, hz0, hz1, hz2⟩ := info_parts Try.infoU8
  refine wpList_append_own _ hgd s x 35 ho B 5 i0 (.int .u8 0) 1 1 Try.underlying35 hi hz0 hz1 hz2 rfl (by decide) v ds.length (cellsOf ds) hs (hown.alloc _) ⟨wr.heap.size, 0, none⟩ 1 1 [.int .u8 (y : Int)] hx rfl (cell_one_new _ _ _) (by simp [Value.oneCell']) (by unfold maxLen; omega) (by omega) (by simp; omega) ?_
  intro v' w' hown' hg _
  refine h v' w' ?_ (((Only.refl _ wr).alloc _).grown hg (fun i hi _ => hi))
  rw [List.length_append, cellsOf_append]
  exact hown'

/-- A row of new memory: what is done to it touches nothing that was there. -/
theorem only_row {w w1 w2 : World} {v : Value} {B n : Nat} {t : TypeId} {xs : List Value} (h : Only (fun _ => False) w w1) (hown : w1.ownsRow B t 1 v n xs) (hB : w.heap.size ≤ B) (ho : Only (fun k => v.ownBlock = some k) w1 w2) : Only (fun _ => False) w w2 :=
  h.trans ho (fun i hi e => by have := (hown.lt i e).1; omega)

set_option maxRecDepth 100000 in
set_option maxHeartbeats 400000 in
theorem kitown_is (v : Value) (bs : List Nat) (w : World) (B : Nat) (hB : B ≤ w.heap.size) (hs : Src w v bs) (hn : bs.length ≤ 140737488355328) :
    Calls Try.prog 41 #[v] w (OwnRow B (cellsOf bs) w) := by
  obtain ⟨i0, hi, hz0, hz1, hz2⟩ := info_parts Try.infoU8
  rcases hs with ⟨rfl, rfl⟩ | ⟨a, c, rfl, _, hc⟩
  · have happ : ∀ w : World, (Builtin.append_ #[35, 35] 35 #[.slice none 0 0, .slice none 0 0]).run Try.prog w = .ok (.slice none 0 0) w := fun w => run_append_owned_none (P := Try.prog) w 0 35 35 5 i0 1 Try.underlying35 hi _ 0 [] (World.ownsRow_nil w 0 5 1)
    go_enter Try.func41, Try.ntmps41
    go_wp2
    go_ret
    exact ⟨_, rfl, World.ownsRow_nil _ _ _ _, Only.refl _ _, by simp [Value.ownBlock]⟩
  · have Hc := Lib.hid hc
    clear hc
    generalize hbl : bs.length = n at *
    have HBL := Lib.hid hbl
    clear hbl
    go_enter Try.func41, Try.ntmps41
    go_wp2_with (at_builtin; refine wpList_append_own _ rfl _ _ 35 rfl w.heap.size 5 i0 (.int .u8 0) 1 1 Try.underlying35 hi hz0 hz1 hz2 rfl (by decide) _ 0 [] rfl (World.ownsRow_nil w w.heap.size 5 1) a n c (cellsOf bs) rfl (by rw [length_cellsOf, HBL.out, Nat.mul_one]) Hc.out (cellsOf_one bs) (by unfold maxLen; omega) (by omega) (Nat.le_refl _) ?_)
    intro v' w1 hown hg _
    go_wp2
    go_ret
    rw [← HBL.out, ← length_cellsOf] at hown
    refine ⟨_, rfl, ?_, ?_, fun k hk => (hown.lt k hk).1⟩
    · obtain ⟨q1, q2⟩ := hown
      refine ⟨q1, ?_⟩
      rcases q2 with q2 | ⟨g, cap, cur, r1, r2, r3⟩
      · exact .inl q2
      · exact .inr ⟨g, cap, cur, r1, by omega, r3⟩
    · exact (Only.refl _ w).grown hg (fun i hi hlt => by simp [Value.ownBlock] at hi)

set_option maxRecDepth 100000 in
set_option maxHeartbeats 400000 in
theorem spoil_is (v : Value) (n B : Nat) (xs : List Value) (w : World) (h : w.ownsRow B 5 1 v n xs) (hn : n ≤ 140737488355328) :
    Calls Try.prog 14 #[v] w fun e w' => e = .returned (.tuple #[]) ∧ Only (fun k => v.ownBlock = some k) w w' := by
  rcases Nat.eq_zero_or_pos n with rfl | hpos
  · obtain ⟨A, c, rfl, _⟩ := own_slice h
    clear h
    go_enter Try.func14, Try.ntmps14
    go_wp2
    go_loopw [2] (fun i wr => i = .int .i64 0 ∧ w = wr) (fun _ _ => 0)
    case atStart => exact ⟨rfl, rfl⟩
    case round =>
      obtain ⟨rfl, rfl⟩ := hrel
      go_wp2
      go_end0
      exact ⟨rfl, Only.refl _ _⟩
  · obtain ⟨g, cap, rfl, hb, hlt⟩ := h.form hpos
    have HH := Lib.hid h
    clear h
    go_enter Try.func14, Try.ntmps14
    go_wp2
    go_loopw [2] (fun i wr => ∃ (k : Nat) (ys : List Value), k ≤ n ∧ i = .int .i64 k ∧ wr.ownsRow B 5 1 (.slice (some ⟨g, 0, none⟩) n cap) n ys ∧ Only (fun k => k = g) w wr) (fun i _ => n - (intOf i).toNat)
    case atStart => exact ⟨0, xs, by omega, rfl, HH.out, Only.refl _ _⟩
    case round =>
      obtain ⟨k, ys, hk, rfl, hown, ho⟩ := hrel
      have HW := Lib.hid hown
      have HO := Lib.hid ho
      by_cases hkn : k < n
      · have hl := hown.1
        have qc : wr.cell? ⟨g, k, none⟩ = some ys[k] := by
          rw [hown.cellAt k (by omega)]
          exact List.getElem?_eq_getElem (by omega)
        have qf := hown.frozenAt k
        generalize ys[k] = y at *
        clear hown ho hl
        go_wp2
        go_roundw
        case rel =>
          refine ⟨k + 1, _, by omega, by go_num, (HW.out.stored k _).1, HO.out.set (fun _ => rfl) _⟩
        case measure => simp [intOf]; omega
      · clear hown ho
        go_wp2
        go_end0
        exact ⟨rfl, HO.out.mono (fun i _ e => by subst e; rfl)⟩
end Go.Proofs.Ytiacjgnngdpohaa
