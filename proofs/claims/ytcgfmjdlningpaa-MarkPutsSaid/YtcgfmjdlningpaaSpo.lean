/- A row that is written over: what becomes of it, and of others in its block. Conditions: as each says. -/
import Derived.Test.YtcgfmjdlningpaaRefA
set_option linter.unusedVariables false
namespace Go.Proofs.Ytcgfmjdlningpaa
open Go.RowKit

set_option maxRecDepth 100000 in
set_option maxHeartbeats 400000 in
theorem spoil_own (v : Value) (n B : Nat) (xs : List Value) (w : World) (h : w.ownsRow B 5 1 v n xs) (hn : n ≤ 140737488355328) :
    Calls Try.prog 27 #[v] w fun e w' => e = .returned (.tuple #[]) ∧ Only (fun k => v.ownBlock = some k) w w' ∧ ∃ ys, w'.ownsRow B 5 1 v n ys := by
  rcases Nat.eq_zero_or_pos n with rfl | hpos
  · have HH := Lib.hid h
    obtain ⟨A, c, rfl, _⟩ := own_slice h
    clear h
    go_enter Try.func27, Try.ntmps27
    go_wp2
    go_loopw [2] (fun i wr => i = .int .i64 0 ∧ w = wr) (fun _ _ => 0)
    case atStart => exact ⟨rfl, rfl⟩
    case round =>
      obtain ⟨rfl, rfl⟩ := hrel
      go_wp2
      go_end0
      exact ⟨rfl, Only.refl _ _, xs, HH.out⟩
  · obtain ⟨g, cap, rfl, hb, hlt⟩ := h.form hpos
    have HH := Lib.hid h
    clear h
    go_enter Try.func27, Try.ntmps27
    go_wp2
    go_loopw [2] (fun i wr => ∃ (k : Nat) (ys : List Value), k ≤ n ∧ i = .int .i64 k ∧ wr.ownsRow B 5 1 (.slice (some ⟨g, 0, none⟩) n cap) n ys ∧ Only (fun k => k = g) w wr) (fun i _ => n - (intOf i).toNat)
    case atStart => exact ⟨0, xs, by omega, rfl, HH.out, Only.refl _ _⟩
    case round =>
      obtain ⟨k, ys, hk, rfl, hown, ho⟩ := hrel
      have HW := Lib.hid hown
      have HO := Lib.hid ho
      by_cases hkn : k < n
      · have hl := hown.1
        have qc : wr.cell? ⟨g, k, none⟩ = some ys[k] := by
          rw [hown.cellAt k (by omega)]
          exact List.getElem?_eq_getElem (by omega)
        have qf := hown.frozenAt k
        generalize ys[k] = y at *
        clear hown ho hl
        go_wp2
        go_roundw
        case rel =>
          refine ⟨k + 1, _, by omega, by go_num, (HW.out.stored k _).1, HO.out.set (fun _ => rfl) _⟩
        case measure => simp [intOf]; omega
      · clear hown ho
        go_wp2
        go_end0
        exact ⟨rfl, HO.out.mono (fun i _ e => by subst e; rfl), _, HW.out⟩
/-- Another row of bytes is one still, wherever it lies. -/
theorem spoil_other {w w1 : World} {B B' n m : Nat} {v u : Value} {xs ys zs : List Value} (hv : w.ownsRow B 5 1 v n xs) (hu : w.ownsRow B' 5 1 u m ys) (ho : Only (fun k => v.ownBlock = some k) w w1) (hv1 : w1.ownsRow B 5 1 v n zs) : ∃ ys', w1.ownsRow B' 5 1 u m ys' := by
  rcases hu.2 with ⟨rfl, h0⟩ | ⟨g, cap, cur, rfl, hb, hg, hc, hcm, hcs, _⟩
  · subst h0
    exact ⟨[], by simp, .inl ⟨rfl, rfl⟩⟩
  · by_cases he : v.ownBlock = some g
    · rcases hv.2 with ⟨rfl, _⟩ | ⟨g2, cap2, cur2, rfl, _, hg2, hc2, _, hcs2, _⟩
      · simp [Value.ownBlock] at he
      · have e2 : g2 = g := by simpa [Value.ownBlock] using he
        subst e2
        rw [hg] at hg2
        simp only [Option.some.injEq, Obj.cells.injEq] at hg2
        obtain ⟨rfl, -⟩ := hg2
        rcases hv1.2 with ⟨e, _⟩ | ⟨g3, cap3, cur3, e3, _, hg3, _, _, hcs3, _⟩
        · simp at e
        · injection e3 with e31 _ e33
          injection e31 with e31
          injection e31 with e31
          subst e31 e33
          exact ⟨_, by rw [List.length_take, Array.length_toList]; omega, .inr ⟨g2, cap, cur3, rfl, hb, hg3, hc, hcm, by omega, rfl⟩⟩
    · exact ⟨ys, hu.1, .inr ⟨g, cap, cur, rfl, hb, (ho.same g (lt_of_heap hg) he).trans hg, hc, hcm, hcs, (by assumption)⟩⟩
end Go.Proofs.Ytcgfmjdlningpaa
