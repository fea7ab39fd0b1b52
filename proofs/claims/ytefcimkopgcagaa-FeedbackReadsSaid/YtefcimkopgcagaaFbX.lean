/- easellaw07.few. Conditions: none. -/
import Derived.Test.YtefcimkopgcagaaFbW
set_option linter.unusedVariables false
namespace Go.Proofs.Ytefcimkopgcagaa
open Go.RowKit

def fewMs (m : Ms) : Bool := decide (m.pairs.length ≤ 300) && (decide (m.orders.length ≤ 300) && decide (m.srcs.length ≤ 300))
set_option maxRecDepth 100000 in
set_option maxHeartbeats 2000000 in
theorem ffew_is (m : Ms) (p1 o1 s1 : Value) (w : World) (h1 : RdM m p1 o1 s1 w) :
    Calls Try.prog 8 #[.agg (m.cls p1 o1 s1)] w fun e w' => e = .returned (.bool (fewMs m)) ∧ Only (fun _ => False) w w' := by
  obtain ⟨P1, d1, rfl, -, -⟩ := h1.p
  obtain ⟨O1, e1, rfl, -, -⟩ := h1.o
  obtain ⟨S1, f1, rfl, -, -⟩ := h1.s
  rw [nats_length]
  have HC := Lib.hid (fun b wx => @cls_cells m (.slice P1 m.pairs.length d1) (.slice O1 m.orders.length e1) (.slice S1 m.srcs.length f1) wx b 27)
  obtain ⟨r, hr⟩ : ∃ r, fewMs m = r := ⟨_, rfl⟩
  rw [hr]
  unfold fewMs at hr
  obtain ⟨A, hA⟩ : ∃ a, m.cls (.slice P1 m.pairs.length d1) (.slice O1 m.orders.length e1) (.slice S1 m.srcs.length f1) = a := ⟨_, rfl⟩
  rw [hA] at HC ⊢
  clear hA h1
  generalize m.pairs.length = L1 at *
  generalize m.orders.length = L2 at *
  generalize m.srcs.length = L3 at *
  have HR := Lib.hid hr.symm
  clear hr
  go_enter Try.func8, Try.ntmps8
  go_upto_region 1 with (fail)
  generalize hw0 : World.alloc _ _ = w0
  have I0 := Lib.hid (show Is w0 w.heap.size 27 A from by rw [← hw0]; exact Is.made _ _ _)
  have T0 := Lib.hid (show Only (fun _ => False) w w0 from by rw [← hw0]; exact (Only.refl _ w).alloc _)
  obtain ⟨ab, hab⟩ : ∃ k, w.heap.size = k := ⟨_, rfl⟩
  rw [hab] at I0 ⊢
  clear hw0 hab
  obtain ⟨e0, e1', e2, e3, e4, e5, e6, e7⟩ := HC.out ab w0 I0.out
  by_cases h1 : L1 ≤ 300
  · have z1 : (L1 : Int) ≤ 300 := by omega
    by_cases h2 : L2 ≤ 300
    · have z2 : (L2 : Int) ≤ 300 := by omega
      by_cases h3 : L3 ≤ 300
      · have z3 : (L3 : Int) ≤ 300 := by omega
        have HV := Lib.hid (show true = r from by rw [HR.out, decide_eq_true h1, decide_eq_true h2, decide_eq_true h3]; rfl)
        clear h1 h2 h3
        go_wp2
        go_ret
        rw [← HV.out]
        exact ⟨rfl, T0.out⟩
      · have z3 : ¬ (L3 : Int) ≤ 300 := by omega
        have HV := Lib.hid (show false = r from by rw [HR.out, decide_eq_true h1, decide_eq_true h2, decide_eq_false h3]; rfl)
        clear h1 h2 h3
        go_wp2
        go_ret
        rw [← HV.out]
        exact ⟨rfl, T0.out⟩
    · have z2 : ¬ (L2 : Int) ≤ 300 := by omega
      have HV := Lib.hid (show false = r from by rw [HR.out, decide_eq_true h1, decide_eq_false h2]; rfl)
      clear h1 h2
      go_wp2
      go_ret
      rw [← HV.out]
      exact ⟨rfl, T0.out⟩
  · have z1 : ¬ (L1 : Int) ≤ 300 := by omega
    have HV := Lib.hid (show false = r from by rw [HR.out, decide_eq_false h1]; rfl)
    clear h1
    go_wp2
    go_ret
    rw [← HV.out]
    exact ⟨rfl, T0.out⟩
end Go.Proofs.Ytefcimkopgcagaa
