/- easelref07.Right. Conditions: as it says. -/
import Derived.Test.YtefcimkopgcagaaFbX
set_option linter.unusedVariables false
namespace Go.Proofs.Ytefcimkopgcagaa
open Go.RowKit

/-- May a message be? Of its sort and its sizes. -/
def okMs (s P O S e t : Nat) : Prop :=
  (s = 1 ∧ 1 ≤ P ∧ P ≤ 65533 ∧ O = 0 ∧ S = 0 ∧ e = 0 ∧ t = 0) ∨ (s = 2 ∧ P = 0 ∧ O = 0 ∧ S = 0 ∧ e = 0 ∧ t = 0) ∨
  (s = 3 ∧ P = 0 ∧ 1 ≤ O ∧ O ≤ 32766 ∧ S = 0 ∧ e = 0 ∧ t = 0) ∨ (s = 4 ∧ P = 0 ∧ O = 0 ∧ S ≤ 255 ∧ e ≤ 63 ∧ t ≤ 262143)
instance (s P O S e t : Nat) : Decidable (okMs s P O S e t) := by unfold okMs; infer_instance
def rightMs (m : Ms) : Bool := decide (okMs m.sort m.pairs.length m.orders.length m.srcs.length m.exp m.mant)
set_option maxRecDepth 100000 in
set_option maxHeartbeats 4000000 in
theorem rright_is (m : Ms) (p1 o1 s1 : Value) (w : World) (h1 : RdM m p1 o1 s1 w) (hl : m.pairs.length ≤ 1000000 ∧ m.orders.length ≤ 1000000 ∧ m.srcs.length ≤ 1000000) :
    Calls Try.prog 16 #[.agg (m.cls p1 o1 s1)] w fun e w' => e = .returned (.bool (rightMs m)) ∧ Only (fun _ => False) w w' := by
  obtain ⟨P1, d1, rfl, -, -⟩ := h1.p
  obtain ⟨O1, e1, rfl, -, -⟩ := h1.o
  obtain ⟨S1, f1, rfl, -, -⟩ := h1.s
  rw [nats_length]
  have HC := Lib.hid (fun b wx => @cls_cells m (.slice P1 m.pairs.length d1) (.slice O1 m.orders.length e1) (.slice S1 m.srcs.length f1) wx b 33)
  obtain ⟨r, hr⟩ : ∃ r, rightMs m = r := ⟨_, rfl⟩
  rw [hr]
  unfold rightMs at hr
  obtain ⟨A, hA⟩ : ∃ a, m.cls (.slice P1 m.pairs.length d1) (.slice O1 m.orders.length e1) (.slice S1 m.srcs.length f1) = a := ⟨_, rfl⟩
  rw [hA] at HC ⊢
  clear hA h1
  generalize m.pairs.length = P at *
  generalize m.orders.length = O at *
  generalize m.srcs.length = S at *
  generalize m.sort = s at *
  generalize m.exp = e at *
  generalize m.mant = t at *
  obtain ⟨hP, hO, hS⟩ := hl
  have HT := Lib.hid (fun (h : okMs s P O S e t) => (show true = r from by rw [← hr]; exact (decide_eq_true h).symm))
  have HF := Lib.hid (fun (h : ¬ okMs s P O S e t) => (show false = r from by rw [← hr]; exact (decide_eq_false h).symm))
  clear hr
  go_enter Try.func16, Try.ntmps16
  go_upto_region 1 with (fail)
  generalize hw0 : World.alloc _ _ = w0
  have I0 := Lib.hid (show Is w0 w.heap.size 33 A from by rw [← hw0]; exact Is.made _ _ _)
  have T0 := Lib.hid (show Only (fun _ => False) w w0 from by rw [← hw0]; exact (Only.refl _ w).alloc _)
  obtain ⟨ab, hab⟩ : ∃ k, w.heap.size = k := ⟨_, rfl⟩
  rw [hab] at I0 ⊢
  clear hw0 hab
  obtain ⟨e0, e1', e2, e3, e4, e5, e6, e7⟩ := HC.out ab w0 I0.out
  clear HC I0 e1' e2
  by_cases g1 : s = 1
  · subst g1
    by_cases gP : P ≤ 65533
    · have z : 2 + (P : Int) ≤ 65535 := by omega
      go_wp2
      all_goals first
        | (go_ret; rw [← HF.out (by unfold okMs; omega)]; exact ⟨rfl, T0.out⟩)
        | (go_ret; rw [← HT.out (by unfold okMs; omega)]; exact ⟨rfl, T0.out⟩)
    · have z : ¬ 2 + (P : Int) ≤ 65535 := by omega
      go_wp2
      all_goals first
        | (go_ret; rw [← HF.out (by unfold okMs; omega)]; exact ⟨rfl, T0.out⟩)
        | (go_ret; rw [← HT.out (by unfold okMs; omega)]; exact ⟨rfl, T0.out⟩)
  by_cases g2 : s = 2
  · subst g2
    go_wp2
    all_goals first
      | (go_ret; rw [← HF.out (by unfold okMs; omega)]; exact ⟨rfl, T0.out⟩)
      | (go_ret; rw [← HT.out (by unfold okMs; omega)]; exact ⟨rfl, T0.out⟩)
  by_cases g3 : s = 3
  · subst g3
    by_cases gO : O ≤ 32766
    · have z : 2 + 2 * (O : Int) ≤ 65535 := by omega
      go_wp2
      all_goals first
        | (go_ret; rw [← HF.out (by unfold okMs; omega)]; exact ⟨rfl, T0.out⟩)
        | (go_ret; rw [← HT.out (by unfold okMs; omega)]; exact ⟨rfl, T0.out⟩)
    · have z : ¬ 2 + 2 * (O : Int) ≤ 65535 := by omega
      go_wp2
      all_goals first
        | (go_ret; rw [← HF.out (by unfold okMs; omega)]; exact ⟨rfl, T0.out⟩)
        | (go_ret; rw [← HT.out (by unfold okMs; omega)]; exact ⟨rfl, T0.out⟩)
  by_cases g4 : s = 4
  · subst g4
    by_cases gP : 0 < P
    · have z : (0 : Int) < (P : Int) := by omega
      have HV := Lib.hid (HF.out (by unfold okMs; omega))
      clear gP HF HT
      go_wp2
      go_ret
      rw [← HV.out]
      exact ⟨rfl, T0.out⟩
    have z : ¬ (0 : Int) < (P : Int) := by omega
    by_cases gO : 0 < O
    · have z2 : (0 : Int) < (O : Int) := by omega
      have HV := Lib.hid (HF.out (by unfold okMs; omega))
      clear gO gP HF HT
      go_wp2
      go_ret
      rw [← HV.out]
      exact ⟨rfl, T0.out⟩
    have z2 : ¬ (0 : Int) < (O : Int) := by omega
    by_cases ge : e ≤ 63
    · have z3 : (e : Int) ≤ 63 := by omega
      by_cases gt : t ≤ 262143
      · have z4 : (t : Int) < 262144 := by omega
        by_cases gS : S ≤ 255
        · have z5 : (S : Int) ≤ 255 := by omega
          have HV := Lib.hid (HT.out (by unfold okMs; omega))
          clear gS gt ge gO gP HF HT
          generalize (t : Int) = T at *
          go_wp2
          go_ret
          rw [← HV.out]
          exact ⟨rfl, T0.out⟩
        · have z5 : ¬ (S : Int) ≤ 255 := by omega
          have HV := Lib.hid (HF.out (by unfold okMs; omega))
          clear gS gt ge gO gP HF HT
          generalize (t : Int) = T at *
          go_wp2
          go_ret
          rw [← HV.out]
          exact ⟨rfl, T0.out⟩
      · have z4 : ¬ (t : Int) < 262144 := by omega
        have HV := Lib.hid (HF.out (by unfold okMs; omega))
        clear gt ge gO gP HF HT
        generalize (t : Int) = T at *
        go_wp2
        go_ret
        rw [← HV.out]
        exact ⟨rfl, T0.out⟩
    · have z3 : ¬ (e : Int) ≤ 63 := by omega
      have HV := Lib.hid (HF.out (by unfold okMs; omega))
      clear ge gO gP HF HT
      go_wp2
      go_ret
      rw [← HV.out]
      exact ⟨rfl, T0.out⟩
  have n1 : ((s : Int) != 1) = true := by simp; omega
  have n3 : ((s : Int) != 3) = true := by simp; omega
  have n4 : ((s : Int) != 4) = true := by simp; omega
  have q1 : ((s : Int) == 1) = false := by rw [beq_eq_false_iff_ne]; omega
  have q2 : ((s : Int) == 2) = false := by rw [beq_eq_false_iff_ne]; omega
  have q3 : ((s : Int) == 3) = false := by rw [beq_eq_false_iff_ne]; omega
  have q4 : ((s : Int) == 4) = false := by rw [beq_eq_false_iff_ne]; omega
  have HV := Lib.hid (HF.out (by unfold okMs; omega))
  clear g1 g2 g3 g4 HF HT
  go_wp2
  all_goals (go_ret; rw [← HV.out]; exact ⟨rfl, T0.out⟩)
end Go.Proofs.Ytefcimkopgcagaa
