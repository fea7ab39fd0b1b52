/- The reference's Key; descriptors of the reference compared. Conditions: as each says. -/
import Derived.Test.YtneogagainllnaaRvB
set_option linter.unusedVariables false
namespace Go.Proofs.Ytneogagainllnaa
open Go.RowKit

set_option maxRecDepth 100000 in
set_option maxHeartbeats 1000000 in
theorem eq_ref (d e : Dv) (w : World) : (binOp .eql 27 (.agg d.cells) (.agg e.cells)).run Try.prog w = .ok (.bool (d.same e)) w := by
  rw [run_eql_struct, run_equalIn_agg w 9999 _ _ _ (by kernel_rfl) (by kernel_rfl)]
  simp only [Program.fieldsOf, Try.underlying27]
  simp [Op.eqFields, Dv.cells, go_sem]
  simp only [Int.natCast_inj, ite_chain, Bool.and_true]
  have e : d.same e = (decide (d.n = e.n) && (decide (d.start = e.start) && (decide (d.part = e.part) && (decide (d.hasPic = e.hasPic) && (decide (d.long = e.long) && (decide (d.pic = e.pic) && (decide (d.hasTl0 = e.hasTl0) && (decide (d.tl0 = e.tl0) && (decide (d.hasTid = e.hasTid) && (decide (d.tid = e.tid) && (decide (d.sync = e.sync) && (decide (d.hasKey = e.hasKey) && decide (d.key = e.key))))))))))))) := by
    rw [Bool.eq_iff_iff]
    simp [Dv.same, and_assoc]
  rw [e]

theorem neq_ref (d e : Dv) (w : World) : (binOp .neq 27 (.agg d.cells) (.agg e.cells)).run Try.prog w = .ok (.bool (!d.same e)) w := by
  have h := eq_ref d e w
  rw [run_eql_struct] at h
  rw [run_neq_struct, ok_of_andThen h]
  rfl
theorem run_neq_ref {o : Oper} {ρ : Operand → Value} (w : World) (x y : Operand) (xs ys : Array Value) {b : Bool} (ho : o.op = .binOp .neq 27 x y 27) (hx : ρ x = .agg xs) (hy : ρ y = .agg ys)
    (h : (binOp .neq 27 (.agg xs) (.agg ys)).run Try.prog w = .ok (.bool b) w) : (execOp ρ o).run Try.prog w = .ok (.value (.bool b)) w := by
  unfold execOp
  simp only [ho, hx, hy, Sem.run_bind, Sem.run_pure, Result.andThen_ok, run_eqGuard_agg (P := Try.prog) w .neq 27 x y xs ys (by kernel_rfl), h]
set_option maxRecDepth 100000 in
set_option maxHeartbeats 1000000 in
theorem rkey_is (d : Dv) (v : Value) (xs : List Nat) (w : World) (hs : Src w v xs) (hx : ∀ x ∈ xs, x < 256) :
    Calls Try.prog 14 #[.agg d.cells, v] w fun e w' => e = .returned (.bool (d.begins xs)) ∧ Only (fun _ => False) w w' := by
  obtain ⟨n, start, part, a4, a5, a6, a7, a8, a9, a10, a11, a12, a13⟩ := d
  obtain ⟨b, hb⟩ : ∃ b, Dv.begins ⟨n, start, part, a4, a5, a6, a7, a8, a9, a10, a11, a12, a13⟩ xs = b := ⟨_, rfl⟩
  rw [hb]
  obtain ⟨A, c, rfl⟩ := hs.slice
  have HS := Lib.hid hs
  have HB := Lib.hid hb
  clear hs hb
  go_enter Try.func14, Try.ntmps14
  go_upto_region 1 with (fail)
  generalize hw0 : World.alloc _ _ = w0
  have HI : Is w0 w.heap.size 27 (Dv.cells ⟨n, start, part, a4, a5, a6, a7, a8, a9, a10, a11, a12, a13⟩) := by rw [← hw0]; exact Is.made w _ _
  have P0 := Lib.hid (show Only (fun _ => False) w w0 from by rw [← hw0]; exact (Only.refl _ w).alloc _)
  have hs0 := HS.out.only P0.out (by simp)
  clear hw0
  have c1 := HI.cell 1
  have c2 := HI.cell 2
  simp [Dv.cells] at c1 c2
  clear HI HS
  cases start
  · have hb : b = false := by rw [← HB.out]; rfl
    subst hb
    clear hs0 HB
    go_wp2
    go_ret
    exact ⟨rfl, P0.out⟩
  · by_cases hp : part = 0
    · subst hp
      cases xs with
      | nil =>
        have hb : b = false := by rw [← HB.out]; rfl
        subst hb
        clear hs0 HB
        go_wp2
        go_ret
        exact ⟨rfl, P0.out⟩
      | cons x r =>
        obtain ⟨g, o, c', e1, hc⟩ := hs0.at_ (by simp)
        injection e1 with e1 _ e3
        subst e1 e3
        have h0 := hc 0 (by simp)
        simp only [Nat.add_zero, List.getElem_cons_zero] at h0
        have hx0 := hx x (by simp)
        have hlen : decide ((1 : Int) ≤ ((x :: r).length : Int)) = true := decide_eq_true (by simp; omega)
        have hlt : 1 ≤ (x :: r).length := by simp
        have hlt' : (0 : Int) < ((x :: r).length : Int) := by simp
        have hb : b = ((x : Int) % 2 == 0) := by
          rw [← HB.out]
          show (x % 2 == 0) = _
          rw [Bool.eq_iff_iff]
          simp
          omega
        clear hc hx hs0
        generalize (x :: r).length = L at *
        cases b <;> (
          replace hb := hb.symm
          clear HB
          go_wp2
          go_ret
          exact ⟨rfl, P0.out⟩)
    · have hb1 : (((part : Nat) : Int) == 0) = false := by simp; omega
      have hb : b = false := by
        rw [← HB.out]
        have hb2 : (part == 0) = false := by simpa using hp
        simp [Dv.begins, hb2]
      subst hb
      clear hs0 HB hp
      generalize (part : Int) = y at *
      go_wp2
      go_ret
      exact ⟨rfl, P0.out⟩

end Go.Proofs.Ytneogagainllnaa
