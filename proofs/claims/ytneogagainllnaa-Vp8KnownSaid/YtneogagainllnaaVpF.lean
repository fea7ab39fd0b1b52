/- Right, Key, Anew. Conditions: as each says. -/
import Derived.Test.YtneogagainllnaaVpE
set_option linter.unusedVariables false
namespace Go.Proofs.Ytneogagainllnaa
open Go.RowKit

theorem run_load_is {P : Program} {o : Oper} {ρ : Operand → Value} {w : World} (ty : TypeId) (x : Operand) (ho : o.op = .load ty x) (g : Nat) (hx : ρ x = .pointer (some ⟨g, 0, none⟩)) (t : TypeId) (cs : Array Value) (d : TypeDesc) (hg : Is w g t cs)
    (hu : P.underlying ty = some d) (hd : (match d with | .struct _ | .array _ _ => true | _ => false) = true) (hi : (P.info? ty).map (·.size) = some cs.size) : (execOp ρ o).run P w = .ok (.value (.agg cs)) w := by
  unfold execOp
  simp only [ho, hx, Instr.loadAt, Instr.sureAddr, Sem.run_bind, Sem.run_pure, Result.andThen_ok, run_loadVar_row w g t ty cs (0, 0) d hg hu hd hi]
theorem run_eql_is {o : Oper} {ρ : Operand → Value} (w : World) (x y : Operand) (xs ys : Array Value) {b : Bool} (ho : o.op = .binOp .eql 31 x y 31) (hx : ρ x = .agg xs) (hy : ρ y = .agg ys)
    (h : (binOp .eql 31 (.agg xs) (.agg ys)).run Try.prog w = .ok (.bool b) w) : (execOp ρ o).run Try.prog w = .ok (.value (.bool b)) w := by
  unfold execOp
  simp only [ho, hx, hy, Sem.run_bind, Sem.run_pure, Result.andThen_ok, run_eqGuard_agg (P := Try.prog) w .eql 31 x y xs ys (by kernel_rfl), h]

set_option maxRecDepth 100000 in
set_option maxHeartbeats 1000000 in
theorem right_is (d : Dv) (w : World) (hf : d.Fit) : Calls Try.prog 19 #[d.val] w fun e w' => e = .returned (.bool d.right) ∧ Only (fun _ => False) w w' := by
  simp only [Dv.val]
  go_enter Try.func19, Try.ntmps19
  go_upto_region 1 with (fail)
  obtain ⟨db, hdb⟩ : ∃ db, w.heap.size = db := ⟨_, rfl⟩
  generalize hw0 : World.alloc _ _ = w0
  have hI : Is w0 db 31 d.cells := by rw [← hw0, ← hdb]; exact Is.made w _ _
  have hP : Only (fun _ => False) w w0 := by rw [← hw0]; exact (Only.refl _ w).alloc _
  clear hw0
  rw [hdb]
  clear hdb
  refine wp_region_posts [[], [], [1], [0, 2, 1], [3, 2, 0, 1]] [2] [] [[], [], [], [], []] [[], [], [], [], []] [] [] [] []
      [some (.agg d.cells), some (.agg d.cells), some (.agg d.fit.cells), some (.bool (d.same d.fit)), some ?v4]
      ?T (fun w' => Is w' db 31 d.cells ∧ Only (fun _ => False) w w') ?W ?E (by kernel_rfl) (by kernel_rfl) (by kernel_rfl) (fun x => ?hT) ?hF ?hini (Reg.all_ops ?runs) ?pres ?fin
  case W => exact fun _ _ _ => True
  case E => exact fun _ w' w'' => Only (fun _ => False) w' w''
  case hT =>
    simp only [Reg.fillV, Act.put, List.setIfInBounds_toArray, List.set_cons_zero, List.set_cons_succ]
    rfl
  case runs =>
    refine And.intro ?_ ?_
    · refine Reg.ob_pure (fun _ => rfl) rfl rfl rfl rfl (fun x w1 hF => ?_)
      exact run_load_is 31 _ (by rfl) db (by rfl) 31 d.cells _ hF.1 Try.underlying31 rfl Try.sizeDesc
    refine And.intro ?_ ?_
    · refine Reg.ob_pure (fun _ => rfl) rfl rfl rfl rfl (fun x w1 hF => ?_)
      exact run_load_is 31 _ (by rfl) db (by rfl) 31 d.cells _ hF.1 Try.underlying31 rfl Try.sizeDesc
    refine And.intro ?_ ?_
    · refine Reg.ob_known (fun _ => rfl) rfl rfl (fun x w1 hF hU K hK => ?_)
      obtain ⟨hF1, hF2⟩ := hF rfl
      go_simp
      refine (fitted_is d _ hf).mono ?_
      rintro e w3 ⟨rfl, ho⟩
      exact hK w3 (fun _ _ _ => ⟨hF1.only ho (by simp), hF2.trans ho (fun _ _ e => e)⟩) ho
    refine And.intro ?_ ?_
    · refine Reg.ob_pure (fun _ => rfl) rfl rfl rfl rfl (fun x w1 hF => ?_)
      exact run_eql_is w1 _ _ d.cells d.fit.cells (by rfl) (by rfl) (by rfl) (eq_desc d d.fit w1)
    refine And.intro ?_ ?_
    · refine Reg.ob_pure (fun _ => rfl) rfl rfl rfl rfl (fun x w1 hF => ?_)
      go_simp
      with_reducible rfl
    exact trivial
  case hF =>
    exact ⟨hI, hP.drew⟩
  case hini =>
    exact trivial
  case pres =>
    intro i hi j hj
    cases hj
  case fin =>
    rintro x w1 hF -
    replace hF := hF rfl
    go_wp2
    go_ret
    exact ⟨rfl, hF.2⟩

end Go.Proofs.Ytneogagainllnaa
