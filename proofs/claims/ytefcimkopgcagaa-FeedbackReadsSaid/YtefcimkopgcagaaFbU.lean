/- slices.Equal of pairs, and of orders. Conditions: as each says. -/
import Derived.Test.YtefcimkopgcagaaFbE
set_option linter.unusedVariables false
namespace Go.Proofs.Ytefcimkopgcagaa
open Go.RowKit

instance : DecidableEq Pr := fun a b => decidable_of_iff (a.pid = b.pid ∧ a.blp = b.blp) ⟨fun h => by cases a; cases b; simp_all, fun h => by subst h; exact ⟨rfl, rfl⟩⟩
instance : DecidableEq Od := fun a b => decidable_of_iff (a.ssrc = b.ssrc ∧ a.no = b.no) ⟨fun h => by cases a; cases b; simp_all, fun h => by subst h; exact ⟨rfl, rfl⟩⟩
theorem take_eq_of7 {α : Type} (xs bs : List α) (k : Nat) (hk : k < xs.length) (hk2 : k < bs.length) (h : xs.take k = bs.take k) (he : xs[k] = bs[k]) : xs.take (k + 1) = bs.take (k + 1) := by
  rw [List.take_succ_eq_append_getElem hk, List.take_succ_eq_append_getElem hk2, h, he]

theorem ne_fp (a b c d : Nat) (w : World) (h : ¬ (a = c ∧ b = d)) : (binOp .eql 82 (.agg #[.int .u16 (a : Nat), .int .u16 (b : Nat)]) (.agg #[.int .u16 (c : Nat), .int .u16 (d : Nat)])).run Try.prog w = .ok (.bool false) w := by
  rw [run_eql_struct, run_equalIn_agg w 9999 _ _ _ (by kernel_rfl) (by kernel_rfl)]
  simp only [Program.fieldsOf, Try.underlying82]
  by_cases h1 : a = c
  · have h2 : ¬ b = d := fun e => h ⟨h1, e⟩
    have e2 : ¬ ((b : Int) = (d : Int)) := by omega
    simp [Op.eqFields, go_sem, h1, e2]
  · have e1 : ¬ ((a : Int) = (c : Int)) := by omega
    simp [Op.eqFields, go_sem, e1]
theorem eq_fp (a b : Nat) (w : World) : (binOp .eql 82 (.agg #[.int .u16 (a : Nat), .int .u16 (b : Nat)]) (.agg #[.int .u16 (a : Nat), .int .u16 (b : Nat)])).run Try.prog w = .ok (.bool true) w := by
  rw [run_eql_struct, run_equalIn_agg w 9999 _ _ _ (by kernel_rfl) (by kernel_rfl)]
  simp only [Program.fieldsOf, Try.underlying82]
  simp [Op.eqFields, go_sem]
theorem run_ne_fp {o : Oper} {ρ : Operand → Value} (w : World) (x y : Operand) (a b c d : Nat) (r : Bool) (hr : (binOp .eql 82 (.agg #[.int .u16 (a : Nat), .int .u16 (b : Nat)]) (.agg #[.int .u16 (c : Nat), .int .u16 (d : Nat)])).run Try.prog w = .ok (.bool r) w)
    (ho : o.op = .binOp .neq 82 x y 82) (hx : ρ x = .agg #[.int .u16 (a : Nat), .int .u16 (b : Nat)]) (hy : ρ y = .agg #[.int .u16 (c : Nat), .int .u16 (d : Nat)]) :
    (execOp ρ o).run Try.prog w = .ok (.value (.bool (!r))) w := by
  have h := hr
  rw [run_eql_struct] at h
  have hn : (binOp .neq 82 (.agg #[.int .u16 (a : Nat), .int .u16 (b : Nat)]) (.agg #[.int .u16 (c : Nat), .int .u16 (d : Nat)])).run Try.prog w = .ok (.bool (!r)) w := by
    rw [run_neq_struct, ok_bool h]
    rfl
  unfold execOp
  simp only [ho, hx, hy, Sem.run_bind, Sem.run_pure, Result.andThen_ok, run_eqGuard_agg (P := Try.prog) w .neq 82 x y _ _ (by kernel_rfl), hn]
set_option maxRecDepth 100000 in
set_option maxHeartbeats 4000000 in
theorem equal_fp (va vb : Value) (xs bs : List Pr) (w : World) (ha : RdP w va xs) (hb : RdP w vb bs) (hl : xs.length ≤ 1000000) (hl2 : bs.length ≤ 1000000) :
    Calls Try.prog 50 #[va, vb] w fun e w' => e = .returned (.bool (decide (xs = bs))) ∧ Only (fun _ => False) w w' := by
  obtain ⟨A, c, rfl, -, hca⟩ := ha
  obtain ⟨A', c', rfl, -, hcb⟩ := hb
  by_cases hlen : xs.length = bs.length
  · have HA := Lib.hid hca
    have HB := Lib.hid hcb
    obtain ⟨L, hla⟩ : ∃ L, xs.length = L := ⟨_, rfl⟩
    rw [hla] at hl hlen
    rw [← hlen, hla]
    have HLA := Lib.hid hla
    have HLB := Lib.hid hlen.symm
    obtain ⟨r, hr⟩ : ∃ r, decide (xs = bs) = r := ⟨_, rfl⟩
    have HR := Lib.hid hr
    rw [hr]
    clear hca hcb hla hlen hr hl2
    go_enter Try.func50, Try.ntmps50
    go_wp2
    go_loopw [13] (fun i wr => ∃ k : Nat, k ≤ L ∧ i = .int .i64 k ∧ Hid (xs.take k = bs.take k) ∧ ∃ n, wr = w.drewN n) (fun i _ => L - (intOf i).toNat)
    case atStart => exact ⟨0, by omega, rfl, by simp [Hid], 0, rfl⟩
    case round =>
      obtain ⟨k, hk, rfl, hpre, n, rfl⟩ := hrel
      by_cases hlt : k < L
      · have hkI : (k : Int) < (L : Int) := by omega
        have hka : k < xs.length := by rw [HLA.out]; exact hlt
        have hkb : k < bs.length := by rw [HLB.out]; exact hlt
        obtain ⟨g, o, rfl, ca⟩ := HA.out (by omega)
        obtain ⟨g', o', rfl, cb⟩ := HB.out (by omega)
        obtain ⟨qa0, qa1⟩ := ca k _ (List.getElem?_eq_getElem hka)
        obtain ⟨qb0, qb1⟩ := cb k _ (List.getElem?_eq_getElem hkb)
        by_cases heq : xs[k] = bs[k]
        · have HP := Lib.hid (take_eq_of7 xs bs k hka hkb hpre.out heq)
          rw [← heq] at qb0 qb1
          generalize xs[k] = y at *
          clear hka hkb heq ca cb
          go_upto_region 6 with (fail)
          refine wp_region_posts [[], [], [0, 1], [2, 0, 1], [], [], [4, 5], [6, 4, 5], [3, 7, 2, 0, 1, 6, 4, 5]] [] [] [[], [], [], [], [], [], [], [], []] [[], [], [], [], [], [], [], [], []] [] [] [] []
              [some ?va0, some ?va1, some ?va2, some ?va3, some ?va4, some ?va5, some ?va6, some ?va7, some (.bool false)]
              ?Ta (fun wx => ∃ n', wx = w.drewN n') ?Wa ?Ea (by kernel_rfl) (by kernel_rfl) (by kernel_rfl) (fun x => ?hTa) ?hFa ?hinia (Reg.all_ops ?runsa) ?presa ?fina
          case Wa => exact fun j x w' => True
          case Ea => exact fun _ w' w'' => True
          case hTa =>
            simp only [Reg.fillV, Act.put, List.setIfInBounds_toArray, List.set_cons_zero, List.set_cons_succ]
            rfl
          case runsa =>
            refine And.intro ?_ ?_
            · refine Reg.ob_pure (fun _ => rfl) rfl rfl rfl rfl (fun x w1 hF => ?_)
              obtain ⟨n', rfl⟩ := hF
              go_simp
              with_reducible rfl
            refine And.intro ?_ ?_
            · refine Reg.ob_pure (fun _ => rfl) rfl rfl rfl rfl (fun x w1 hF => ?_)
              obtain ⟨n', rfl⟩ := hF
              go_simp
              with_reducible rfl
            refine And.intro ?_ ?_
            · refine Reg.ob_pure (fun _ => rfl) rfl rfl rfl rfl (fun x w1 hF => ?_)
              obtain ⟨n', rfl⟩ := hF
              go_simp
              with_reducible rfl
            refine And.intro ?_ ?_
            · refine Reg.ob_pure (fun _ => rfl) rfl rfl rfl rfl (fun x w1 hF => ?_)
              obtain ⟨n', rfl⟩ := hF
              go_simp
              with_reducible rfl
            refine And.intro ?_ ?_
            · refine Reg.ob_pure (fun _ => rfl) rfl rfl rfl rfl (fun x w1 hF => ?_)
              obtain ⟨n', rfl⟩ := hF
              go_simp
              with_reducible rfl
            refine And.intro ?_ ?_
            · refine Reg.ob_pure (fun _ => rfl) rfl rfl rfl rfl (fun x w1 hF => ?_)
              obtain ⟨n', rfl⟩ := hF
              go_simp
              with_reducible rfl
            refine And.intro ?_ ?_
            · refine Reg.ob_pure (fun _ => rfl) rfl rfl rfl rfl (fun x w1 hF => ?_)
              obtain ⟨n', rfl⟩ := hF
              go_simp
              with_reducible rfl
            refine And.intro ?_ ?_
            · refine Reg.ob_pure (fun _ => rfl) rfl rfl rfl rfl (fun x w1 hF => ?_)
              obtain ⟨n', rfl⟩ := hF
              go_simp
              with_reducible rfl
            refine And.intro ?_ ?_
            · refine Reg.ob_pure (fun _ => rfl) rfl rfl rfl rfl (fun x w1 hF => ?_)
              exact run_ne_fp _ _ _ y.pid y.blp y.pid y.blp true (eq_fp _ _ _) rfl rfl rfl
            exact trivial
          case hFa =>
            exact ⟨n + 1, rfl⟩
          case hinia =>
            exact trivial
          case presa =>
            intro i hi j hj
            cases hj
          case fina =>
            rintro x w9 hF -
            obtain ⟨n2, rfl⟩ := hF rfl
            go_wp2
            exact ⟨⟨k + 1, by omega, by go_num, HP.out, n2, rfl⟩, by simp [intOf]; omega⟩
        · have HNE := Lib.hid (show decide (xs = bs) = false from decide_eq_false (fun e => heq (by subst e; rfl)))
          have HQ := Lib.hid (show ¬ (xs[k].pid = bs[k].pid ∧ xs[k].blp = bs[k].blp) from fun h => heq (by
            generalize xs[k] = x at *
            generalize bs[k] = y at *
            cases x
            cases y
            simp_all))
          generalize xs[k] = y at *
          generalize bs[k] = z at *
          clear hka hkb heq ca cb
          go_upto_region 6 with (fail)
          refine wp_region_posts [[], [], [0, 1], [2, 0, 1], [], [], [4, 5], [6, 4, 5], [3, 7, 2, 0, 1, 6, 4, 5]] [] [] [[], [], [], [], [], [], [], [], []] [[], [], [], [], [], [], [], [], []] [] [] [] []
              [some ?vb0, some ?vb1, some ?vb2, some ?vb3, some ?vb4, some ?vb5, some ?vb6, some ?vb7, some (.bool true)]
              ?Tb (fun wx => ∃ n', wx = w.drewN n') ?Wb ?Eb (by kernel_rfl) (by kernel_rfl) (by kernel_rfl) (fun x => ?hTb) ?hFb ?hinib (Reg.all_ops ?runsb) ?presb ?finb
          case Wb => exact fun j x w' => True
          case Eb => exact fun _ w' w'' => True
          case hTb =>
            simp only [Reg.fillV, Act.put, List.setIfInBounds_toArray, List.set_cons_zero, List.set_cons_succ]
            rfl
          case runsb =>
            refine And.intro ?_ ?_
            · refine Reg.ob_pure (fun _ => rfl) rfl rfl rfl rfl (fun x w1 hF => ?_)
              obtain ⟨n', rfl⟩ := hF
              go_simp
              with_reducible rfl
            refine And.intro ?_ ?_
            · refine Reg.ob_pure (fun _ => rfl) rfl rfl rfl rfl (fun x w1 hF => ?_)
              obtain ⟨n', rfl⟩ := hF
              go_simp
              with_reducible rfl
            refine And.intro ?_ ?_
            · refine Reg.ob_pure (fun _ => rfl) rfl rfl rfl rfl (fun x w1 hF => ?_)
              obtain ⟨n', rfl⟩ := hF
              go_simp
              with_reducible rfl
            refine And.intro ?_ ?_
            · refine Reg.ob_pure (fun _ => rfl) rfl rfl rfl rfl (fun x w1 hF => ?_)
              obtain ⟨n', rfl⟩ := hF
              go_simp
              with_reducible rfl
            refine And.intro ?_ ?_
            · refine Reg.ob_pure (fun _ => rfl) rfl rfl rfl rfl (fun x w1 hF => ?_)
              obtain ⟨n', rfl⟩ := hF
              go_simp
              with_reducible rfl
            refine And.intro ?_ ?_
            · refine Reg.ob_pure (fun _ => rfl) rfl rfl rfl rfl (fun x w1 hF => ?_)
              obtain ⟨n', rfl⟩ := hF
              go_simp
              with_reducible rfl
            refine And.intro ?_ ?_
            · refine Reg.ob_pure (fun _ => rfl) rfl rfl rfl rfl (fun x w1 hF => ?_)
              obtain ⟨n', rfl⟩ := hF
              go_simp
              with_reducible rfl
            refine And.intro ?_ ?_
            · refine Reg.ob_pure (fun _ => rfl) rfl rfl rfl rfl (fun x w1 hF => ?_)
              obtain ⟨n', rfl⟩ := hF
              go_simp
              with_reducible rfl
            refine And.intro ?_ ?_
            · refine Reg.ob_pure (fun _ => rfl) rfl rfl rfl rfl (fun x w1 hF => ?_)
              exact run_ne_fp _ _ _ y.pid y.blp z.pid z.blp false (ne_fp _ _ _ _ _ HQ.out) rfl rfl rfl
            exact trivial
          case hFb =>
            exact ⟨n + 1, rfl⟩
          case hinib =>
            exact trivial
          case presb =>
            intro i hi j hj
            cases hj
          case finb =>
            rintro x w9 hF -
            obtain ⟨n2, rfl⟩ := hF rfl
            go_wp2
            go_ret
            exact ⟨by rw [← HR.out, HNE.out]; rfl, only_drewN w n2⟩
      · obtain rfl : k = L := by omega
        have HT := Lib.hid (show decide (xs = bs) = true from decide_eq_true (by
          have h := hpre.out
          rw [List.take_of_length_le (by rw [HLA.out]; exact Nat.le_refl _), List.take_of_length_le (by rw [HLB.out]; exact Nat.le_refl _)] at h
          exact h))
        clear hpre
        go_wp2
        go_ret
        exact ⟨by rw [← HR.out, HT.out]; rfl, only_drewN w n⟩
  · have HT := Lib.hid (show decide (xs = bs) = false from decide_eq_false (fun e => hlen (by rw [e])))
    rw [HT.out]
    have zl : ((xs.length : Int) != (bs.length : Int)) = true := by simp; omega
    generalize xs.length = L at *
    generalize bs.length = K at *
    clear hca hcb HT hlen
    go_enter Try.func50, Try.ntmps50
    go_wp2
    go_ret
    exact ⟨rfl, Only.refl _ _⟩

theorem ne_fo (a b c d : Nat) (w : World) (h : ¬ (a = c ∧ b = d)) : (binOp .eql 85 (.agg #[.int .u32 (a : Nat), .int .u8 (b : Nat)]) (.agg #[.int .u32 (c : Nat), .int .u8 (d : Nat)])).run Try.prog w = .ok (.bool false) w := by
  rw [run_eql_struct, run_equalIn_agg w 9999 _ _ _ (by kernel_rfl) (by kernel_rfl)]
  simp only [Program.fieldsOf, Try.underlying85]
  by_cases h1 : a = c
  · have h2 : ¬ b = d := fun e => h ⟨h1, e⟩
    have e2 : ¬ ((b : Int) = (d : Int)) := by omega
    simp [Op.eqFields, go_sem, h1, e2]
  · have e1 : ¬ ((a : Int) = (c : Int)) := by omega
    simp [Op.eqFields, go_sem, e1]
theorem eq_fo (a b : Nat) (w : World) : (binOp .eql 85 (.agg #[.int .u32 (a : Nat), .int .u8 (b : Nat)]) (.agg #[.int .u32 (a : Nat), .int .u8 (b : Nat)])).run Try.prog w = .ok (.bool true) w := by
  rw [run_eql_struct, run_equalIn_agg w 9999 _ _ _ (by kernel_rfl) (by kernel_rfl)]
  simp only [Program.fieldsOf, Try.underlying85]
  simp [Op.eqFields, go_sem]
theorem run_ne_fo {o : Oper} {ρ : Operand → Value} (w : World) (x y : Operand) (a b c d : Nat) (r : Bool) (hr : (binOp .eql 85 (.agg #[.int .u32 (a : Nat), .int .u8 (b : Nat)]) (.agg #[.int .u32 (c : Nat), .int .u8 (d : Nat)])).run Try.prog w = .ok (.bool r) w)
    (ho : o.op = .binOp .neq 85 x y 85) (hx : ρ x = .agg #[.int .u32 (a : Nat), .int .u8 (b : Nat)]) (hy : ρ y = .agg #[.int .u32 (c : Nat), .int .u8 (d : Nat)]) :
    (execOp ρ o).run Try.prog w = .ok (.value (.bool (!r))) w := by
  have h := hr
  rw [run_eql_struct] at h
  have hn : (binOp .neq 85 (.agg #[.int .u32 (a : Nat), .int .u8 (b : Nat)]) (.agg #[.int .u32 (c : Nat), .int .u8 (d : Nat)])).run Try.prog w = .ok (.bool (!r)) w := by
    rw [run_neq_struct, ok_bool h]
    rfl
  unfold execOp
  simp only [ho, hx, hy, Sem.run_bind, Sem.run_pure, Result.andThen_ok, run_eqGuard_agg (P := Try.prog) w .neq 85 x y _ _ (by kernel_rfl), hn]
set_option maxRecDepth 100000 in
set_option maxHeartbeats 4000000 in
theorem equal_fo (va vb : Value) (xs bs : List Od) (w : World) (ha : RdO w va xs) (hb : RdO w vb bs) (hl : xs.length ≤ 1000000) (hl2 : bs.length ≤ 1000000) :
    Calls Try.prog 51 #[va, vb] w fun e w' => e = .returned (.bool (decide (xs = bs))) ∧ Only (fun _ => False) w w' := by
  obtain ⟨A, c, rfl, -, hca⟩ := ha
  obtain ⟨A', c', rfl, -, hcb⟩ := hb
  by_cases hlen : xs.length = bs.length
  · have HA := Lib.hid hca
    have HB := Lib.hid hcb
    obtain ⟨L, hla⟩ : ∃ L, xs.length = L := ⟨_, rfl⟩
    rw [hla] at hl hlen
    rw [← hlen, hla]
    have HLA := Lib.hid hla
    have HLB := Lib.hid hlen.symm
    obtain ⟨r, hr⟩ : ∃ r, decide (xs = bs) = r := ⟨_, rfl⟩
    have HR := Lib.hid hr
    rw [hr]
    clear hca hcb hla hlen hr hl2
    go_enter Try.func51, Try.ntmps51
    go_wp2
    go_loopw [13] (fun i wr => ∃ k : Nat, k ≤ L ∧ i = .int .i64 k ∧ Hid (xs.take k = bs.take k) ∧ ∃ n, wr = w.drewN n) (fun i _ => L - (intOf i).toNat)
    case atStart => exact ⟨0, by omega, rfl, by simp [Hid], 0, rfl⟩
    case round =>
      obtain ⟨k, hk, rfl, hpre, n, rfl⟩ := hrel
      by_cases hlt : k < L
      · have hkI : (k : Int) < (L : Int) := by omega
        have hka : k < xs.length := by rw [HLA.out]; exact hlt
        have hkb : k < bs.length := by rw [HLB.out]; exact hlt
        obtain ⟨g, o, rfl, ca⟩ := HA.out (by omega)
        obtain ⟨g', o', rfl, cb⟩ := HB.out (by omega)
        obtain ⟨qa0, qa1⟩ := ca k _ (List.getElem?_eq_getElem hka)
        obtain ⟨qb0, qb1⟩ := cb k _ (List.getElem?_eq_getElem hkb)
        by_cases heq : xs[k] = bs[k]
        · have HP := Lib.hid (take_eq_of7 xs bs k hka hkb hpre.out heq)
          rw [← heq] at qb0 qb1
          generalize xs[k] = y at *
          clear hka hkb heq ca cb
          go_upto_region 6 with (fail)
          refine wp_region_posts [[], [], [0, 1], [2, 0, 1], [], [], [4, 5], [6, 4, 5], [3, 7, 2, 0, 1, 6, 4, 5]] [] [] [[], [], [], [], [], [], [], [], []] [[], [], [], [], [], [], [], [], []] [] [] [] []
              [some ?va0, some ?va1, some ?va2, some ?va3, some ?va4, some ?va5, some ?va6, some ?va7, some (.bool false)]
              ?Ta (fun wx => ∃ n', wx = w.drewN n') ?Wa ?Ea (by kernel_rfl) (by kernel_rfl) (by kernel_rfl) (fun x => ?hTa) ?hFa ?hinia (Reg.all_ops ?runsa) ?presa ?fina
          case Wa => exact fun j x w' => True
          case Ea => exact fun _ w' w'' => True
          case hTa =>
            simp only [Reg.fillV, Act.put, List.setIfInBounds_toArray, List.set_cons_zero, List.set_cons_succ]
            rfl
          case runsa =>
            refine And.intro ?_ ?_
            · refine Reg.ob_pure (fun _ => rfl) rfl rfl rfl rfl (fun x w1 hF => ?_)
              obtain ⟨n', rfl⟩ := hF
              go_simp
              with_reducible rfl
            refine And.intro ?_ ?_
            · refine Reg.ob_pure (fun _ => rfl) rfl rfl rfl rfl (fun x w1 hF => ?_)
              obtain ⟨n', rfl⟩ := hF
              go_simp
              with_reducible rfl
            refine And.intro ?_ ?_
            · refine Reg.ob_pure (fun _ => rfl) rfl rfl rfl rfl (fun x w1 hF => ?_)
              obtain ⟨n', rfl⟩ := hF
              go_simp
              with_reducible rfl
            refine And.intro ?_ ?_
            · refine Reg.ob_pure (fun _ => rfl) rfl rfl rfl rfl (fun x w1 hF => ?_)
              obtain ⟨n', rfl⟩ := hF
              go_simp
              with_reducible rfl
            refine And.intro ?_ ?_
            · refine Reg.ob_pure (fun _ => rfl) rfl rfl rfl rfl (fun x w1 hF => ?_)
              obtain ⟨n', rfl⟩ := hF
              go_simp
              with_reducible rfl
            refine And.intro ?_ ?_
            · refine Reg.ob_pure (fun _ => rfl) rfl rfl rfl rfl (fun x w1 hF => ?_)
              obtain ⟨n', rfl⟩ := hF
              go_simp
              with_reducible rfl
            refine And.intro ?_ ?_
            · refine Reg.ob_pure (fun _ => rfl) rfl rfl rfl rfl (fun x w1 hF => ?_)
              obtain ⟨n', rfl⟩ := hF
              go_simp
              with_reducible rfl
            refine And.intro ?_ ?_
            · refine Reg.ob_pure (fun _ => rfl) rfl rfl rfl rfl (fun x w1 hF => ?_)
              obtain ⟨n', rfl⟩ := hF
              go_simp
              with_reducible rfl
            refine And.intro ?_ ?_
            · refine Reg.ob_pure (fun _ => rfl) rfl rfl rfl rfl (fun x w1 hF => ?_)
              exact run_ne_fo _ _ _ y.ssrc y.no y.ssrc y.no true (eq_fo _ _ _) rfl rfl rfl
            exact trivial
          case hFa =>
            exact ⟨n + 1, rfl⟩
          case hinia =>
            exact trivial
          case presa =>
            intro i hi j hj
            cases hj
          case fina =>
            rintro x w9 hF -
            obtain ⟨n2, rfl⟩ := hF rfl
            go_wp2
            exact ⟨⟨k + 1, by omega, by go_num, HP.out, n2, rfl⟩, by simp [intOf]; omega⟩
        · have HNE := Lib.hid (show decide (xs = bs) = false from decide_eq_false (fun e => heq (by subst e; rfl)))
          have HQ := Lib.hid (show ¬ (xs[k].ssrc = bs[k].ssrc ∧ xs[k].no = bs[k].no) from fun h => heq (by
            generalize xs[k] = x at *
            generalize bs[k] = y at *
            cases x
            cases y
            simp_all))
          generalize xs[k] = y at *
          generalize bs[k] = z at *
          clear hka hkb heq ca cb
          go_upto_region 6 with (fail)
          refine wp_region_posts [[], [], [0, 1], [2, 0, 1], [], [], [4, 5], [6, 4, 5], [3, 7, 2, 0, 1, 6, 4, 5]] [] [] [[], [], [], [], [], [], [], [], []] [[], [], [], [], [], [], [], [], []] [] [] [] []
              [some ?vb0, some ?vb1, some ?vb2, some ?vb3, some ?vb4, some ?vb5, some ?vb6, some ?vb7, some (.bool true)]
              ?Tb (fun wx => ∃ n', wx = w.drewN n') ?Wb ?Eb (by kernel_rfl) (by kernel_rfl) (by kernel_rfl) (fun x => ?hTb) ?hFb ?hinib (Reg.all_ops ?runsb) ?presb ?finb
          case Wb => exact fun j x w' => True
          case Eb => exact fun _ w' w'' => True
          case hTb =>
            simp only [Reg.fillV, Act.put, List.setIfInBounds_toArray, List.set_cons_zero, List.set_cons_succ]
            rfl
          case runsb =>
            refine And.intro ?_ ?_
            · refine Reg.ob_pure (fun _ => rfl) rfl rfl rfl rfl (fun x w1 hF => ?_)
              obtain ⟨n', rfl⟩ := hF
              go_simp
              with_reducible rfl
            refine And.intro ?_ ?_
            · refine Reg.ob_pure (fun _ => rfl) rfl rfl rfl rfl (fun x w1 hF => ?_)
              obtain ⟨n', rfl⟩ := hF
              go_simp
              with_reducible rfl
            refine And.intro ?_ ?_
            · refine Reg.ob_pure (fun _ => rfl) rfl rfl rfl rfl (fun x w1 hF => ?_)
              obtain ⟨n', rfl⟩ := hF
              go_simp
              with_reducible rfl
            refine And.intro ?_ ?_
            · refine Reg.ob_pure (fun _ => rfl) rfl rfl rfl rfl (fun x w1 hF => ?_)
              obtain ⟨n', rfl⟩ := hF
              go_simp
              with_reducible rfl
            refine And.intro ?_ ?_
            · refine Reg.ob_pure (fun _ => rfl) rfl rfl rfl rfl (fun x w1 hF => ?_)
              obtain ⟨n', rfl⟩ := hF
              go_simp
              with_reducible rfl
            refine And.intro ?_ ?_
            · refine Reg.ob_pure (fun _ => rfl) rfl rfl rfl rfl (fun x w1 hF => ?_)
              obtain ⟨n', rfl⟩ := hF
              go_simp
              with_reducible rfl
            refine And.intro ?_ ?_
            · refine Reg.ob_pure (fun _ => rfl) rfl rfl rfl rfl (fun x w1 hF => ?_)
              obtain ⟨n', rfl⟩ := hF
              go_simp
              with_reducible rfl
            refine And.intro ?_ ?_
            · refine Reg.ob_pure (fun _ => rfl) rfl rfl rfl rfl (fun x w1 hF => ?_)
              obtain ⟨n', rfl⟩ := hF
              go_simp
              with_reducible rfl
            refine And.intro ?_ ?_
            · refine Reg.ob_pure (fun _ => rfl) rfl rfl rfl rfl (fun x w1 hF => ?_)
              exact run_ne_fo _ _ _ y.ssrc y.no z.ssrc z.no false (ne_fo _ _ _ _ _ HQ.out) rfl rfl rfl
            exact trivial
          case hFb =>
            exact ⟨n + 1, rfl⟩
          case hinib =>
            exact trivial
          case presb =>
            intro i hi j hj
            cases hj
          case finb =>
            rintro x w9 hF -
            obtain ⟨n2, rfl⟩ := hF rfl
            go_wp2
            go_ret
            exact ⟨by rw [← HR.out, HNE.out]; rfl, only_drewN w n2⟩
      · obtain rfl : k = L := by omega
        have HT := Lib.hid (show decide (xs = bs) = true from decide_eq_true (by
          have h := hpre.out
          rw [List.take_of_length_le (by rw [HLA.out]; exact Nat.le_refl _), List.take_of_length_le (by rw [HLB.out]; exact Nat.le_refl _)] at h
          exact h))
        clear hpre
        go_wp2
        go_ret
        exact ⟨by rw [← HR.out, HT.out]; rfl, only_drewN w n⟩
  · have HT := Lib.hid (show decide (xs = bs) = false from decide_eq_false (fun e => hlen (by rw [e])))
    rw [HT.out]
    have zl : ((xs.length : Int) != (bs.length : Int)) = true := by simp; omega
    generalize xs.length = L at *
    generalize bs.length = K at *
    clear hca hcb HT hlen
    go_enter Try.func51, Try.ntmps51
    go_wp2
    go_ret
    exact ⟨rfl, Only.refl _ _⟩
end Go.Proofs.Ytefcimkopgcagaa
