/- easelref07.Same. Conditions: as it says. -/
import Derived.Test.YtefcimkopgcagaaFbGr
set_option linter.unusedVariables false
namespace Go.Proofs.Ytefcimkopgcagaa
open Go.RowKit

theorem ne_rp7 (a b c d : Nat) (w : World) (h : ¬ (a = c ∧ b = d)) : (binOp .eql 83 (.agg #[.int .u16 (a : Nat), .int .u16 (b : Nat)]) (.agg #[.int .u16 (c : Nat), .int .u16 (d : Nat)])).run Try.prog w = .ok (.bool false) w := by
  rw [run_eql_struct, run_equalIn_agg w 9999 _ _ _ (by kernel_rfl) (by kernel_rfl)]
  simp only [Program.fieldsOf, Try.underlying83]
  by_cases h1 : a = c
  · have h2 : ¬ b = d := fun e => h ⟨h1, e⟩
    have e2 : ¬ ((b : Int) = (d : Int)) := by omega
    simp [Op.eqFields, go_sem, h1, e2]
  · have e1 : ¬ ((a : Int) = (c : Int)) := by omega
    simp [Op.eqFields, go_sem, e1]
theorem eq_rp7 (a b : Nat) (w : World) : (binOp .eql 83 (.agg #[.int .u16 (a : Nat), .int .u16 (b : Nat)]) (.agg #[.int .u16 (a : Nat), .int .u16 (b : Nat)])).run Try.prog w = .ok (.bool true) w := by
  rw [run_eql_struct, run_equalIn_agg w 9999 _ _ _ (by kernel_rfl) (by kernel_rfl)]
  simp only [Program.fieldsOf, Try.underlying83]
  simp [Op.eqFields, go_sem]
theorem run_ne_rp7 {o : Oper} {ρ : Operand → Value} (w : World) (x y : Operand) (a b c d : Nat) (r : Bool) (hr : (binOp .eql 83 (.agg #[.int .u16 (a : Nat), .int .u16 (b : Nat)]) (.agg #[.int .u16 (c : Nat), .int .u16 (d : Nat)])).run Try.prog w = .ok (.bool r) w)
    (ho : o.op = .binOp .neq 83 x y 83) (hx : ρ x = .agg #[.int .u16 (a : Nat), .int .u16 (b : Nat)]) (hy : ρ y = .agg #[.int .u16 (c : Nat), .int .u16 (d : Nat)]) :
    (execOp ρ o).run Try.prog w = .ok (.value (.bool (!r))) w := by
  have h := hr
  rw [run_eql_struct] at h
  have hn : (binOp .neq 83 (.agg #[.int .u16 (a : Nat), .int .u16 (b : Nat)]) (.agg #[.int .u16 (c : Nat), .int .u16 (d : Nat)])).run Try.prog w = .ok (.bool (!r)) w := by
    rw [run_neq_struct, ok_bool h]
    rfl
  unfold execOp
  simp only [ho, hx, hy, Sem.run_bind, Sem.run_pure, Result.andThen_ok, run_eqGuard_agg (P := Try.prog) w .neq 83 x y _ _ (by kernel_rfl), hn]

theorem ne_ro7 (a b c d : Nat) (w : World) (h : ¬ (a = c ∧ b = d)) : (binOp .eql 86 (.agg #[.int .u32 (a : Nat), .int .u8 (b : Nat)]) (.agg #[.int .u32 (c : Nat), .int .u8 (d : Nat)])).run Try.prog w = .ok (.bool false) w := by
  rw [run_eql_struct, run_equalIn_agg w 9999 _ _ _ (by kernel_rfl) (by kernel_rfl)]
  simp only [Program.fieldsOf, Try.underlying86]
  by_cases h1 : a = c
  · have h2 : ¬ b = d := fun e => h ⟨h1, e⟩
    have e2 : ¬ ((b : Int) = (d : Int)) := by omega
    simp [Op.eqFields, go_sem, h1, e2]
  · have e1 : ¬ ((a : Int) = (c : Int)) := by omega
    simp [Op.eqFields, go_sem, e1]
theorem eq_ro7 (a b : Nat) (w : World) : (binOp .eql 86 (.agg #[.int .u32 (a : Nat), .int .u8 (b : Nat)]) (.agg #[.int .u32 (a : Nat), .int .u8 (b : Nat)])).run Try.prog w = .ok (.bool true) w := by
  rw [run_eql_struct, run_equalIn_agg w 9999 _ _ _ (by kernel_rfl) (by kernel_rfl)]
  simp only [Program.fieldsOf, Try.underlying86]
  simp [Op.eqFields, go_sem]
theorem run_ne_ro7 {o : Oper} {ρ : Operand → Value} (w : World) (x y : Operand) (a b c d : Nat) (r : Bool) (hr : (binOp .eql 86 (.agg #[.int .u32 (a : Nat), .int .u8 (b : Nat)]) (.agg #[.int .u32 (c : Nat), .int .u8 (d : Nat)])).run Try.prog w = .ok (.bool r) w)
    (ho : o.op = .binOp .neq 86 x y 86) (hx : ρ x = .agg #[.int .u32 (a : Nat), .int .u8 (b : Nat)]) (hy : ρ y = .agg #[.int .u32 (c : Nat), .int .u8 (d : Nat)]) :
    (execOp ρ o).run Try.prog w = .ok (.value (.bool (!r))) w := by
  have h := hr
  rw [run_eql_struct] at h
  have hn : (binOp .neq 86 (.agg #[.int .u32 (a : Nat), .int .u8 (b : Nat)]) (.agg #[.int .u32 (c : Nat), .int .u8 (d : Nat)])).run Try.prog w = .ok (.bool (!r)) w := by
    rw [run_neq_struct, ok_bool h]
    rfl
  unfold execOp
  simp only [ho, hx, hy, Sem.run_bind, Sem.run_pure, Result.andThen_ok, run_eqGuard_agg (P := Try.prog) w .neq 86 x y _ _ (by kernel_rfl), hn]

set_option maxRecDepth 100000 in
set_option maxHeartbeats 6000000 in
theorem rmsame_is (m k : Ms) (p1 o1 s1 p2 o2 s2 : Value) (w : World) (h1 : RdM m p1 o1 s1 w) (h2 : RdM k p2 o2 s2 w) (hl : m.pairs.length ≤ 1000000 ∧ m.orders.length ≤ 1000000 ∧ m.srcs.length ≤ 1000000) (hl2 : k.pairs.length ≤ 1000000 ∧ k.orders.length ≤ 1000000 ∧ k.srcs.length ≤ 1000000) :
    Calls Try.prog 18 #[.agg (m.cls p1 o1 s1), .agg (k.cls p2 o2 s2)] w fun e w' => e = .returned (.bool (sameMs m k)) ∧ Only (fun _ => False) w w' := by
  have R1 := Lib.hid h1
  have R2 := Lib.hid h2
  obtain ⟨P1, d1, rfl, -, -⟩ := h1.p
  obtain ⟨O1, e1, rfl, -, -⟩ := h1.o
  obtain ⟨S1, f1, rfl, -, -⟩ := h1.s
  obtain ⟨P2, d2, rfl, -, -⟩ := h2.p
  obtain ⟨O2, e2, rfl, -, -⟩ := h2.o
  obtain ⟨S2, f2, rfl, -, -⟩ := h2.s
  rw [nats_length, nats_length] at *
  obtain ⟨hl1, hl2', hl3⟩ := hl
  obtain ⟨hk1, hk2, hk3⟩ := hl2
  have HC1 := Lib.hid (fun b wx => @cls_cells m (.slice P1 m.pairs.length d1) (.slice O1 m.orders.length e1) (.slice S1 m.srcs.length f1) wx b 33)
  have HC2 := Lib.hid (fun b wx => @cls_cells k (.slice P2 k.pairs.length d2) (.slice O2 k.orders.length e2) (.slice S2 k.srcs.length f2) wx b 33)
  obtain ⟨r, hr⟩ : ∃ r, sameMs m k = r := ⟨_, rfl⟩
  rw [hr]
  unfold sameMs at hr
  have HLP := Lib.hid (fun (h : m.pairs = k.pairs) => congrArg List.length h)
  have HLO := Lib.hid (fun (h : m.orders = k.orders) => congrArg List.length h)
  have HLS := Lib.hid (fun (h : m.srcs = k.srcs) => congrArg List.length h)
  obtain ⟨A, hA⟩ : ∃ a, m.cls (.slice P1 m.pairs.length d1) (.slice O1 m.orders.length e1) (.slice S1 m.srcs.length f1) = a := ⟨_, rfl⟩
  obtain ⟨B, hB⟩ : ∃ a, k.cls (.slice P2 k.pairs.length d2) (.slice O2 k.orders.length e2) (.slice S2 k.srcs.length f2) = a := ⟨_, rfl⟩
  rw [hA] at HC1 ⊢
  rw [hB] at HC2 ⊢
  have HQ := Lib.hid (show (∀ wx, Only (fun _ => False) w wx → RdM m (.slice P1 m.pairs.length d1) (.slice O1 m.orders.length e1) (.slice S1 m.srcs.length f1) wx ∧ RdM k (.slice P2 k.pairs.length d2) (.slice O2 k.orders.length e2) (.slice S2 k.srcs.length f2) wx) from fun wx ho => ⟨R1.out.only ho, R2.out.only ho⟩)
  clear hA hB h1 h2 R1 R2
  generalize m.sort = a0 at *
  generalize m.sender = a1 at *
  generalize m.media = a2 at *
  generalize m.exp = a5 at *
  generalize m.mant = a6 at *
  generalize k.sort = c0 at *
  generalize k.sender = c1 at *
  generalize k.media = c2 at *
  generalize k.exp = c5 at *
  generalize k.mant = c6 at *
  obtain ⟨L1, hL1⟩ : ∃ L, m.pairs.length = L := ⟨_, rfl⟩
  obtain ⟨L2, hL2⟩ : ∃ L, m.orders.length = L := ⟨_, rfl⟩
  obtain ⟨L3, hL3⟩ : ∃ L, m.srcs.length = L := ⟨_, rfl⟩
  obtain ⟨K1, hK1⟩ : ∃ L, k.pairs.length = L := ⟨_, rfl⟩
  obtain ⟨K2, hK2⟩ : ∃ L, k.orders.length = L := ⟨_, rfl⟩
  obtain ⟨K3, hK3⟩ : ∃ L, k.srcs.length = L := ⟨_, rfl⟩
  rw [hL1] at HC1 HQ HLP hl1
  rw [hL2] at HC1 HQ HLO hl2'
  rw [hL3] at HC1 HQ HLS hl3
  rw [hK1] at HC2 HQ HLP hk1
  rw [hK2] at HC2 HQ HLO hk2
  rw [hK3] at HC2 HQ HLS hk3
  have HL1 := Lib.hid hL1
  have HL2 := Lib.hid hL2
  have HL3 := Lib.hid hL3
  have HK1 := Lib.hid hK1
  have HK2 := Lib.hid hK2
  have HK3 := Lib.hid hK3
  clear hL1 hL2 hL3 hK1 hK2 hK3
  go_enter Try.func18, Try.ntmps18
  go_upto_region 1 with (fail)
  generalize hw0 : World.alloc (World.alloc _ _) _ = w0
  have I1 := Lib.hid (show Is w0 w.heap.size 33 A from by rw [← hw0]; exact (Is.made w _ _).alloc _)
  have I2 := Lib.hid (show Is w0 (w.heap.size + 1) 33 B from by rw [← hw0]; have := Is.made (w.alloc (.cells A 33)) 33 B; rw [World.size_alloc] at this; exact this)
  have T0 := Lib.hid (show Only (fun _ => False) w w0 from by rw [← hw0]; exact ((Only.refl _ w).alloc _).alloc _)
  obtain ⟨ab, hab⟩ : ∃ k, w.heap.size = k := ⟨_, rfl⟩
  obtain ⟨bb, hbb⟩ : ∃ k, w.heap.size + 1 = k := ⟨_, rfl⟩
  rw [hbb] at I2 ⊢
  rw [hab] at I1 ⊢
  clear hw0 hab hbb
  obtain ⟨x0, x1, x2, x3, x4, x5, x6, x7⟩ := HC1.out ab w0 I1.out
  obtain ⟨y0, y1, y2, y3, y4, y5, y6, y7⟩ := HC2.out bb w0 I2.out
  obtain ⟨Q1, Q2⟩ := HQ.out w0 T0.out
  have Q1 := Lib.hid Q1
  have Q2 := Lib.hid Q2
  clear HC1 HC2 HQ I1 I2
  by_cases hh : a0 = c0 ∧ a1 = c1 ∧ a2 = c2 ∧ a5 = c5 ∧ a6 = c6 ∧ L1 = K1 ∧ L2 = K2 ∧ L3 = K3
  case neg =>
    have HF := Lib.hid (show false = r from by
      rw [← hr]
      symm
      apply decide_eq_false
      rintro ⟨q0, q1, q2, q3, q4, q5, q6, q7⟩
      exact hh ⟨q0, q1, q2, q5, q6, HLP.out q3, HLO.out q4, HLS.out q7⟩)
    clear hr HLP HLO HLS
    go_wp2
    all_goals first
      | (exfalso; omega)
      | (go_ret; rw [← HF.out]; exact ⟨rfl, T0.out⟩)
  case pos =>
    obtain ⟨rfl, rfl, rfl, rfl, rfl, rfl, rfl, rfl⟩ := hh
    have HR := Lib.hid (show decide (m.pairs = k.pairs ∧ m.orders = k.orders ∧ m.srcs = k.srcs) = r from by rw [← hr, Bool.eq_iff_iff]; simp)
    clear hr HLP HLO HLS
    go_upto_region 3 with (fail)
    clear x0 x1 x2 x5 x6 y0 y1 y2 y5 y6
    go_wp2
    go_loopw [5] (fun s5 wr => ∃ i : Nat, i ≤ L1 ∧ s5 = .int .i64 i ∧ Hid (m.pairs.take i = k.pairs.take i) ∧ ∃ n, wr = w0.drewN n) (fun s5 _ => L1 - (intOf s5).toNat)
    case atStart => exact ⟨0, by omega, rfl, by simp [Hid], 0, rfl⟩
    case round =>
      obtain ⟨i, hi, rfl, hpre, n, rfl⟩ := hrel
      by_cases hil : i < L1
      · have hiI : (i : Int) < (L1 : Int) := by omega
        have hka : i < m.pairs.length := by rw [HL1.out]; exact hil
        have hkb : i < k.pairs.length := by rw [HK1.out]; exact hil
        obtain ⟨A1', c1', eA, -, ca⟩ := Q1.out.p
        injection eA with eA
        subst eA
        obtain ⟨A2', c2', eB, -, cb⟩ := Q2.out.p
        injection eB with eB
        subst eB
        obtain ⟨g, q, rfl, da⟩ := ca (by omega)
        obtain ⟨g', q', rfl, db⟩ := cb (by omega)
        obtain ⟨qa0, qa1⟩ := da i _ (List.getElem?_eq_getElem hka)
        obtain ⟨qb0, qb1⟩ := db i _ (List.getElem?_eq_getElem hkb)
        by_cases heq : m.pairs[i] = k.pairs[i]
        · have HP := Lib.hid (take_eq_of7 m.pairs k.pairs i hka hkb hpre.out heq)
          rw [← heq] at qb0 qb1
          generalize m.pairs[i] = y at *
          clear hka hkb heq ca cb da db
          go_upto_region 6 with (fail)
          refine wp_region_posts [[], [0], [], [1, 2, 0], [3, 1, 2, 0], [], [5], [], [6, 7, 5], [8, 6, 7, 5], [4, 9, 3, 1, 2, 0, 8, 6, 7, 5]] [] [] [[], [], [], [], [], [], [], [], [], [], []] [[], [], [], [], [], [], [], [], [], [], []] [] [] [] []
              [some ?vpa0, some ?vpa1, some ?vpa2, some ?vpa3, some ?vpa4, some ?vpa5, some ?vpa6, some ?vpa7, some ?vpa8, some ?vpa9, some (.bool false)]
              ?Tpa (fun wx => ∃ n', wx = w0.drewN n') ?Wpa ?Epa (by kernel_rfl) (by kernel_rfl) (by kernel_rfl) (fun x => ?hTpa) ?hFpa ?hinipa (Reg.all_ops ?runspa) ?prespa ?finpa
          case Wpa => exact fun j x w' => True
          case Epa => exact fun _ w' w'' => True
          case hTpa =>
            simp only [Reg.fillV, Act.put, List.setIfInBounds_toArray, List.set_cons_zero, List.set_cons_succ]
            rfl
          case runspa =>
            refine And.intro ?_ ?_
            · refine Reg.ob_pure (fun _ => rfl) rfl rfl rfl rfl (fun x w1 hF => ?_)
              obtain ⟨n', rfl⟩ := hF
              go_simp
              with_reducible rfl
            refine And.intro ?_ ?_
            · refine Reg.ob_pure (fun _ => rfl) rfl rfl rfl rfl (fun x w1 hF => ?_)
              obtain ⟨n', rfl⟩ := hF
              go_simp
              with_reducible rfl
            refine And.intro ?_ ?_
            · refine Reg.ob_pure (fun _ => rfl) rfl rfl rfl rfl (fun x w1 hF => ?_)
              obtain ⟨n', rfl⟩ := hF
              go_simp
              with_reducible rfl
            refine And.intro ?_ ?_
            · refine Reg.ob_pure (fun _ => rfl) rfl rfl rfl rfl (fun x w1 hF => ?_)
              obtain ⟨n', rfl⟩ := hF
              go_simp
              with_reducible rfl
            refine And.intro ?_ ?_
            · refine Reg.ob_pure (fun _ => rfl) rfl rfl rfl rfl (fun x w1 hF => ?_)
              obtain ⟨n', rfl⟩ := hF
              go_simp
              with_reducible rfl
            refine And.intro ?_ ?_
            · refine Reg.ob_pure (fun _ => rfl) rfl rfl rfl rfl (fun x w1 hF => ?_)
              obtain ⟨n', rfl⟩ := hF
              go_simp
              with_reducible rfl
            refine And.intro ?_ ?_
            · refine Reg.ob_pure (fun _ => rfl) rfl rfl rfl rfl (fun x w1 hF => ?_)
              obtain ⟨n', rfl⟩ := hF
              go_simp
              with_reducible rfl
            refine And.intro ?_ ?_
            · refine Reg.ob_pure (fun _ => rfl) rfl rfl rfl rfl (fun x w1 hF => ?_)
              obtain ⟨n', rfl⟩ := hF
              go_simp
              with_reducible rfl
            refine And.intro ?_ ?_
            · refine Reg.ob_pure (fun _ => rfl) rfl rfl rfl rfl (fun x w1 hF => ?_)
              obtain ⟨n', rfl⟩ := hF
              go_simp
              with_reducible rfl
            refine And.intro ?_ ?_
            · refine Reg.ob_pure (fun _ => rfl) rfl rfl rfl rfl (fun x w1 hF => ?_)
              obtain ⟨n', rfl⟩ := hF
              go_simp
              with_reducible rfl
            refine And.intro ?_ ?_
            · refine Reg.ob_pure (fun _ => rfl) rfl rfl rfl rfl (fun x w1 hF => ?_)
              exact run_ne_rp7 _ _ _ y.pid y.blp y.pid y.blp true (eq_rp7 _ _ _) rfl rfl rfl
            exact trivial
          case hFpa =>
            exact ⟨n + 1, rfl⟩
          case hinipa =>
            exact trivial
          case prespa =>
            intro i hi j hj
            cases hj
          case finpa =>
            rintro x w9 hF -
            obtain ⟨n2, rfl⟩ := hF rfl
            go_wp2
            exact ⟨⟨i + 1, by omega, by go_num, HP.out, n2, rfl⟩, by simp [intOf]; omega⟩
        · have HNE := Lib.hid (show false = r from by rw [← HR.out]; symm; apply decide_eq_false; rintro ⟨h1, h2, h3⟩; exact heq (by simp only [h1]))
          have HQ := Lib.hid (show ¬ (m.pairs[i].pid = k.pairs[i].pid ∧ m.pairs[i].blp = k.pairs[i].blp) from fun h => heq (by
            generalize m.pairs[i] = x at *
            generalize k.pairs[i] = y at *
            cases x
            cases y
            simp_all))
          generalize m.pairs[i] = y at *
          generalize k.pairs[i] = z at *
          clear hka hkb heq ca cb da db
          go_upto_region 6 with (fail)
          refine wp_region_posts [[], [0], [], [1, 2, 0], [3, 1, 2, 0], [], [5], [], [6, 7, 5], [8, 6, 7, 5], [4, 9, 3, 1, 2, 0, 8, 6, 7, 5]] [] [] [[], [], [], [], [], [], [], [], [], [], []] [[], [], [], [], [], [], [], [], [], [], []] [] [] [] []
              [some ?vpb0, some ?vpb1, some ?vpb2, some ?vpb3, some ?vpb4, some ?vpb5, some ?vpb6, some ?vpb7, some ?vpb8, some ?vpb9, some (.bool true)]
              ?Tpb (fun wx => ∃ n', wx = w0.drewN n') ?Wpb ?Epb (by kernel_rfl) (by kernel_rfl) (by kernel_rfl) (fun x => ?hTpb) ?hFpb ?hinipb (Reg.all_ops ?runspb) ?prespb ?finpb
          case Wpb => exact fun j x w' => True
          case Epb => exact fun _ w' w'' => True
          case hTpb =>
            simp only [Reg.fillV, Act.put, List.setIfInBounds_toArray, List.set_cons_zero, List.set_cons_succ]
            rfl
          case runspb =>
            refine And.intro ?_ ?_
            · refine Reg.ob_pure (fun _ => rfl) rfl rfl rfl rfl (fun x w1 hF => ?_)
              obtain ⟨n', rfl⟩ := hF
              go_simp
              with_reducible rfl
            refine And.intro ?_ ?_
            · refine Reg.ob_pure (fun _ => rfl) rfl rfl rfl rfl (fun x w1 hF => ?_)
              obtain ⟨n', rfl⟩ := hF
              go_simp
              with_reducible rfl
            refine And.intro ?_ ?_
            · refine Reg.ob_pure (fun _ => rfl) rfl rfl rfl rfl (fun x w1 hF => ?_)
              obtain ⟨n', rfl⟩ := hF
              go_simp
              with_reducible rfl
            refine And.intro ?_ ?_
            · refine Reg.ob_pure (fun _ => rfl) rfl rfl rfl rfl (fun x w1 hF => ?_)
              obtain ⟨n', rfl⟩ := hF
              go_simp
              with_reducible rfl
            refine And.intro ?_ ?_
            · refine Reg.ob_pure (fun _ => rfl) rfl rfl rfl rfl (fun x w1 hF => ?_)
              obtain ⟨n', rfl⟩ := hF
              go_simp
              with_reducible rfl
            refine And.intro ?_ ?_
            · refine Reg.ob_pure (fun _ => rfl) rfl rfl rfl rfl (fun x w1 hF => ?_)
              obtain ⟨n', rfl⟩ := hF
              go_simp
              with_reducible rfl
            refine And.intro ?_ ?_
            · refine Reg.ob_pure (fun _ => rfl) rfl rfl rfl rfl (fun x w1 hF => ?_)
              obtain ⟨n', rfl⟩ := hF
              go_simp
              with_reducible rfl
            refine And.intro ?_ ?_
            · refine Reg.ob_pure (fun _ => rfl) rfl rfl rfl rfl (fun x w1 hF => ?_)
              obtain ⟨n', rfl⟩ := hF
              go_simp
              with_reducible rfl
            refine And.intro ?_ ?_
            · refine Reg.ob_pure (fun _ => rfl) rfl rfl rfl rfl (fun x w1 hF => ?_)
              obtain ⟨n', rfl⟩ := hF
              go_simp
              with_reducible rfl
            refine And.intro ?_ ?_
            · refine Reg.ob_pure (fun _ => rfl) rfl rfl rfl rfl (fun x w1 hF => ?_)
              obtain ⟨n', rfl⟩ := hF
              go_simp
              with_reducible rfl
            refine And.intro ?_ ?_
            · refine Reg.ob_pure (fun _ => rfl) rfl rfl rfl rfl (fun x w1 hF => ?_)
              exact run_ne_rp7 _ _ _ y.pid y.blp z.pid z.blp false (ne_rp7 _ _ _ _ _ HQ.out) rfl rfl rfl
            exact trivial
          case hFpb =>
            exact ⟨n + 1, rfl⟩
          case hinipb =>
            exact trivial
          case prespb =>
            intro i hi j hj
            cases hj
          case finpb =>
            rintro x w9 hF -
            obtain ⟨n2, rfl⟩ := hF rfl
            go_wp2
            go_ret
            rw [← HNE.out]
            exact ⟨rfl, only_more T0.out (only_drewN w0 n2)⟩
      · obtain rfl : i = L1 := by omega
        have HEpairs := Lib.hid (show m.pairs = k.pairs from by
          have h := hpre.out
          rw [List.take_of_length_le (by rw [HL1.out]; exact Nat.le_refl _), List.take_of_length_le (by rw [HK1.out]; exact Nat.le_refl _)] at h
          exact h)
        clear hpre
        go_wp2
        go_loopw [6] (fun s5 wr => ∃ i : Nat, i ≤ L2 ∧ s5 = .int .i64 i ∧ Hid (m.orders.take i = k.orders.take i) ∧ ∃ n, wr = w0.drewN n) (fun s5 _ => L2 - (intOf s5).toNat)
        case atStart => exact ⟨0, by omega, rfl, by simp [Hid], n, rfl⟩
        case round =>
          obtain ⟨i, hi, rfl, hpre, n, rfl⟩ := hrel
          by_cases hil : i < L2
          · have hiI : (i : Int) < (L2 : Int) := by omega
            have hka : i < m.orders.length := by rw [HL2.out]; exact hil
            have hkb : i < k.orders.length := by rw [HK2.out]; exact hil
            obtain ⟨A1', c1', eA, -, ca⟩ := Q1.out.o
            injection eA with eA
            subst eA
            obtain ⟨A2', c2', eB, -, cb⟩ := Q2.out.o
            injection eB with eB
            subst eB
            obtain ⟨g, q, rfl, da⟩ := ca (by omega)
            obtain ⟨g', q', rfl, db⟩ := cb (by omega)
            obtain ⟨qa0, qa1⟩ := da i _ (List.getElem?_eq_getElem hka)
            obtain ⟨qb0, qb1⟩ := db i _ (List.getElem?_eq_getElem hkb)
            by_cases heq : m.orders[i] = k.orders[i]
            · have HP := Lib.hid (take_eq_of7 m.orders k.orders i hka hkb hpre.out heq)
              rw [← heq] at qb0 qb1
              generalize m.orders[i] = y at *
              clear hka hkb heq ca cb da db
              go_upto_region 11 with (fail)
              refine wp_region_posts [[], [0], [], [1, 2, 0], [3, 1, 2, 0], [], [5], [], [6, 7, 5], [8, 6, 7, 5], [4, 9, 3, 1, 2, 0, 8, 6, 7, 5]] [] [] [[], [], [], [], [], [], [], [], [], [], []] [[], [], [], [], [], [], [], [], [], [], []] [] [] [] []
                  [some ?voa0, some ?voa1, some ?voa2, some ?voa3, some ?voa4, some ?voa5, some ?voa6, some ?voa7, some ?voa8, some ?voa9, some (.bool false)]
                  ?Toa (fun wx => ∃ n', wx = w0.drewN n') ?Woa ?Eoa (by kernel_rfl) (by kernel_rfl) (by kernel_rfl) (fun x => ?hToa) ?hFoa ?hinioa (Reg.all_ops ?runsoa) ?presoa ?finoa
              case Woa => exact fun j x w' => True
              case Eoa => exact fun _ w' w'' => True
              case hToa =>
                simp only [Reg.fillV, Act.put, List.setIfInBounds_toArray, List.set_cons_zero, List.set_cons_succ]
                rfl
              case runsoa =>
                refine And.intro ?_ ?_
                · refine Reg.ob_pure (fun _ => rfl) rfl rfl rfl rfl (fun x w1 hF => ?_)
                  obtain ⟨n', rfl⟩ := hF
                  go_simp
                  with_reducible rfl
                refine And.intro ?_ ?_
                · refine Reg.ob_pure (fun _ => rfl) rfl rfl rfl rfl (fun x w1 hF => ?_)
                  obtain ⟨n', rfl⟩ := hF
                  go_simp
                  with_reducible rfl
                refine And.intro ?_ ?_
                · refine Reg.ob_pure (fun _ => rfl) rfl rfl rfl rfl (fun x w1 hF => ?_)
                  obtain ⟨n', rfl⟩ := hF
                  go_simp
                  with_reducible rfl
                refine And.intro ?_ ?_
                · refine Reg.ob_pure (fun _ => rfl) rfl rfl rfl rfl (fun x w1 hF => ?_)
                  obtain ⟨n', rfl⟩ := hF
                  go_simp
                  with_reducible rfl
                refine And.intro ?_ ?_
                · refine Reg.ob_pure (fun _ => rfl) rfl rfl rfl rfl (fun x w1 hF => ?_)
                  obtain ⟨n', rfl⟩ := hF
                  go_simp
                  with_reducible rfl
                refine And.intro ?_ ?_
                · refine Reg.ob_pure (fun _ => rfl) rfl rfl rfl rfl (fun x w1 hF => ?_)
                  obtain ⟨n', rfl⟩ := hF
                  go_simp
                  with_reducible rfl
                refine And.intro ?_ ?_
                · refine Reg.ob_pure (fun _ => rfl) rfl rfl rfl rfl (fun x w1 hF => ?_)
                  obtain ⟨n', rfl⟩ := hF
                  go_simp
                  with_reducible rfl
                refine And.intro ?_ ?_
                · refine Reg.ob_pure (fun _ => rfl) rfl rfl rfl rfl (fun x w1 hF => ?_)
                  obtain ⟨n', rfl⟩ := hF
                  go_simp
                  with_reducible rfl
                refine And.intro ?_ ?_
                · refine Reg.ob_pure (fun _ => rfl) rfl rfl rfl rfl (fun x w1 hF => ?_)
                  obtain ⟨n', rfl⟩ := hF
                  go_simp
                  with_reducible rfl
                refine And.intro ?_ ?_
                · refine Reg.ob_pure (fun _ => rfl) rfl rfl rfl rfl (fun x w1 hF => ?_)
                  obtain ⟨n', rfl⟩ := hF
                  go_simp
                  with_reducible rfl
                refine And.intro ?_ ?_
                · refine Reg.ob_pure (fun _ => rfl) rfl rfl rfl rfl (fun x w1 hF => ?_)
                  exact run_ne_ro7 _ _ _ y.ssrc y.no y.ssrc y.no true (eq_ro7 _ _ _) rfl rfl rfl
                exact trivial
              case hFoa =>
                exact ⟨n + 1, rfl⟩
              case hinioa =>
                exact trivial
              case presoa =>
                intro i hi j hj
                cases hj
              case finoa =>
                rintro x w9 hF -
                obtain ⟨n2, rfl⟩ := hF rfl
                go_wp2
                exact ⟨⟨i + 1, by omega, by go_num, HP.out, n2, rfl⟩, by simp [intOf]; omega⟩
            · have HNE := Lib.hid (show false = r from by rw [← HR.out]; symm; apply decide_eq_false; rintro ⟨h1, h2, h3⟩; exact heq (by simp only [h2]))
              have HQ := Lib.hid (show ¬ (m.orders[i].ssrc = k.orders[i].ssrc ∧ m.orders[i].no = k.orders[i].no) from fun h => heq (by
                generalize m.orders[i] = x at *
                generalize k.orders[i] = y at *
                cases x
                cases y
                simp_all))
              generalize m.orders[i] = y at *
              generalize k.orders[i] = z at *
              clear hka hkb heq ca cb da db
              go_upto_region 11 with (fail)
              refine wp_region_posts [[], [0], [], [1, 2, 0], [3, 1, 2, 0], [], [5], [], [6, 7, 5], [8, 6, 7, 5], [4, 9, 3, 1, 2, 0, 8, 6, 7, 5]] [] [] [[], [], [], [], [], [], [], [], [], [], []] [[], [], [], [], [], [], [], [], [], [], []] [] [] [] []
                  [some ?vob0, some ?vob1, some ?vob2, some ?vob3, some ?vob4, some ?vob5, some ?vob6, some ?vob7, some ?vob8, some ?vob9, some (.bool true)]
                  ?Tob (fun wx => ∃ n', wx = w0.drewN n') ?Wob ?Eob (by kernel_rfl) (by kernel_rfl) (by kernel_rfl) (fun x => ?hTob) ?hFob ?hiniob (Reg.all_ops ?runsob) ?presob ?finob
              case Wob => exact fun j x w' => True
              case Eob => exact fun _ w' w'' => True
              case hTob =>
                simp only [Reg.fillV, Act.put, List.setIfInBounds_toArray, List.set_cons_zero, List.set_cons_succ]
                rfl
              case runsob =>
                refine And.intro ?_ ?_
                · refine Reg.ob_pure (fun _ => rfl) rfl rfl rfl rfl (fun x w1 hF => ?_)
                  obtain ⟨n', rfl⟩ := hF
                  go_simp
                  with_reducible rfl
                refine And.intro ?_ ?_
                · refine Reg.ob_pure (fun _ => rfl) rfl rfl rfl rfl (fun x w1 hF => ?_)
                  obtain ⟨n', rfl⟩ := hF
                  go_simp
                  with_reducible rfl
                refine And.intro ?_ ?_
                · refine Reg.ob_pure (fun _ => rfl) rfl rfl rfl rfl (fun x w1 hF => ?_)
                  obtain ⟨n', rfl⟩ := hF
                  go_simp
                  with_reducible rfl
                refine And.intro ?_ ?_
                · refine Reg.ob_pure (fun _ => rfl) rfl rfl rfl rfl (fun x w1 hF => ?_)
                  obtain ⟨n', rfl⟩ := hF
                  go_simp
                  with_reducible rfl
                refine And.intro ?_ ?_
                · refine Reg.ob_pure (fun _ => rfl) rfl rfl rfl rfl (fun x w1 hF => ?_)
                  obtain ⟨n', rfl⟩ := hF
                  go_simp
                  with_reducible rfl
                refine And.intro ?_ ?_
                · refine Reg.ob_pure (fun _ => rfl) rfl rfl rfl rfl (fun x w1 hF => ?_)
                  obtain ⟨n', rfl⟩ := hF
                  go_simp
                  with_reducible rfl
                refine And.intro ?_ ?_
                · refine Reg.ob_pure (fun _ => rfl) rfl rfl rfl rfl (fun x w1 hF => ?_)
                  obtain ⟨n', rfl⟩ := hF
                  go_simp
                  with_reducible rfl
                refine And.intro ?_ ?_
                · refine Reg.ob_pure (fun _ => rfl) rfl rfl rfl rfl (fun x w1 hF => ?_)
                  obtain ⟨n', rfl⟩ := hF
                  go_simp
                  with_reducible rfl
                refine And.intro ?_ ?_
                · refine Reg.ob_pure (fun _ => rfl) rfl rfl rfl rfl (fun x w1 hF => ?_)
                  obtain ⟨n', rfl⟩ := hF
                  go_simp
                  with_reducible rfl
                refine And.intro ?_ ?_
                · refine Reg.ob_pure (fun _ => rfl) rfl rfl rfl rfl (fun x w1 hF => ?_)
                  obtain ⟨n', rfl⟩ := hF
                  go_simp
                  with_reducible rfl
                refine And.intro ?_ ?_
                · refine Reg.ob_pure (fun _ => rfl) rfl rfl rfl rfl (fun x w1 hF => ?_)
                  exact run_ne_ro7 _ _ _ y.ssrc y.no z.ssrc z.no false (ne_ro7 _ _ _ _ _ HQ.out) rfl rfl rfl
                exact trivial
              case hFob =>
                exact ⟨n + 1, rfl⟩
              case hiniob =>
                exact trivial
              case presob =>
                intro i hi j hj
                cases hj
              case finob =>
                rintro x w9 hF -
                obtain ⟨n2, rfl⟩ := hF rfl
                go_wp2
                go_ret
                rw [← HNE.out]
                exact ⟨rfl, only_more T0.out (only_drewN w0 n2)⟩
          · obtain rfl : i = L2 := by omega
            have HEorders := Lib.hid (show m.orders = k.orders from by
              have h := hpre.out
              rw [List.take_of_length_le (by rw [HL2.out]; exact Nat.le_refl _), List.take_of_length_le (by rw [HK2.out]; exact Nat.le_refl _)] at h
              exact h)
            clear hpre
            go_wp2
            go_loopw [7] (fun s5 wr => ∃ i : Nat, i ≤ L3 ∧ s5 = .int .i64 i ∧ Hid (m.srcs.take i = k.srcs.take i) ∧ ∃ n, wr = w0.drewN n) (fun s5 _ => L3 - (intOf s5).toNat)
            case atStart => exact ⟨0, by omega, rfl, by simp [Hid], n, rfl⟩
            case round =>
              obtain ⟨i, hi, rfl, hpre, n, rfl⟩ := hrel
              by_cases hil : i < L3
              · have hiI : (i : Int) < (L3 : Int) := by omega
                have hka : i < m.srcs.length := by rw [HL3.out]; exact hil
                have hkb : i < k.srcs.length := by rw [HK3.out]; exact hil
                obtain ⟨A1', c1', eA, -, ca⟩ := Q1.out.s
                injection eA with eA
                subst eA
                obtain ⟨A2', c2', eB, -, cb⟩ := Q2.out.s
                injection eB with eB
                subst eB
                obtain ⟨g, q, rfl, da⟩ := ca (by rw [nats_length]; omega)
                obtain ⟨g', q', rfl, db⟩ := cb (by rw [nats_length]; omega)
                have qa : w0.cell? ⟨g, q + i, none⟩ = some (.int .u32 ((m.srcs[i] : Nat) : Int)) := by rw [da i (by rw [nats_length]; exact hka)]; simp [nats]
                have qb : w0.cell? ⟨g', q' + i, none⟩ = some (.int .u32 ((k.srcs[i] : Nat) : Int)) := by rw [db i (by rw [nats_length]; exact hkb)]; simp [nats]
                by_cases heq : m.srcs[i] = k.srcs[i]
                · have hbne : (((m.srcs[i] : Nat) : Int) != ((k.srcs[i] : Nat) : Int)) = false := by simp [heq]
                  have HP := Lib.hid (take_eq_of7 m.srcs k.srcs i hka hkb hpre.out heq)
                  generalize m.srcs[i] = y at *
                  generalize k.srcs[i] = z at *
                  clear hka hkb heq ca cb da db
                  go_wp2
                  go_quiet (fail)
                  go_wp2
                  exact ⟨⟨i + 1, by omega, by go_num, HP.out, _, rfl⟩, by simp [intOf]; omega⟩
                · have hbne : (((m.srcs[i] : Nat) : Int) != ((k.srcs[i] : Nat) : Int)) = true := by simp; omega
                  have HNE := Lib.hid (show false = r from by rw [← HR.out]; symm; apply decide_eq_false; rintro ⟨h1, h2, h3⟩; exact heq (by simp only [h3]))
                  generalize m.srcs[i] = y at *
                  generalize k.srcs[i] = z at *
                  clear hka hkb heq ca cb da db
                  go_wp2
                  go_quiet (fail)
                  go_wp2
                  go_ret
                  rw [← HNE.out]
                  exact ⟨rfl, only_more T0.out (only_more (only_drewN w0 n) (only_drewN _ _))⟩
              · obtain rfl : i = L3 := by omega
                have HEsrcs := Lib.hid (show m.srcs = k.srcs from by
                  have h := hpre.out
                  rw [List.take_of_length_le (by rw [HL3.out]; exact Nat.le_refl _), List.take_of_length_le (by rw [HK3.out]; exact Nat.le_refl _)] at h
                  exact h)
                clear hpre
                have HT := Lib.hid (show true = r from by rw [← HR.out]; symm; exact decide_eq_true ⟨HEpairs.out, HEorders.out, HEsrcs.out⟩)
                go_wp2
                go_ret
                rw [← HT.out]
                exact ⟨rfl, only_more T0.out (only_drewN w0 n)⟩
end Go.Proofs.Ytefcimkopgcagaa
