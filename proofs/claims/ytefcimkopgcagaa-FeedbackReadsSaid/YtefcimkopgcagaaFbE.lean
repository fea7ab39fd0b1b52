/- easelref07.Same of two messages that are the same. Conditions: as it says. -/
import Derived.Test.YtefcimkopgcagaaFbD
import Derived.Test.YtefcimkopgcagaaBase
import Derived.Laws.StructEq
set_option linter.unusedVariables false
namespace Go.Proofs.Ytefcimkopgcagaa
open Go.RowKit

structure Od where
  ssrc : Nat
  no : Nat
def Od.Fit (p : Od) : Prop := p.ssrc < 4294967296 ∧ p.no < 256
def Od.lst (p : Od) : List Value := [.int .u32 (p.ssrc : Nat), .int .u8 (p.no : Nat)]
def OCells (w : World) (g o i : Nat) (p : Od) : Prop :=
  w.cell? ⟨g, o + i * 2, none⟩ = some (.int .u32 (p.ssrc : Nat)) ∧ w.cell? ⟨g, o + i * 2 + 1, none⟩ = some (.int .u8 (p.no : Nat))
theorem OCells.only {w w1 : World} {g o i : Nat} {p : Od} {S : Nat → Prop} (h : OCells w g o i p) (ho : Only S w w1) (hS : ¬ S g) : OCells w1 g o i p :=
  ⟨(ho.cell (World.block_lt_of_cell? w _ h.1) hS).trans h.1, (ho.cell (World.block_lt_of_cell? w _ h.2) hS).trans h.2⟩
def RdO (w : World) (v : Value) (l : List Od) : Prop :=
  ∃ A c, v = .slice A l.length c ∧ l.length ≤ c ∧ (0 < l.length → ∃ g o, A = some ⟨g, o, none⟩ ∧ ∀ (i : Nat) (p : Od), l[i]? = some p → OCells w g o i p)
theorem RdO.only {w w1 : World} {v : Value} {l : List Od} (h : RdO w v l) (ho : Only (fun _ => False) w w1) : RdO w1 v l := by
  obtain ⟨A, c, rfl, hc, hh⟩ := h
  refine ⟨A, c, rfl, hc, fun hp => ?_⟩
  obtain ⟨g, o, rfl, hi⟩ := hh hp
  exact ⟨g, o, rfl, fun i p hx => (hi i p hx).only ho (by simp)⟩
theorem RdO.nil (w : World) : RdO w (.slice none 0 0) [] := ⟨none, 0, rfl, by simp, fun h => by simp at h⟩
/-- A message, plainly. -/
structure Ms where
  sort : Nat
  sender : Nat
  media : Nat
  pairs : List Pr
  orders : List Od
  exp : Nat
  mant : Nat
  srcs : List Nat
def Ms.cls (m : Ms) (vp vo vs : Value) : Array Value := #[.int .u8 (m.sort : Nat), .int .u32 (m.sender : Nat), .int .u32 (m.media : Nat), vp, vo, .int .u8 (m.exp : Nat), .int .u32 (m.mant : Nat), vs]
structure RdM (m : Ms) (vp vo vs : Value) (w : World) : Prop where
  p : RdP w vp m.pairs
  o : RdO w vo m.orders
  s : Rd .u32 w vs (nats m.srcs)
theorem RdM.only {m : Ms} {vp vo vs : Value} {w w1 : World} (h : RdM m vp vo vs w) (ho : Only (fun _ => False) w w1) : RdM m vp vo vs w1 := ⟨h.p.only ho, h.o.only ho, h.s.only ho (by simp)⟩

theorem ok_bool {r : Result Bool} {v : Bool} {w : World} (h : (r.andThen fun b w' => .ok (Value.bool b) w') = .ok (.bool v) w) : r = .ok v w := by
  cases r <;> simp_all [Result.andThen]
theorem eq_rp (a b : Nat) (w : World) : (binOp .eql 83 (.agg #[.int .u16 (a : Nat), .int .u16 (b : Nat)]) (.agg #[.int .u16 (a : Nat), .int .u16 (b : Nat)])).run Try.prog w = .ok (.bool true) w := by
  rw [run_eql_struct, run_equalIn_agg w 9999 _ _ _ (by kernel_rfl) (by kernel_rfl)]
  simp only [Program.fieldsOf, Try.underlying83]
  simp [Op.eqFields, go_sem]
theorem eq_ro (a b : Nat) (w : World) : (binOp .eql 86 (.agg #[.int .u32 (a : Nat), .int .u8 (b : Nat)]) (.agg #[.int .u32 (a : Nat), .int .u8 (b : Nat)])).run Try.prog w = .ok (.bool true) w := by
  rw [run_eql_struct, run_equalIn_agg w 9999 _ _ _ (by kernel_rfl) (by kernel_rfl)]
  simp only [Program.fieldsOf, Try.underlying86]
  simp [Op.eqFields, go_sem]
theorem run_neq_rp {o : Oper} {ρ : Operand → Value} (w : World) (x y : Operand) (a b : Nat) (ho : o.op = .binOp .neq 83 x y 83) (hx : ρ x = .agg #[.int .u16 (a : Nat), .int .u16 (b : Nat)]) (hy : ρ y = .agg #[.int .u16 (a : Nat), .int .u16 (b : Nat)]) :
    (execOp ρ o).run Try.prog w = .ok (.value (.bool false)) w := by
  have h := eq_rp a b w
  rw [run_eql_struct] at h
  have hn : (binOp .neq 83 (.agg #[.int .u16 (a : Nat), .int .u16 (b : Nat)]) (.agg #[.int .u16 (a : Nat), .int .u16 (b : Nat)])).run Try.prog w = .ok (.bool false) w := by
    rw [run_neq_struct, ok_bool h]
    rfl
  unfold execOp
  simp only [ho, hx, hy, Sem.run_bind, Sem.run_pure, Result.andThen_ok, run_eqGuard_agg (P := Try.prog) w .neq 83 x y _ _ (by kernel_rfl), hn]
theorem run_neq_ro {o : Oper} {ρ : Operand → Value} (w : World) (x y : Operand) (a b : Nat) (ho : o.op = .binOp .neq 86 x y 86) (hx : ρ x = .agg #[.int .u32 (a : Nat), .int .u8 (b : Nat)]) (hy : ρ y = .agg #[.int .u32 (a : Nat), .int .u8 (b : Nat)]) :
    (execOp ρ o).run Try.prog w = .ok (.value (.bool false)) w := by
  have h := eq_ro a b w
  rw [run_eql_struct] at h
  have hn : (binOp .neq 86 (.agg #[.int .u32 (a : Nat), .int .u8 (b : Nat)]) (.agg #[.int .u32 (a : Nat), .int .u8 (b : Nat)])).run Try.prog w = .ok (.bool false) w := by
    rw [run_neq_struct, ok_bool h]
    rfl
  unfold execOp
  simp only [ho, hx, hy, Sem.run_bind, Sem.run_pure, Result.andThen_ok, run_eqGuard_agg (P := Try.prog) w .neq 86 x y _ _ (by kernel_rfl), hn]

set_option maxRecDepth 100000 in
set_option maxHeartbeats 4000000 in
theorem rmsame_yes (m : Ms) (p1 o1 s1 p2 o2 s2 : Value) (w : World) (h1 : RdM m p1 o1 s1 w) (h2 : RdM m p2 o2 s2 w) (hl : m.pairs.length ≤ 1000000 ∧ m.orders.length ≤ 1000000 ∧ m.srcs.length ≤ 1000000) :
    Calls Try.prog 18 #[.agg (m.cls p1 o1 s1), .agg (m.cls p2 o2 s2)] w fun e w' => e = .returned (.bool true) ∧ Only (fun _ => False) w w' := by
  have R1 := Lib.hid h1
  have R2 := Lib.hid h2
  obtain ⟨P1, d1, rfl, -, -⟩ := h1.p
  obtain ⟨O1, e1, rfl, -, -⟩ := h1.o
  obtain ⟨S1, f1, rfl, -, -⟩ := h1.s
  obtain ⟨P2, d2, rfl, -, -⟩ := h2.p
  obtain ⟨O2, e2, rfl, -, -⟩ := h2.o
  obtain ⟨S2, f2, rfl, -, -⟩ := h2.s
  rw [nats_length] at *
  obtain ⟨hl1, hl2, hl3⟩ := hl
  clear h1 h2
  obtain ⟨A, hA⟩ : ∃ a, m.cls (.slice P1 m.pairs.length d1) (.slice O1 m.orders.length e1) (.slice S1 m.srcs.length f1) = a := ⟨_, rfl⟩
  obtain ⟨B, hB⟩ : ∃ a, m.cls (.slice P2 m.pairs.length d2) (.slice O2 m.orders.length e2) (.slice S2 m.srcs.length f2) = a := ⟨_, rfl⟩
  have HA := Lib.hid hA
  have HB := Lib.hid hB
  rw [hA, hB]
  clear hA hB
  go_enter Try.func18, Try.ntmps18
  go_upto_region 1 with (fail)
  generalize hw0 : World.alloc (World.alloc _ _) _ = w0
  have I1 := Lib.hid (show Is w0 w.heap.size 33 A from by rw [← hw0]; exact (Is.made w _ _).alloc _)
  have I2 := Lib.hid (show Is w0 (w.heap.size + 1) 33 B from by rw [← hw0]; have := Is.made (w.alloc (.cells A 33)) 33 B; rw [World.size_alloc] at this; exact this)
  have T0 := Lib.hid (show Only (fun _ => False) w w0 from by rw [← hw0]; exact ((Only.refl _ w).alloc _).alloc _)
  obtain ⟨ab, hab⟩ : ∃ k, w.heap.size = k := ⟨_, rfl⟩
  obtain ⟨bb, hbb⟩ : ∃ k, w.heap.size + 1 = k := ⟨_, rfl⟩
  rw [hbb] at I2 ⊢
  rw [hab] at I1 ⊢
  clear hw0 hab hbb
  have Q1 := Lib.hid (R1.out.only T0.out)
  have Q2 := Lib.hid (R2.out.only T0.out)
  clear R1 R2
  have a0 := I1.out.cell 0
  have a1 := I1.out.cell 1
  have a2 := I1.out.cell 2
  have a3 := I1.out.cell 3
  have a4 := I1.out.cell 4
  have a5 := I1.out.cell 5
  have a6 := I1.out.cell 6
  have a7 := I1.out.cell 7
  have b0 := I2.out.cell 0
  have b1 := I2.out.cell 1
  have b2 := I2.out.cell 2
  have b3 := I2.out.cell 3
  have b4 := I2.out.cell 4
  have b5 := I2.out.cell 5
  have b6 := I2.out.cell 6
  have b7 := I2.out.cell 7
  rw [← HA.out] at a0 a1 a2 a3 a4 a5 a6 a7
  rw [← HB.out] at b0 b1 b2 b3 b4 b5 b6 b7
  simp [Ms.cls] at a0 a1 a2 a3 a4 a5 a6 a7 b0 b1 b2 b3 b4 b5 b6 b7
  obtain ⟨L1, hL1⟩ : ∃ L, m.pairs.length = L := ⟨_, rfl⟩
  obtain ⟨L2, hL2⟩ : ∃ L, m.orders.length = L := ⟨_, rfl⟩
  obtain ⟨L3, hL3⟩ : ∃ L, m.srcs.length = L := ⟨_, rfl⟩
  have HL1 := Lib.hid hL1
  have HL2 := Lib.hid hL2
  have HL3 := Lib.hid hL3
  rw [hL1] at hl1 a3 b3
  rw [hL2] at hl2 a4 b4
  rw [hL3] at hl3 a7 b7
  clear hL1 hL2 hL3
  go_upto_region 3 with (fail)
  clear a0 a1 a2 a5 a6 b0 b1 b2 b5 b6
  go_wp2
  go_loopw [5] (fun s5 wr => ∃ k : Nat, k ≤ L1 ∧ s5 = .int .i64 k ∧ ∃ n, wr = w0.drewN n) (fun s5 _ => L1 - (intOf s5).toNat)
  case atStart => exact ⟨0, by omega, rfl, 0, by simp [World.drewN]⟩
  case round =>
    obtain ⟨k, hk, rfl, n, rfl⟩ := hrel
    by_cases hkl : k < L1
    · have hkI : (k : Int) < (L1 : Int) := by omega
      obtain ⟨A1', c1', eA, -, hc1⟩ := Q1.out.p
      injection eA with eA
      subst eA
      obtain ⟨A2', c2', eB, -, hc2⟩ := Q2.out.p
      injection eB with eB
      subst eB
      obtain ⟨g1, q1, rfl, hd1⟩ := hc1 (by rw [HL1.out]; omega)
      obtain ⟨g2, q2, rfl, hd2⟩ := hc2 (by rw [HL1.out]; omega)
      obtain ⟨y, hy⟩ : ∃ y, m.pairs[k]? = some y := ⟨_, List.getElem?_eq_getElem (by rw [HL1.out]; exact hkl)⟩
      obtain ⟨r10, r11⟩ := hd1 k y hy
      obtain ⟨r20, r21⟩ := hd2 k y hy
      clear hc1 hc2 hd1 hd2 hy
      go_upto_region 6 with (fail)
      refine wp_region_posts [[], [0], [], [1, 2, 0], [3, 1, 2, 0], [], [5], [], [6, 7, 5], [8, 6, 7, 5], [4, 9, 3, 1, 2, 0, 8, 6, 7, 5]] [] [] [[], [], [], [], [], [], [], [], [], [], []] [[], [], [], [], [], [], [], [], [], [], []] [] [] [] []
          [some ?vp0, some ?vp1, some ?vp2, some ?vp3, some ?vp4, some ?vp5, some ?vp6, some ?vp7, some ?vp8, some ?vp9, some (.bool false)]
          ?Tp (fun wx => ∃ n', wx = w0.drewN n') ?Wp ?Ep (by kernel_rfl) (by kernel_rfl) (by kernel_rfl) (fun x => ?hTp) ?hFp ?hinip (Reg.all_ops ?runsp) ?presp ?finp
      case Wp => exact fun j x w' => True
      case Ep => exact fun _ w' w'' => True
      case hTp =>
        simp only [Reg.fillV, Act.put, List.setIfInBounds_toArray, List.set_cons_zero, List.set_cons_succ]
        rfl
      case runsp =>
        refine And.intro ?_ ?_
        · refine Reg.ob_pure (fun _ => rfl) rfl rfl rfl rfl (fun x w1 hF => ?_)
          obtain ⟨n', rfl⟩ := hF
          go_simp
          with_reducible rfl
        refine And.intro ?_ ?_
        · refine Reg.ob_pure (fun _ => rfl) rfl rfl rfl rfl (fun x w1 hF => ?_)
          obtain ⟨n', rfl⟩ := hF
          go_simp
          with_reducible rfl
        refine And.intro ?_ ?_
        · refine Reg.ob_pure (fun _ => rfl) rfl rfl rfl rfl (fun x w1 hF => ?_)
          obtain ⟨n', rfl⟩ := hF
          go_simp
          with_reducible rfl
        refine And.intro ?_ ?_
        · refine Reg.ob_pure (fun _ => rfl) rfl rfl rfl rfl (fun x w1 hF => ?_)
          obtain ⟨n', rfl⟩ := hF
          go_simp
          with_reducible rfl
        refine And.intro ?_ ?_
        · refine Reg.ob_pure (fun _ => rfl) rfl rfl rfl rfl (fun x w1 hF => ?_)
          obtain ⟨n', rfl⟩ := hF
          go_simp
          with_reducible rfl
        refine And.intro ?_ ?_
        · refine Reg.ob_pure (fun _ => rfl) rfl rfl rfl rfl (fun x w1 hF => ?_)
          obtain ⟨n', rfl⟩ := hF
          go_simp
          with_reducible rfl
        refine And.intro ?_ ?_
        · refine Reg.ob_pure (fun _ => rfl) rfl rfl rfl rfl (fun x w1 hF => ?_)
          obtain ⟨n', rfl⟩ := hF
          go_simp
          with_reducible rfl
        refine And.intro ?_ ?_
        · refine Reg.ob_pure (fun _ => rfl) rfl rfl rfl rfl (fun x w1 hF => ?_)
          obtain ⟨n', rfl⟩ := hF
          go_simp
          with_reducible rfl
        refine And.intro ?_ ?_
        · refine Reg.ob_pure (fun _ => rfl) rfl rfl rfl rfl (fun x w1 hF => ?_)
          obtain ⟨n', rfl⟩ := hF
          go_simp
          with_reducible rfl
        refine And.intro ?_ ?_
        · refine Reg.ob_pure (fun _ => rfl) rfl rfl rfl rfl (fun x w1 hF => ?_)
          obtain ⟨n', rfl⟩ := hF
          go_simp
          with_reducible rfl
        refine And.intro ?_ ?_
        · refine Reg.ob_pure (fun _ => rfl) rfl rfl rfl rfl (fun x w1 hF => ?_)
          exact run_neq_rp _ _ _ y.pid y.blp rfl rfl rfl
        exact trivial
      case hFp =>
        exact ⟨n + 1, rfl⟩
      case hinip =>
        exact trivial
      case presp =>
        intro i hi j hj
        cases hj
      case finp =>
        rintro x w9 hF -
        obtain ⟨n2, rfl⟩ := hF rfl
        go_wp2
        exact ⟨⟨k + 1, by omega, by go_num, n2, rfl⟩, by simp [intOf]; omega⟩
    · obtain rfl : k = L1 := by omega
      go_wp2
      go_loopw [6] (fun s5 wr => ∃ k : Nat, k ≤ L2 ∧ s5 = .int .i64 k ∧ ∃ n, wr = w0.drewN n) (fun s5 _ => L2 - (intOf s5).toNat)
      case atStart => exact ⟨0, by omega, rfl, n, rfl⟩
      case round =>
        obtain ⟨k, hk, rfl, n, rfl⟩ := hrel
        by_cases hkl : k < L2
        · have hkI : (k : Int) < (L2 : Int) := by omega
          obtain ⟨A1', c1', eA, -, hc1⟩ := Q1.out.o
          injection eA with eA
          subst eA
          obtain ⟨A2', c2', eB, -, hc2⟩ := Q2.out.o
          injection eB with eB
          subst eB
          obtain ⟨g1, q1, rfl, hd1⟩ := hc1 (by rw [HL2.out]; omega)
          obtain ⟨g2, q2, rfl, hd2⟩ := hc2 (by rw [HL2.out]; omega)
          obtain ⟨y, hy⟩ : ∃ y, m.orders[k]? = some y := ⟨_, List.getElem?_eq_getElem (by rw [HL2.out]; exact hkl)⟩
          obtain ⟨r10, r11⟩ := hd1 k y hy
          obtain ⟨r20, r21⟩ := hd2 k y hy
          clear hc1 hc2 hd1 hd2 hy
          go_upto_region 11 with (fail)
          refine wp_region_posts [[], [0], [], [1, 2, 0], [3, 1, 2, 0], [], [5], [], [6, 7, 5], [8, 6, 7, 5], [4, 9, 3, 1, 2, 0, 8, 6, 7, 5]] [] [] [[], [], [], [], [], [], [], [], [], [], []] [[], [], [], [], [], [], [], [], [], [], []] [] [] [] []
              [some ?vo0, some ?vo1, some ?vo2, some ?vo3, some ?vo4, some ?vo5, some ?vo6, some ?vo7, some ?vo8, some ?vo9, some (.bool false)]
              ?To (fun wx => ∃ n', wx = w0.drewN n') ?Wo ?Eo (by kernel_rfl) (by kernel_rfl) (by kernel_rfl) (fun x => ?hTo) ?hFo ?hinio (Reg.all_ops ?runso) ?preso ?fino
          case Wo => exact fun j x w' => True
          case Eo => exact fun _ w' w'' => True
          case hTo =>
            simp only [Reg.fillV, Act.put, List.setIfInBounds_toArray, List.set_cons_zero, List.set_cons_succ]
            rfl
          case runso =>
            refine And.intro ?_ ?_
            · refine Reg.ob_pure (fun _ => rfl) rfl rfl rfl rfl (fun x w1 hF => ?_)
              obtain ⟨n', rfl⟩ := hF
              go_simp
              with_reducible rfl
            refine And.intro ?_ ?_
            · refine Reg.ob_pure (fun _ => rfl) rfl rfl rfl rfl (fun x w1 hF => ?_)
              obtain ⟨n', rfl⟩ := hF
              go_simp
              with_reducible rfl
            refine And.intro ?_ ?_
            · refine Reg.ob_pure (fun _ => rfl) rfl rfl rfl rfl (fun x w1 hF => ?_)
              obtain ⟨n', rfl⟩ := hF
              go_simp
              with_reducible rfl
            refine And.intro ?_ ?_
            · refine Reg.ob_pure (fun _ => rfl) rfl rfl rfl rfl (fun x w1 hF => ?_)
              obtain ⟨n', rfl⟩ := hF
              go_simp
              with_reducible rfl
            refine And.intro ?_ ?_
            · refine Reg.ob_pure (fun _ => rfl) rfl rfl rfl rfl (fun x w1 hF => ?_)
              obtain ⟨n', rfl⟩ := hF
              go_simp
              with_reducible rfl
            refine And.intro ?_ ?_
            · refine Reg.ob_pure (fun _ => rfl) rfl rfl rfl rfl (fun x w1 hF => ?_)
              obtain ⟨n', rfl⟩ := hF
              go_simp
              with_reducible rfl
            refine And.intro ?_ ?_
            · refine Reg.ob_pure (fun _ => rfl) rfl rfl rfl rfl (fun x w1 hF => ?_)
              obtain ⟨n', rfl⟩ := hF
              go_simp
              with_reducible rfl
            refine And.intro ?_ ?_
            · refine Reg.ob_pure (fun _ => rfl) rfl rfl rfl rfl (fun x w1 hF => ?_)
              obtain ⟨n', rfl⟩ := hF
              go_simp
              with_reducible rfl
            refine And.intro ?_ ?_
            · refine Reg.ob_pure (fun _ => rfl) rfl rfl rfl rfl (fun x w1 hF => ?_)
              obtain ⟨n', rfl⟩ := hF
              go_simp
              with_reducible rfl
            refine And.intro ?_ ?_
            · refine Reg.ob_pure (fun _ => rfl) rfl rfl rfl rfl (fun x w1 hF => ?_)
              obtain ⟨n', rfl⟩ := hF
              go_simp
              with_reducible rfl
            refine And.intro ?_ ?_
            · refine Reg.ob_pure (fun _ => rfl) rfl rfl rfl rfl (fun x w1 hF => ?_)
              exact run_neq_ro _ _ _ y.ssrc y.no rfl rfl rfl
            exact trivial
          case hFo =>
            exact ⟨n + 1, rfl⟩
          case hinio =>
            exact trivial
          case preso =>
            intro i hi j hj
            cases hj
          case fino =>
            rintro x w9 hF -
            obtain ⟨n2, rfl⟩ := hF rfl
            go_wp2
            exact ⟨⟨k + 1, by omega, by go_num, n2, rfl⟩, by simp [intOf]; omega⟩
        · obtain rfl : k = L2 := by omega
          go_wp2
          go_loopw [7] (fun s5 wr => ∃ k : Nat, k ≤ L3 ∧ s5 = .int .i64 k ∧ ∃ n, wr = w0.drewN n) (fun s5 _ => L3 - (intOf s5).toNat)
          case atStart => exact ⟨0, by omega, rfl, n, rfl⟩
          case round =>
            obtain ⟨k, hk, rfl, n, rfl⟩ := hrel
            by_cases hkl : k < L3
            · have hkI : (k : Int) < (L3 : Int) := by omega
              obtain ⟨A1', c1', eA, -, hc1⟩ := Q1.out.s
              injection eA with eA
              subst eA
              obtain ⟨A2', c2', eB, -, hc2⟩ := Q2.out.s
              injection eB with eB
              subst eB
              obtain ⟨g1, q1, rfl, hd1⟩ := hc1 (by rw [nats_length, HL3.out]; omega)
              obtain ⟨g2, q2, rfl, hd2⟩ := hc2 (by rw [nats_length, HL3.out]; omega)
              have hkn : k < (nats m.srcs).length := by rw [nats_length, HL3.out]; exact hkl
              have r1 := hd1 k hkn
              have r2 := hd2 k hkn
              generalize (nats m.srcs)[k] = z at r1 r2
              clear hc1 hc2 hd1 hd2 hkn
              go_wp2
              go_quiet (fail)
              go_wp2
              exact ⟨⟨k + 1, by omega, by go_num, _, rfl⟩, by simp [intOf]; omega⟩
            · obtain rfl : k = L3 := by omega
              go_wp2
              go_ret
              exact ⟨rfl, only_more T0.out (only_drewN w0 n)⟩
end Go.Proofs.Ytefcimkopgcagaa
