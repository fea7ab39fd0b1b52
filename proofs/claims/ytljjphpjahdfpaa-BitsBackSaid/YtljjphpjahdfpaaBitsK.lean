/- The statement BitsBack's function: what is put is taken as it was; it answers true, and writes nothing that was there. Conditions: none beyond the kinds of the numbers. -/
import Derived.Test.YtljjphpjahdfpaaBitsJ
import Derived.OpenShut
set_option linter.unusedVariables false
namespace Go.Proofs.Ytljjphpjahdfpaa
open Go.RowKit

/-- A slice that came in. -/
theorem rd_of_row {k : IntKind} {w : World} {a : Option Addr} {len cap : Nat} {zs : List Int}
    (h : (a = none ∧ len = 0 ∧ cap = 0 ∧ zs = []) ∨ ∃ x, a = some x ∧ len ≤ cap ∧ cap ≤ maxLen ∧ zs.length = cap ∧ (∀ i, i < zs.length → w.cell? (x.add i) = some (.int k (zs.getD i 0))) ∧ ∀ n ∈ zs, (Lit.int k n).wf = true) :
    Rd k w (.slice a len cap) (zs.take len) ∧ (zs.take len).length = len ∧ len ≤ maxLen ∧ ∀ n ∈ zs.take len, (Lit.int k n).wf = true := by
  rcases h with ⟨rfl, rfl, rfl, rfl⟩ | ⟨x, rfl, hl, hm, hz, hc, hw⟩
  · exact ⟨Rd.nil k w, rfl, by simp, by simp⟩
  · have hlen : (zs.take len).length = len := by rw [List.length_take]; omega
    refine ⟨⟨_, cap, by rw [hlen], by omega, fun hp => ?_⟩, hlen, by omega, fun n hn => hw n (List.mem_of_mem_take hn)⟩
    obtain ⟨b, o, spot⟩ := x
    have h0 := hc 0 (by omega)
    have hspot : spot = none := by simpa [Addr.add] using World.cell?_spot h0
    subst hspot
    refine ⟨b, o, rfl, fun j hj => ?_⟩
    have hj' : j < zs.length := by omega
    have := hc j hj'
    rw [add_plain] at this
    rw [this]
    simp [List.getD_eq_getElem?_getD, hj']

/-- How many digits the k-th number is given. -/
def kd (zs : List Int) (k : Nat) : Nat := (zs.getD (k % zs.length) 0 % 65).toNat
theorem kd_le (zs : List Int) (k : Nat) : kd zs k ≤ 64 := by unfold kd; omega
/-- The digits of the first k numbers. -/
def dd (xs : List Nat) (zs : List Int) : Nat → List Nat
  | 0 => []
  | k + 1 => dd xs zs k ++ digs (kd zs k) (xs.getD k 0)
theorem dd_length_le (xs : List Nat) (zs : List Int) (k : Nat) : (dd xs zs k).length ≤ 64 * k := by
  induction k with
  | zero => simp [dd]
  | succ k ih =>
    rw [dd, List.length_append, digs_length]
    have := kd_le zs k
    omega
theorem dd_pre (xs : List Nat) (zs : List Int) (k n : Nat) (h : k ≤ n) : ∃ r, dd xs zs n = dd xs zs k ++ r := by
  induction n with
  | zero => exact ⟨[], by have : k = 0 := by omega
                          subst this; simp⟩
  | succ n ih =>
    rcases Nat.lt_or_ge k (n + 1) with hk | hk
    · obtain ⟨r, hr⟩ := ih (by omega)
      exact ⟨r ++ digs (kd zs n) (xs.getD n 0), by rw [dd, hr, List.append_assoc]⟩
    · have : k = n + 1 := by omega
      subst this
      exact ⟨[], by simp⟩
/-- What was put k-th is taken. -/
theorem num_dd (xs : List Nat) (zs : List Int) (bs : List Nat) (k n : Nat) (h : k < n) (hw : Wrote bs (dd xs zs n)) : num bs (dd xs zs k).length (kd zs k) = xs.getD k 0 % 2 ^ kd zs k ∧ (dd xs zs k).length + kd zs k ≤ 8 * bs.length := by
  obtain ⟨r, hr⟩ := dd_pre xs zs (k + 1) n h
  rw [dd] at hr
  have hd := hw.digits
  have hlen := D_length bs
  refine ⟨?_, ?_⟩
  · unfold num
    rw [hd, hr, List.append_assoc, List.append_assoc, List.drop_append_of_le_length (Nat.le_refl _), List.drop_length, List.nil_append,
      List.take_append_of_le_length (by rw [digs_length]; exact Nat.le_refl _), List.take_of_length_le (by rw [digs_length]; exact Nat.le_refl _), val_digs]
  · have := congrArg List.length hd
    rw [hlen, hr] at this
    simp only [List.length_append, digs_length] at this
    omega
/-- What is left is noughts. -/
theorem num_rest (bs d : List Nat) (hw : Wrote bs d) : num bs d.length (8 * bs.length - d.length) = 0 ∧ d.length ≤ 8 * bs.length ∧ 8 * bs.length - d.length < 8 := by
  have hr := hw.rows
  refine ⟨?_, by omega, by omega⟩
  unfold num
  rw [hw.digits, List.drop_append_of_le_length (Nat.le_refl _), List.drop_length, List.nil_append, List.take_of_length_le (by rw [List.length_replicate]; exact Nat.le_refl _), val_zero]

set_option maxRecDepth 100000 in
set_option maxHeartbeats 4000000 in
theorem back_walk (v0 v1 : Value) (xs : List Nat) (zs : List Int) (w : World) (h0 : Rd .u64 w v0 (nats xs)) (hx : ∀ x ∈ xs, x < 18446744073709551616) (h1 : Rd .i64 w v1 zs) (hz : ∀ z ∈ zs, -9223372036854775808 ≤ z ∧ z ≤ 9223372036854775807)
    (hn : xs.length ≤ 40) (hm : 0 < zs.length) (hm2 : zs.length ≤ 9223372036854775807) :
    Calls Try.prog 3 #[v0, v1] w fun e w' => e = .returned (.bool true) ∧ Below w.heap.size w w' := by
  obtain ⟨A0, c0, rfl, hc0, hcell0⟩ := h0
  obtain ⟨A1, c1, rfl, hc1, hcell1⟩ := h1
  obtain ⟨g1, o1, rfl, hcl1⟩ := hcell1 hm
  rw [nats_length] at hc0 ⊢
  have HC0 := Lib.hid hcell0
  have HC1 := Lib.hid hcl1
  have HX := Lib.hid hx
  have HZ := Lib.hid hz
  clear hcell0 hcell1 hcl1 hx hz
  obtain ⟨n, hnn⟩ : ∃ n, xs.length = n := ⟨_, rfl⟩
  obtain ⟨m, hmm⟩ : ∃ m, zs.length = m := ⟨_, rfl⟩
  rw [hnn] at hn hc0
  rw [hmm] at hm hm2 hc1
  rw [hnn, hmm]
  have HN := Lib.hid hnn
  have HM := Lib.hid hmm
  clear hnn hmm
  have t1 : ¬ (40 : Int) < (n : Int) := by omega
  have t2 : ((m : Int) == 0) = false := by simp; omega
  go_enter Try.func3, Try.ntmps3
  go_wp2_with fail
  refine (new_is w).mono ?_
  rintro e w1 ⟨rfl, hw1⟩
  have hwr := wr_new w w.heap.size (Nat.le_refl _)
  have o1' : Only (fun _ => False) w w1 := hw1 ▸ (Only.refl _ w).alloc _
  rw [hw1] at hwr
  clear hw1
  have HWR := Lib.hid hwr
  have O1 := Lib.hid o1'
  clear hwr o1'
  go_wp2_with fail
  go_loopw [6] (fun i wr => ∃ (k : Nat) (bs : List Nat) (u : Value), k ≤ n ∧ i = .int .i64 k ∧ Wr wr w.heap.size (dd xs zs k) bs u w.heap.size ∧ Only (fun _ => False) w wr) (fun i _ => n - (intOf i).toNat)
  case atStart => exact ⟨0, [], .slice none 0 0, by omega, rfl, HWR.out, O1.out⟩
  case round =>
    clear HWR O1
    obtain ⟨k, bs, u, hk, rfl, hw, ho⟩ := hrel
    have HW := Lib.hid hw
    have HO := Lib.hid ho
    have hsz := ho.size
    clear hw ho
    by_cases hlt : k < n
    · obtain ⟨g0, o0, rfl, hcl0⟩ := HC0.out (by rw [nats_length, HN.out]; omega)
      have hkx : k < xs.length := by rw [HN.out]; exact hlt
      have hkm : k % m < m := Nat.mod_lt _ hm
      have q0 := hcl0 k (by rw [nats_length]; exact hkx)
      have q1 : wr.cell? ⟨g0, o0 + k, none⟩ = some (.int .u64 (xs.getD k 0 : Nat)) := by
        rw [HO.out.cell (World.block_lt_of_cell? w _ q0) (by simp), q0]
        simp [nats, hkx]
      have r0 := HC1.out (k % m) (by rw [HM.out]; exact hkm)
      have r1 : wr.cell? ⟨g1, o1 + k % m, none⟩ = some (.int .i64 (zs.getD (k % m) 0)) := by
        rw [HO.out.cell (World.block_lt_of_cell? w _ r0) (by simp), r0]
        have : k % m < zs.length := by rw [HM.out]; exact hkm
        simp [this]
      have hxk : xs.getD k 0 < 18446744073709551616 := by
        rw [List.getD_eq_getElem?_getD, List.getElem?_eq_getElem hkx]
        exact HX.out _ (List.getElem_mem hkx)
      have hzk : -9223372036854775808 ≤ zs.getD (k % m) 0 ∧ zs.getD (k % m) 0 ≤ 9223372036854775807 := by
        rw [List.getD_eq_getElem?_getD, List.getElem?_eq_getElem (by rw [HM.out]; exact hkm)]
        exact HZ.out _ (List.getElem_mem _)
      have hkd : kd zs k = (zs.getD (k % m) 0 % 65).toNat := by unfold kd; rw [HM.out]
      have hdl := dd_length_le xs zs k
      have hdd : dd xs zs (k + 1) = dd xs zs k ++ digs (kd zs k) (xs.getD k 0) := rfl
      have hcl : clamp (zs.getD (k % m) 0 % 65) = kd zs k := by rw [hkd]; unfold clamp; omega
      generalize xs.getD k 0 = x at *
      generalize zs.getD (k % m) 0 = z at *
      have HDD := Lib.hid hdd
      have HCL := Lib.hid hcl
      clear q0 r0 hcl0 hdd hcl hkd hkx
      have hm0 : ¬ m = 0 := by omega
      have a0 : (k : Int).tmod (m : Int) = (k : Int) % (m : Int) := Int.tmod_eq_emod_of_nonneg (by omega)
      have a1 : (0 : Int) ≤ (k : Int) % (m : Int) := by have : (k : Int) % (m : Int) = ((k % m : Nat) : Int) := by omega
                                                        omega
      have a2 : (k : Int) % (m : Int) < (m : Int) := by have : (k : Int) % (m : Int) = ((k % m : Nat) : Int) := by omega
                                                        omega
      have a3 : ((k : Int) % (m : Int)).toNat = k % m := by have : (k : Int) % (m : Int) = ((k % m : Nat) : Int) := by omega
                                                            omega
      go_wp2
      go_still_tail 13, (by kernel_rfl)
      still_call ((pick_is z 65 _ hzk (by omega) (by omega)).mono (fun _ _ h => ⟨h.1, h.2.symm⟩))
      repeat still_step
      refine wpStill_nil ?_
      clear q1 r1 a0 a1 a2 a3 hm0
      have h65 : (z : Int) % 65 ≤ 64 := by omega
      go_wp2_with fail
      refine (put_is w.heap.size w.heap.size x (z % 65) _ bs u wr.drew HW.out.drew hsz hxk (by omega)).mono ?_
      rintro e w2 ⟨rfl, bs1, u1, hw1, hm1, ho1⟩
      have HW1 := Lib.hid hw1
      have HO1 := Lib.hid (only_new HW.out.drew HO.out.drew (Nat.le_refl _) ho1)
      clear hw1 hm1 ho1 h65
      go_wp2
      go_roundw
      case rel =>
        refine ⟨k + 1, bs1, u1, by omega, by go_num, ?_, HO1.out⟩
        rw [HDD.out, ← HCL.out]
        exact HW1.out
      case measure => simp [intOf]; omega
    · have hkn : k = n := by omega
      subst hkn
      have hdl := dd_length_le xs zs k
      go_wp2_with fail
      refine (out_is w.heap.size w.heap.size w.heap.size _ bs u wr HW.out (by omega) (by omega)).mono ?_
      rintro e w2 ⟨y, rfl, hy, ho2, _⟩
      have hwt := HW.out.wrote
      have HY := Lib.hid (Src.of_own (bs := bs) (by rw [length_cellsOf] at hy; exact hy))
      have HO2 := Lib.hid (only_more HO.out ho2)
      have s2 := HO2.out.size
      have hbl : bs.length ≤ 140737488355328 := by have := hwt.rows; omega
      have HWT := Lib.hid hwt
      clear HW HO hy ho2 hwt
      go_wp2_with fail
      refine (of_src _ bs _ w.heap.size s2 HY.out hbl).mono ?_
      rintro e w3 ⟨r, vr, rfl, hr, hri, hro, _, ho3⟩
      have RR := Lib.hid (rdr_of hri hro HWT.out.bytes hbl)
      have HO3 := Lib.hid (only_more HO2.out ho3)
      have hrw : w.heap.size ≤ r := by omega
      clear hri hro ho3 HO2 HY hr s2 hsz
      go_wp2_with fail
      go_loopw [8] (fun i wr => ∃ j : Nat, j ≤ k ∧ i = .int .i64 j ∧ Rdr wr r bs (dd xs zs j).length 0 vr ∧ Only (fun _ => False) w wr) (fun i _ => k - (intOf i).toNat)
      case atStart => exact ⟨0, by omega, rfl, RR.out, HO3.out⟩
      case round =>
        clear RR HO3
        obtain ⟨j, hj, rfl, hrd, ho⟩ := hrel
        obtain ⟨wq, rfl⟩ : ∃ wq : World, wq = wr := ⟨_, rfl⟩
        have HRD := Lib.hid hrd
        have HO := Lib.hid ho
        clear hrd ho
        by_cases hjlt : j < k
        · obtain ⟨g0, o0, rfl, hcl0⟩ := HC0.out (by rw [nats_length, HN.out]; omega)
          have hkx : j < xs.length := by rw [HN.out]; exact hjlt
          have hkm : j % m < m := Nat.mod_lt _ hm
          have q0 := hcl0 j (by rw [nats_length]; exact hkx)
          have q1 : wq.cell? ⟨g0, o0 + j, none⟩ = some (.int .u64 (xs.getD j 0 : Nat)) := by
            rw [HO.out.cell (World.block_lt_of_cell? w _ q0) (by simp), q0]
            simp [nats, hkx]
          have r0 := HC1.out (j % m) (by rw [HM.out]; exact hkm)
          have r1 : wq.cell? ⟨g1, o1 + j % m, none⟩ = some (.int .i64 (zs.getD (j % m) 0)) := by
            rw [HO.out.cell (World.block_lt_of_cell? w _ r0) (by simp), r0]
            have : j % m < zs.length := by rw [HM.out]; exact hkm
            simp [this]
          have hxk : xs.getD j 0 < 18446744073709551616 := by
            rw [List.getD_eq_getElem?_getD, List.getElem?_eq_getElem hkx]
            exact HX.out _ (List.getElem_mem hkx)
          have hzk : -9223372036854775808 ≤ zs.getD (j % m) 0 ∧ zs.getD (j % m) 0 ≤ 9223372036854775807 := by
            rw [List.getD_eq_getElem?_getD, List.getElem?_eq_getElem (by rw [HM.out]; exact hkm)]
            exact HZ.out _ (List.getElem_mem _)
          have hnum := num_dd xs zs bs j k hjlt HWT.out
          have hlast : (dd xs zs (j + 1)).length = (dd xs zs j).length + kd zs j := by rw [dd, List.length_append, digs_length]
          have hkd : zs.getD (j % m) 0 % 65 = ((kd zs j : Nat) : Int) := by unfold kd; rw [HM.out]; omega
          have hq64 := kd_le zs j
          have hpick : ∀ W : World, Calls Try.prog 9 #[.int .i64 (zs.getD (j % m) 0), .int .i64 65] W fun e w' => e = .returned (.int .i64 (kd zs j : Nat)) ∧ W = w' := by
            intro W
            rw [← hkd]
            exact pick_is _ 65 W hzk (by omega) (by omega)
          have HPK := Lib.hid hpick
          generalize xs.getD j 0 = x at *
          generalize zs.getD (j % m) 0 = z at *
          generalize kd zs j = q at *
          have HNUM := Lib.hid hnum
          have HLAST := Lib.hid hlast
          clear q0 r0 hcl0 hpick hkd hkx hnum hlast hzk
          have hm0 : ¬ m = 0 := by omega
          by_cases hq : q < 64
          · have hqb : (q : Int) < 64 := by omega
            go_wp2_with (go_at_call 9; refine (HPK.out _).mono ?_; rintro e w' ⟨rfl, rfl⟩)
            have p1 : IntKind.u64.wrap ((2 : Int) ^ q) = (2 : Int) ^ q := by
              rw [pow_cast]
              refine wrap_u64_nat _ (Nat.lt_of_lt_of_le (Nat.pow_lt_pow_right (by decide) hq) (by decide))
            have p2 : ¬ (2 : Int) ^ q = 0 := by
              rw [pow_cast]
              have : 0 < 2 ^ q := Nat.pow_pos (by decide)
              omega
            have p3 : ((2 : Int) ^ q == 0) = false := by simpa using p2
            go_quiet (fail)
            clear p1 p2 p3
            have p4 : (x : Int) % 2 ^ q = ((x % 2 ^ q : Nat) : Int) := by rw [pow_cast]; omega
            rw [p4]
            clear p4
            generalize x % 2 ^ q = y' at *
            go_wp2_with fail
            refine (take_ok r _ q bs vr _ (HRD.out.drewN nq) hq64 HNUM.out.2).mono ?_
            rintro e w4 ⟨rfl, hr4, ho4⟩
            rw [HNUM.out.1]
            have HR4 := Lib.hid hr4
            have HO4 := Lib.hid (only_at (HO.out.drewN nq) hrw ho4)
            clear hr4 ho4 q1 r1 hm0
            go_wp2
            go_roundw
            case rel =>
              refine ⟨j + 1, by omega, by go_num, ?_, HO4.out⟩
              rw [HLAST.out]
              exact HR4.out
            case measure => simp [intOf]; omega
          · have hqe : q = 64 := by omega
            have hqb : ¬ (q : Int) < 64 := by omega
            have hnx : x % 2 ^ q = x := by rw [hqe]; exact Nat.mod_eq_of_lt hxk
            rw [hnx] at HNUM
            clear hqe hnx
            go_wp2_with (go_at_call 9; refine (HPK.out _).mono ?_; rintro e w' ⟨rfl, rfl⟩)
            refine (take_ok r _ q bs vr _ HRD.out hq64 HNUM.out.2).mono ?_
            rintro e w4 ⟨rfl, hr4, ho4⟩
            rw [HNUM.out.1]
            have HR4 := Lib.hid hr4
            have HO4 := Lib.hid (only_at HO.out hrw ho4)
            clear hr4 ho4 q1 r1 hm0
            go_wp2
            go_roundw
            case rel =>
              refine ⟨j + 1, by omega, by go_num, ?_, HO4.out⟩
              rw [HLAST.out]
              exact HR4.out
            case measure => simp [intOf]; omega
        · have hjk : j = k := by omega
          subst hjk
          have hrest := num_rest bs _ HWT.out
          have hdl2 := dd_length_le xs zs j
          generalize (dd xs zs j).length = P at *
          have HREST := Lib.hid hrest.1
          obtain ⟨_, hPle, hP8⟩ := hrest
          clear HC0 HC1 HX HZ
          go_wp2_with fail
          refine (left_rdr r P bs 0 vr _ HRD.out).mono ?_
          rintro e w4 ⟨rfl, n4, rfl⟩
          go_wp2_with fail
          refine (err_rdr r P bs 0 vr _ (HRD.out.drewN n4)).mono ?_
          rintro e w' ⟨rfl, rfl⟩
          have h8 : ¬ (8 : Int) ≤ ((8 * bs.length - P : Nat) : Int) := by omega
          obtain ⟨lf, hlf⟩ : ∃ lf, 8 * bs.length - P = lf := ⟨_, rfl⟩
          rw [hlf] at h8 hP8 HREST ⊢
          have HLF := Lib.hid hlf
          have hPlf : P + lf = 8 * bs.length := by omega
          have HPLF := Lib.hid hPlf
          clear hlf hPlf
          go_wp2_with fail
          refine (take_ok r P lf bs vr _ (HRD.out.drewN n4) (by omega) (by have := HPLF.out; omega)).mono ?_
          rintro e w5 ⟨rfl, hr5, ho5⟩
          rw [HREST.out]
          have HR5 := Lib.hid hr5
          have HO5 := Lib.hid (only_at (HO.out.drewN n4) hrw ho5)
          clear hr5 ho5
          go_wp2_with fail
          refine (err_rdr r _ bs 0 vr _ HR5.out).mono ?_
          rintro e w' ⟨rfl, rfl⟩
          go_wp2_with fail
          refine (left_rdr r _ bs 0 vr _ HR5.out).mono ?_
          rintro e w6 ⟨rfl, n6, rfl⟩
          have hz6 : 8 * bs.length - (P + lf) = 0 := by have := HPLF.out; omega
          rw [hz6]
          have HZ6 := Lib.hid hz6
          clear hz6
          go_wp2_with fail
          refine (take_fail r _ bs 0 1 10 vr _ (HR5.out.drewN n6) (by rw [HZ6.out]; rfl) (by decide)).mono ?_
          rintro e w7 ⟨rfl, hr7, ho7⟩
          have HR7 := Lib.hid hr7
          have HO7 := Lib.hid (only_at (HO5.out.drewN n6) hrw ho7)
          clear hr7 ho7
          go_wp2_with fail
          refine (err_rdr r _ bs 10 vr _ HR7.out).mono ?_
          rintro e w' ⟨rfl, rfl⟩
          go_wp2_with fail
          refine (take_fail r _ bs 10 0 10 vr _ HR7.out rfl (by decide)).mono ?_
          rintro e w8 ⟨rfl, hr8, ho8⟩
          have HR8 := Lib.hid hr8
          have HO8 := Lib.hid (only_at HO7.out hrw ho8)
          clear hr8 ho8
          go_wp2_with fail
          refine (flag_fail r _ bs 10 10 vr _ HR8.out rfl (by decide)).mono ?_
          rintro e w9 ⟨rfl, hr9, ho9⟩
          have HR9 := Lib.hid hr9
          have HO9 := Lib.hid (only_at HO8.out hrw ho9)
          clear hr9 ho9
          go_wp2_with fail
          refine (rest_failed r _ bs 10 vr _ HR9.out (by decide)).mono ?_
          rintro e w' ⟨rfl, rfl⟩
          go_wp2_with fail
          refine (err_rdr r _ bs 10 vr _ HR9.out).mono ?_
          rintro e w' ⟨rfl, rfl⟩
          go_wp2_with fail
          refine (works_is _).mono ?_
          rintro e w10 ⟨rfl, ho10⟩
          have HO10 := Lib.hid (only_more HO9.out ho10)
          clear ho10
          go_wp2
          go_ret
          exact ⟨rfl, HO10.out.below (by simp) (Nat.le_refl _)⟩

set_option maxRecDepth 100000 in
set_option maxHeartbeats 1000000 in
theorem back_short (A0 A1 : Option Addr) (n c0 m c1 : Nat) (w : World) (h : 40 < n ∨ m = 0) (hn : n ≤ 9223372036854775807) :
    Calls Try.prog 3 #[.slice A0 n c0, .slice A1 m c1] w fun e w' => e = .returned (.bool true) ∧ Below w.heap.size w w' := by
  by_cases h40 : 40 < n
  · have t1 : (40 : Int) < (n : Int) := by omega
    clear h
    go_enter Try.func3, Try.ntmps3
    go_wp2_with (go_at_call 6; refine (works_below _).mono ?_; rintro e w1 ⟨rfl, ho⟩)
    go_ret
    exact ⟨rfl, ho⟩
  · have hm : m = 0 := by omega
    subst hm
    have t1 : ¬ (40 : Int) < (n : Int) := by omega
    clear h
    go_enter Try.func3, Try.ntmps3
    go_wp2_with (go_at_call 6; refine (works_below _).mono ?_; rintro e w1 ⟨rfl, ho⟩)
    go_ret
    exact ⟨rfl, ho⟩

/-- Numbers that fit their kind. -/
theorem nats_of (zs : List Int) (h : ∀ n ∈ zs, (Lit.int .u64 n).wf = true) : ∃ xs : List Nat, nats xs = zs ∧ ∀ x ∈ xs, x < 18446744073709551616 := by
  induction zs with
  | nil => exact ⟨[], rfl, by simp⟩
  | cons z zs ih =>
    obtain ⟨xs, hxs, hb⟩ := ih (fun n hn => h n (by simp [hn]))
    have hz := h z (by simp)
    have hz' := bounds_u64 hz
    refine ⟨z.toNat :: xs, ?_, ?_⟩
    · rw [← hxs]
      simp [nats]
      omega
    · intro x hx
      simp only [List.mem_cons] at hx
      rcases hx with rfl | hx
      · omega
      · exact hb x hx

/-- BitsBack's function, whatever comes in. -/
theorem back_any (a0 : Option Addr) (len0 cap0 : Nat) (z0 : List Int) (a1 : Option Addr) (len1 cap1 : Nat) (z1 : List Int) (w : World)
    (w0 : (a0 = none ∧ len0 = 0 ∧ cap0 = 0 ∧ z0 = []) ∨ ∃ x, a0 = some x ∧ len0 ≤ cap0 ∧ cap0 ≤ maxLen ∧ z0.length = cap0 ∧ (∀ i, i < z0.length → w.cell? (x.add i) = some (.int .u64 (z0.getD i 0))) ∧ ∀ n ∈ z0, (Lit.int .u64 n).wf = true)
    (w1 : (a1 = none ∧ len1 = 0 ∧ cap1 = 0 ∧ z1 = []) ∨ ∃ x, a1 = some x ∧ len1 ≤ cap1 ∧ cap1 ≤ maxLen ∧ z1.length = cap1 ∧ (∀ i, i < z1.length → w.cell? (x.add i) = some (.int .i64 (z1.getD i 0))) ∧ ∀ n ∈ z1, (Lit.int .i64 n).wf = true) :
    Calls Try.prog 3 #[.slice a0 len0 cap0, .slice a1 len1 cap1] w fun e w' => e = .returned (.bool true) ∧ Below w.heap.size w w' := by
  obtain ⟨r0, l0, m0, f0⟩ := rd_of_row w0
  obtain ⟨r1, l1, m1, f1⟩ := rd_of_row w1
  unfold maxLen at m0 m1
  by_cases h : 40 < len0 ∨ len1 = 0
  · exact back_short a0 a1 len0 cap0 len1 cap1 w h (by omega)
  · obtain ⟨xs, hxs, hxb⟩ := nats_of _ f0
    rw [← hxs] at r0 l0
    rw [nats_length] at l0
    refine back_walk _ _ xs _ w r0 hxb r1 ?_ (by omega) (by omega) (by omega)
    intro z hz
    exact bounds_i64 (f1 z hz)
end Go.Proofs.Ytljjphpjahdfpaa
