/- WideRises' walk. Conditions: none. -/
import Derived.Test.YthnaekmceakdaaaWdI
import Derived.Test.YthnaekmceakdaaaPick
set_option linter.unusedVariables false
namespace Go.Proofs.Ythnaekmceakdaaa
open Go.RowKit

/-- Before round k: the top is one circle above what is told. -/
structure RsAt (b C k nw : Nat) (w wr : World) : Prop where
  x : XIs wr b C (C + nw) true
  only : Only (fun _ => False) w wr
  le : nw ≤ (k + 1) * 4294967296
theorem RsAt.step {b C k nw : Nat} {w wr wx : World} (h : RsAt b C k nw w wr) (ho : Only (fun _ => False) wr wx) : RsAt b C k nw w wx := ⟨h.x.only ho (by simp), h.only.trans ho (fun _ _ e => e), h.le⟩
theorem rise_up {C h nw r : Nat} (hC : Cir C) (hh : C = 2 * h) (hr : r < h) (hn : C + nw < 4611686018427387904) : peekN C (C + nw) true ((nw + r) % C) = C + (nw + r) :=
  (peekN_is hC hn (by rw [Nat.add_mod_left, Nat.mod_mod]) (by show C + nw - C / 2 ≤ _; omega) (by show _ < C + nw - C / 2 + C; omega)).symm
theorem rise_late {C h nw bk : Nat} (hC : Cir C) (hh : C = 2 * h) (hb : bk ≤ h) (hn : C + nw < 4611686018427387904) : peekN C (C + nw) true ((C + nw - bk) % C) = C + nw - bk :=
  (peekN_is hC hn (by rw [Nat.mod_mod]) (by show C + nw - C / 2 ≤ _; omega) (by show _ < C + nw - C / 2 + C; have := hC.pos; omega)).symm
theorem rise_first {C n : Nat} (hC : Cir C) (hn : n < C) : peekN C 0 false n = C + n :=
  (peekN_is hC (by omega) (by rw [Nat.add_mod_left]) (by show C ≤ _; omega) (by show _ < C + C; omega)).symm

set_option maxRecDepth 100000 in
set_option maxHeartbeats 8000000 in
theorem rises_walk (z : Int) (f : Nat) (v u : Value) (xs ys : List Nat) (w : World) (hz : -9223372036854775808 ≤ z ∧ z ≤ 9223372036854775807) (hf : f < 4294967296) (hr : Rd .u32 w v (nats xs)) (hx : ∀ x ∈ xs, x < 4294967296) (hs : Rd .u32 w u (nats ys)) (hy : ∀ x ∈ ys, x < 4294967296) (hl : xs.length ≤ 9223372036854775807) (hm : ys.length ≤ 9223372036854775807) :
    Calls Try.prog 5 #[.int .i64 z, .int .u32 (f : Int), v, u] w (Says (.bool true) w) := by
  obtain ⟨A, c, rfl, hlc, hcell⟩ := hr.opened
  obtain ⟨A', c', rfl, hlc', hcell'⟩ := hs.opened
  obtain ⟨L, hL⟩ : ∃ L, xs.length = L := ⟨_, rfl⟩
  obtain ⟨M, hM⟩ : ∃ L, ys.length = L := ⟨_, rfl⟩
  have HCX := Lib.hid hcell
  have HCY := Lib.hid hcell'
  have HX := Lib.hid hx
  have HY := Lib.hid hy
  have HL := Lib.hid hL
  have HM := Lib.hid hM
  rw [hL] at hlc hl ⊢
  rw [hM] at hlc' hm ⊢
  clear hcell hcell' hx hy hL hM hr hs
  have HPICK := Lib.hid (fun w => pick_is z 31 w hz (by decide) (by decide))
  by_cases hbig : 60 < L
  · go_enter Try.func5, Try.ntmps5
    go_wp2_with fail
    refine (wworks_is _).mono ?_
    rintro e w8 ⟨rfl, ho⟩
    have O8 := Lib.hid ho
    clear ho
    go_wp2
    go_ret
    exact ⟨rfl, O8.out⟩
  by_cases hbig' : 60 < M
  · go_enter Try.func5, Try.ntmps5
    go_wp2_with fail
    refine (wworks_is _).mono ?_
    rintro e w8 ⟨rfl, ho⟩
    have O8 := Lib.hid ho
    clear ho
    go_wp2
    go_ret
    exact ⟨rfl, O8.out⟩
  obtain ⟨p, hp⟩ : ∃ p : Nat, z % 31 = (p : Int) := ⟨(z % 31).toNat, by omega⟩
  have hp2 : p < 31 := by omega
  rw [hp] at HPICK
  obtain ⟨d, hd⟩ : ∃ d, 2 + p = d := ⟨_, rfl⟩
  have hd1 : 2 ≤ d := by omega
  have hd2 : d ≤ 32 := by omega
  have ed : (2 : Int) + (p : Int) = (d : Int) := by omega
  have HN := Lib.hid (fun w => xnew_is (d : Int) w ⟨by omega, by omega⟩)
  have hD : Dig d (cirOf (d : Int)) := by
    have := Dig.of (z := (d : Int)) ⟨by omega, by omega⟩
    rwa [Int.toNat_natCast] at this
  have h1 : 1 < cirOf (d : Int) := cirOf_one ⟨by omega, by omega⟩
  generalize cirOf (d : Int) = C at *
  have HRC := Lib.hid (fun w => rcircle_is d C w (by omega) hD.2)
  have HC := Lib.hid hD.cir
  obtain ⟨h, hh⟩ : ∃ h, C / 2 = h := ⟨_, rfl⟩
  have hev := HC.out.even h1
  rw [hh] at hev
  have HEV := Lib.hid hev
  have hle := HC.out.le
  have hh0 : 0 < h := by omega
  have hhle : h ≤ 2147483648 := by omega
  have eh : (C : Int) / 2 = (h : Int) := by omega
  have e2 : IntKind.u64.wrap (2 * (h : Int)) = (C : Int) := by rw [IntKind.wrap_u64]; omega
  have e3 : 2 * (h : Int) = (C : Int) := by omega
  clear hz hp hd hp2 hD hev hh
  obtain ⟨n0, hn0⟩ : ∃ n, f % C = n := ⟨_, rfl⟩
  have hn0l : n0 < C := by rw [← hn0]; exact Nat.mod_lt _ (by omega)
  have e4 : (f : Int) % (C : Int) = (n0 : Int) := by rw [← hn0]; exact emod_nat f C
  have hn0m : (C + n0) % C = n0 := by rw [Nat.add_mod_left]; exact Nat.mod_eq_of_lt hn0l
  have HF1 := Lib.hid (rise_first HC.out hn0l)
  have HM0 := Lib.hid hn0m
  have e5 : (n0 : Int) % 4294967296 = (n0 : Int) := by omega
  have e6 : IntKind.u32.wrap (n0 : Int) = (n0 : Int) := by rw [IntKind.wrap_u32]; omega
  obtain ⟨t0, ht0⟩ : ∃ t, C + n0 = t := ⟨_, rfl⟩
  have e7 : (n0 : Int) + (C : Int) = (t0 : Int) := by omega
  have e8 : IntKind.u64.wrap ((n0 : Int) + (C : Int)) = (t0 : Int) := by rw [IntKind.wrap_u64]; omega
  have e9 : (t0 : Int) - (n0 : Int) = (C : Int) := by omega
  have e10 : IntKind.u64.wrap ((t0 : Int) - (n0 : Int)) = (C : Int) := by rw [IntKind.wrap_u64]; omega
  rw [ht0] at HF1 HM0
  have HT0 := Lib.hid ht0
  have ht0l : t0 < 8589934592 := by omega
  clear hn0 hn0m ht0
  go_enter Try.func5, Try.ntmps5
  go_wp2_with (go_at_call 21; refine (HPICK.out _).mono ?_; rintro e w' ⟨rfl, rfl⟩)
  refine (HN.out _).mono ?_
  rintro e w1 ⟨b, rfl, hb, hxx, ho⟩
  have X1 := Lib.hid hxx
  have O1 := Lib.hid ho
  clear hxx ho
  go_wp2_with fail
  refine (HRC.out _).mono ?_
  rintro e w2 ⟨rfl, rfl⟩
  go_wp2_with fail
  refine (xnext_is b C 0 n0 false _ X1.out HC.out h1 (by omega) (by simp) (by omega)).mono ?_
  rintro e w2 ⟨rfl, hx2, ho2⟩
  rw [HF1.out] at hx2 ⊢
  have X2 := Lib.hid (show XIs w2 b C t0 true from by rw [show t0 = max 0 t0 by omega]; exact hx2)
  have O2 := Lib.hid (show Only (fun _ => False) w w2 from O1.out.trans ho2 (fun i hi e => by omega))
  clear hx2 ho2
  go_wp2_with fail
  refine (xcut_is b C t0 t0 true _ X2.out HC.out (by omega)).mono ?_
  rintro e w3 ⟨rfl, ho⟩
  rw [HM0.out]
  have S3 := Lib.hid (show RsAt b C 0 n0 w w3 from ⟨by rw [HT0.out]; exact X2.out.only ho (by simp), O2.out.trans ho (fun _ _ e => e), by omega⟩)
  clear ho
  go_upto_region 13 with (fail)
  clear e4 e5 e6 e7 e8 e9 e10 hn0l
  go_wp2
  go_loopw [12, 16] (fun nw i wr => ∃ k m : Nat, k ≤ L ∧ i = .int .i64 k ∧ nw = .int .u64 m ∧ RsAt b C k m w wr) (fun _ i _ => L - (intOf i).toNat)
  case atStart => exact ⟨0, n0, by omega, rfl, rfl, S3.out⟩
  case round =>
    obtain ⟨k, m, hk, rfl, rfl, hS⟩ := hrel
    have S := Lib.hid hS
    have hmle := hS.le
    clear hS S3 X1 X2 O1 O2
    by_cases hlt : k < L
    · have hkx : k < xs.length := by rw [HL.out]; exact hlt
      obtain ⟨q, o, rfl, hcc⟩ := HCX.out (by omega)
      have cq := hcc k hkx
      have hst := HX.out xs[k] (List.getElem_mem _)
      generalize xs[k] = st at *
      have hqw : q < w.heap.size := World.block_lt_of_cell? w ⟨q, o + k, none⟩ cq
      have CQ := Lib.hid (fun (wx : World) (h : Only (fun _ => False) w wx) => (h.cell (p := ⟨q, o + k, none⟩) hqw (by simp)).trans cq)
      clear hcc cq hkx
      have hm60 : m < 300000000000 := by omega
      obtain ⟨r, hr⟩ : ∃ r, st % h = r := ⟨_, rfl⟩
      have hrl : r < h := by rw [← hr]; exact Nat.mod_lt _ hh0
      have a1 : (st : Int) % (h : Int) = (r : Int) := by rw [← hr]; exact emod_nat st h
      obtain ⟨m2, hm2⟩ : ∃ m2, m + r = m2 := ⟨_, rfl⟩
      have a2 : (m : Int) + (r : Int) = (m2 : Int) := by omega
      have a3 : IntKind.u64.wrap ((m : Int) + (r : Int)) = (m2 : Int) := by rw [IntKind.wrap_u64]; omega
      have hup := rise_up HC.out HEV.out hrl (show C + m < 4611686018427387904 by omega)
      rw [hm2] at hup
      obtain ⟨nn, hnn⟩ : ∃ n, m2 % C = n := ⟨_, rfl⟩
      have hnnl : nn < C := by rw [← hnn]; exact Nat.mod_lt _ (by omega)
      have a4 : (m2 : Int) % (C : Int) = (nn : Int) := by rw [← hnn]; exact emod_nat m2 C
      have a5 : (nn : Int) % 4294967296 = (nn : Int) := by omega
      have a6 : IntKind.u32.wrap (nn : Int) = (nn : Int) := by rw [IntKind.wrap_u32]; omega
      obtain ⟨t2, ht2⟩ : ∃ t, C + m2 = t := ⟨_, rfl⟩
      have a7 : (C : Int) + (m2 : Int) = (t2 : Int) := by omega
      have a8 : IntKind.u64.wrap ((C : Int) + (m2 : Int)) = (t2 : Int) := by rw [IntKind.wrap_u64]; omega
      have a9 : (m2 : Int) + (C : Int) = (t2 : Int) := by omega
      have a10 : IntKind.u64.wrap ((m2 : Int) + (C : Int)) = (t2 : Int) := by rw [IntKind.wrap_u64]; omega
      have hcut : t2 % C = nn := by rw [← ht2, Nat.add_mod_left]; exact hnn
      rw [hnn, ht2] at hup
      have HUP := Lib.hid hup
      have HCUT := Lib.hid hcut
      have HM2 := Lib.hid hm2
      have HT2 := Lib.hid ht2
      have hm2l : m2 ≤ (k + 1 + 1) * 4294967296 := by omega
      have hm2b : m2 < 400000000000 := by omega
      have ht2b : t2 < 500000000000 := by omega
      have hmax : max (C + m) t2 = t2 := by omega
      have HMAX := Lib.hid hmax
      have hCm : C + m < 4611686018427387904 := by omega
      have cq := CQ.out _ S.out.only
      clear hup hcut hm2 ht2 hnn hr hmax
      go_wp2_with fail
      refine (xnext_is b C (C + m) nn true _ S.out.x HC.out h1 hCm (fun _ => by omega) (by omega)).mono ?_
      rintro e w4 ⟨rfl, hx4, ho4⟩
      rw [HUP.out] at hx4 ⊢
      rw [HMAX.out] at hx4
      have X4 := Lib.hid hx4
      have O4 := Lib.hid (show Only (fun _ => False) w w4 from S.out.only.trans ho4 (fun i hi e => by omega))
      clear hx4 ho4 cq hCm
      go_wp2_with fail
      refine (xtop_is b C t2 true _ X4.out).mono ?_
      rintro e w5 ⟨rfl, ho⟩
      have X5 := Lib.hid (X4.out.only ho (by simp))
      have O5 := Lib.hid (O4.out.trans ho (fun _ _ e => e))
      clear ho
      go_wp2_with fail
      refine (xcut_is b C t2 t2 true _ X5.out HC.out (by omega)).mono ?_
      rintro e w6 ⟨rfl, ho⟩
      rw [HCUT.out]
      have X6 := Lib.hid (X5.out.only ho (by simp))
      have O6 := Lib.hid (O5.out.trans ho (fun _ _ e => e))
      clear ho
      by_cases hkM : k < M
      · have hky : k < ys.length := by rw [HM.out]; exact hkM
        obtain ⟨q', o', rfl, hcc⟩ := HCY.out (by omega)
        have cq := hcc k hky
        have hlat := HY.out ys[k] (List.getElem_mem _)
        generalize ys[k] = la at *
        have hqw' : q' < w.heap.size := World.block_lt_of_cell? w ⟨q', o' + k, none⟩ cq
        have CY := Lib.hid (fun (wx : World) (h : Only (fun _ => False) w wx) => (h.cell (p := ⟨q', o' + k, none⟩) hqw' (by simp)).trans cq)
        clear hcc cq hky
        obtain ⟨lr, hlr⟩ : ∃ r, la % h = r := ⟨_, rfl⟩
        have hlrl : lr < h := by rw [← hlr]; exact Nat.mod_lt _ hh0
        have b1 : (la : Int) % (h : Int) = (lr : Int) := by rw [← hlr]; exact emod_nat la h
        obtain ⟨bk, hbk⟩ : ∃ r, lr + 1 = r := ⟨_, rfl⟩
        have b2 : (lr : Int) + 1 = (bk : Int) := by omega
        have b3 : IntKind.u64.wrap ((lr : Int) + 1) = (bk : Int) := by rw [IntKind.wrap_u64]; omega
        have hlate := rise_late (bk := bk) (nw := m2) HC.out HEV.out (by omega) (by omega)
        rw [HT2.out] at hlate
        obtain ⟨V, hV⟩ : ∃ r, t2 - bk = r := ⟨_, rfl⟩
        have hlt2 := HT2.out
        have b4 : (t2 : Int) - (bk : Int) = (V : Int) := by omega
        have b5 : IntKind.u64.wrap ((t2 : Int) - (bk : Int)) = (V : Int) := by rw [IntKind.wrap_u64]; omega
        have hVl : V ≤ t2 := by omega
        clear hlt2
        rw [hV] at hlate
        obtain ⟨mm, hmm⟩ : ∃ r, V % C = r := ⟨_, rfl⟩
        have hmml : mm < C := by rw [← hmm]; exact Nat.mod_lt _ (by omega)
        have b6 : (V : Int) % (C : Int) = (mm : Int) := by rw [← hmm]; exact emod_nat V C
        have b7 : (mm : Int) % 4294967296 = (mm : Int) := by omega
        have b8 : IntKind.u32.wrap (mm : Int) = (mm : Int) := by rw [IntKind.wrap_u32]; omega
        rw [hmm] at hlate
        have HLATE := Lib.hid hlate
        have HMAX2 := Lib.hid (show max t2 V = t2 by omega)
        have cq := CY.out _ O6.out
        clear hlate hV hmm hbk hlr
        go_wp2_with fail
        refine (xnext_is b C t2 mm true _ X6.out HC.out h1 (by omega) (fun _ => by have := HT2.out; omega) (by omega)).mono ?_
        rintro e w7 ⟨rfl, hx7, ho7⟩
        rw [HLATE.out] at hx7 ⊢
        rw [HMAX2.out] at hx7
        have X7 := Lib.hid hx7
        have O7 := Lib.hid (show Only (fun _ => False) w w7 from O6.out.trans ho7 (fun i hi e => by omega))
        clear hx7 ho7 cq
        go_wp2_with fail
        refine (xtop_is b C t2 true _ X7.out).mono ?_
        rintro e w8 ⟨rfl, ho⟩
        have X8 := Lib.hid (X7.out.only ho (by simp))
        have O8 := Lib.hid (O7.out.trans ho (fun _ _ e => e))
        clear ho
        go_wp2
        go_roundw
        case rel => exact ⟨k + 1, m2, by omega, by go_num, rfl, by rw [HT2.out]; exact X8.out, O8.out, hm2l⟩
        case measure => simp [intOf]; omega
      · go_wp2
        go_roundw
        case rel => exact ⟨k + 1, m2, by omega, by go_num, rfl, by rw [HT2.out]; exact X6.out, O6.out, hm2l⟩
        case measure => simp [intOf]; omega
    · obtain rfl : k = L := by omega
      clear hlt hk
      go_wp2_with fail
      refine (wworks_is _).mono ?_
      rintro e w8 ⟨rfl, ho⟩
      have O8 := Lib.hid (S.out.only.trans ho (fun _ _ e => e))
      clear ho
      go_wp2
      go_ret
      exact ⟨rfl, O8.out⟩
end Go.Proofs.Ythnaekmceakdaaa
