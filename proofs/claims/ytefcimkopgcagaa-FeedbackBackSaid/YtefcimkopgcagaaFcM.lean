/- easelref07.body: the bytes of a message. Conditions: as it says. -/
import Derived.Test.YtefcimkopgcagaaFcGr
import Derived.Test.YtefcimkopgcagaaFcD
import Derived.Test.YtefcimkopgcagaaBase
set_option linter.unusedVariables false
set_option linter.unusedSimpArgs false
namespace Go.Proofs.Ytefcimkopgcagaa
open Go.RowKit

theorem number_src (k n : Nat) (w : World) (hk : k ≤ 8) (hk1 : 1 ≤ k) (hn : n ≤ 18446744073709551615) :
    Calls Try.prog 62 #[.int .u64 n, .int .i64 k] w fun e w' => ∃ A c, e = .returned (.slice A k c) ∧ (Src w' (.slice A k c) (numB k n) ∧ w'.ownsRow w.heap.size 5 1 (.slice A k c) (numB k n).length (cellsOf (numB k n))) ∧ Only (fun _ => False) w w' := by
  refine (number_is k n w hk hk1 hn).mono ?_
  rintro e w' ⟨A, c, rfl, h, ho⟩
  have h' : w'.ownsRow w.heap.size 5 1 (.slice A k c) (numB k n).length (cellsOf (numB k n)) := by rw [numB_len]; exact h
  exact ⟨A, c, rfl, ⟨Src.of_own h', h'⟩, ho⟩
def pairB (p : Pr) : List Nat := numB 2 p.pid ++ numB 2 p.blp
def orderB (p : Od) : List Nat := numB 4 p.ssrc ++ [p.no, 0, 0, 0]
theorem pairsB_len : ∀ (l : List Pr), (l.flatMap pairB).length = 4 * l.length
  | [] => rfl
  | p :: l => by rw [List.flatMap_cons, List.length_append, pairsB_len l, List.length_cons]; unfold pairB; rw [List.length_append, numB_len, numB_len]; omega
theorem ordersB_len : ∀ (l : List Od), (l.flatMap orderB).length = 8 * l.length
  | [] => rfl
  | p :: l => by rw [List.flatMap_cons, List.length_append, ordersB_len l, List.length_cons]; unfold orderB; rw [List.length_append, numB_len]; simp only [List.length_cons, List.length_nil]; omega
theorem srcsB_len : ∀ (l : List Nat), (l.flatMap (numB 4)).length = 4 * l.length
  | [] => rfl
  | p :: l => by rw [List.flatMap_cons, List.length_append, srcsB_len l, List.length_cons, numB_len]; omega
def rateB (m : Ms) : List Nat := [82, 69, 77, 66, m.srcs.length] ++ (numB 3 (m.exp * 262144 + m.mant) ++ m.srcs.flatMap (numB 4))
def headB (m : Ms) : List Nat := numB 4 m.sender ++ numB 4 m.media
theorem headB_len (m : Ms) : (headB m).length = 8 := by unfold headB; rw [List.length_append, numB_len, numB_len]
def partB (m : Ms) : List Nat := headB m ++ (m.pairs.flatMap pairB ++ m.orders.flatMap orderB)
def bodyB (m : Ms) : List Nat := partB m ++ (if m.sort = 4 then rateB m else [])

set_option maxRecDepth 100000 in
set_option maxHeartbeats 8000000 in
theorem rbody_is (m : Ms) (p1 o1 s1 : Value) (w : World) (h1 : RdM m p1 o1 s1 w) (hl : m.pairs.length ≤ 1000 ∧ m.orders.length ≤ 1000 ∧ m.srcs.length ≤ 1000) (hf : MFit m) (hr4 : m.sort = 4 → m.srcs.length ≤ 255 ∧ m.exp ≤ 63 ∧ m.mant < 262144) :
    Calls Try.prog 42 #[.agg (m.cls p1 o1 s1)] w fun e w' => ∃ v, e = .returned v ∧ Acc w v (bodyB m) w' := by
  have HRD := Lib.hid h1
  have HF := Lib.hid hf
  have HR4 := Lib.hid hr4
  have zs := hf.snd
  have zm := hf.med
  have ws : IntKind.u64.wrap (m.sender : Int) = (m.sender : Int) := by rw [IntKind.wrap_u64]; omega
  have wm : IntKind.u64.wrap (m.media : Int) = (m.media : Int) := by rw [IntKind.wrap_u64]; omega
  obtain ⟨P1, d1, hp1, -, hpp⟩ := h1.p
  obtain ⟨O1, e1, ho1, -, hoo⟩ := h1.o
  obtain ⟨S1, f1, hs1, -, hss⟩ := h1.s
  rw [nats_length] at hs1
  have HPP := Lib.hid hpp
  have HOO := Lib.hid hoo
  have HSS := Lib.hid hss
  have HP1 := Lib.hid hp1
  have HO1 := Lib.hid ho1
  have HS1 := Lib.hid hs1
  obtain ⟨Lp, hLp⟩ : ∃ n, m.pairs.length = n := ⟨_, rfl⟩
  obtain ⟨Lo, hLo⟩ : ∃ n, m.orders.length = n := ⟨_, rfl⟩
  obtain ⟨Ls, hLs⟩ : ∃ n, m.srcs.length = n := ⟨_, rfl⟩
  have HLP := Lib.hid hLp
  have HLO := Lib.hid hLo
  have HLS := Lib.hid hLs
  rw [hLp, hLo, hLs] at hl
  obtain ⟨hl1, hl2, hl3⟩ := hl
  obtain ⟨A, hA⟩ : ∃ a, m.cls p1 o1 s1 = a := ⟨_, rfl⟩
  have HA := Lib.hid hA
  rw [hA]
  clear hA h1 hf hr4 hp1 ho1 hs1 hpp hoo hss hLp hLo hLs
  go_enter Try.func42, Try.ntmps42
  go_upto_region 1 with (fail)
  obtain ⟨mb, hmb⟩ : ∃ g, w.heap.size = g := ⟨_, rfl⟩
  generalize hw1 : World.alloc _ _ = w1
  have I1 := Lib.hid (show Is w1 mb 33 (m.cls p1 o1 s1) from by rw [← hw1, ← hmb, HA.out]; exact Is.made _ _ _)
  have O1' := Lib.hid (show Only (fun _ => False) w w1 from by rw [← hw1]; exact (Only.refl _ _).alloc _)
  rw [hmb]
  clear hw1 hmb
  have HC := Lib.hid (fun (wx : World) (h : Only (fun _ => False) w1 wx) => cls_cells (I1.out.only h (by simp)))
  obtain ⟨m0, m1, m2, -, -, -, -, -⟩ := HC.out w1 (Only.refl _ _)
  go_upto_region 2 with (go_at_call 62; refine (number_src 4 m.sender _ (by omega) (by omega) (by omega)).mono ?_; rintro e w11 ⟨A1, c1, rfl, hs1, ho1⟩; have N1 := Lib.hid hs1; have M1 := Lib.hid ho1; clear hs1 ho1)
  have K1 := Lib.hid (show Acc w1 (.slice A1 4 c1) (numB 4 m.sender) w11 from ⟨N1.out.2, M1.out⟩)
  clear m0 m1 m2
  obtain ⟨m0, m1, m2, -, -, -, -, -⟩ := HC.out w11 M1.out
  go_upto_region 3 with (first | (go_at_call 62; refine (number_src 4 m.media _ (by omega) (by omega) (by omega)).mono ?_; rintro e w22 ⟨A2, c2, rfl, hs2, ho2⟩; have N2 := Lib.hid hs2; have M2 := Lib.hid ho2; clear hs2 ho2) | (refine wpList_acc_src rfl _ _ rfl (K1.out.go M2.out) rfl _ (numB 4 m.media) rfl N2.out.1 (by simp only [List.length_append, headB_len, numB_len, pairsB_len, ordersB_len, srcsB_len, List.length_take, List.length_cons, List.length_nil]; omega) ?_; intro v2 x2 hk2 _; have K2 := Lib.hid hk2; clear hk2))
  have KH := Lib.hid (show Acc w1 v2 (headB m) x2 from K2.out)
  clear m0 m1 m2 K2 K1 N1 N2 M1 M2
  go_wp2
  go_loopw [3, 4] (fun v i wx => ∃ k : Nat, k ≤ Lp ∧ i = .int .i64 k ∧ Acc w1 v (headB m ++ (m.pairs.take k).flatMap pairB) wx) (fun _ i _ => Lp - (intOf i).toNat)
  case atStart => exact ⟨0, by omega, rfl, by simpa using KH.out⟩
  case round =>
    obtain ⟨k, hk, rfl, hK⟩ := hrel
    have KP := Lib.hid hK
    clear hK KH
    obtain ⟨m0, m1, m2, m3, m4, m5, m6, m7⟩ := HC.out wr KP.out.pure
    rw [HP1.out, HLP.out] at m3
    by_cases hlt : k < Lp
    · have zk : (k : Int) < (Lp : Int) := by omega
      have hko : k < m.pairs.length := by rw [HLP.out]; exact hlt
      obtain ⟨q, o, rfl, hcc⟩ := HPP.out (by omega)
      obtain ⟨p, hp⟩ : ∃ p, m.pairs[k]? = some p := ⟨_, List.getElem?_eq_getElem hko⟩
      have hcp := hcc k p hp
      have hpf := HF.out.pairs p (List.mem_of_getElem? hp)
      have HPC := Lib.hid (fun (wx : World) (h : Only (fun _ => False) w wx) => hcp.only h (by simp))
      have HSN := Lib.hid (flat_take pairB m.pairs k p hp)
      have zp := hpf.1
      have zb := hpf.2
      have wp1 : IntKind.u64.wrap (p.pid : Int) = (p.pid : Int) := by rw [IntKind.wrap_u64]; omega
      have wp2 : IntKind.u64.wrap (p.blp : Int) = (p.blp : Int) := by rw [IntKind.wrap_u64]; omega
      clear hcp hcc hp hpf hko
      obtain ⟨q0, q1⟩ := HPC.out wr (only_more O1'.out KP.out.pure)
      go_upto_region 7 with (first | (go_at_call 62; refine (number_src 2 p.pid _ (by omega) (by omega) (by omega)).mono ?_; rintro e w44 ⟨A4, c4, rfl, hs4, ho4⟩; have N4 := Lib.hid hs4; have M4 := Lib.hid ho4; clear hs4 ho4) | (refine wpList_acc_src rfl _ _ rfl (KP.out.go M4.out) rfl _ (numB 2 p.pid) rfl N4.out.1 (by simp only [List.length_append, headB_len, numB_len, pairsB_len, ordersB_len, srcsB_len, List.length_take, List.length_cons, List.length_nil]; omega) ?_; intro v4 x4 hk4 _; have K4 := Lib.hid hk4; clear hk4))
      clear m0 m1 m2 m3 m4 m5 m6 m7 q0 q1
      obtain ⟨m0, m1, m2, m3, m4, m5, m6, m7⟩ := HC.out x4 K4.out.pure
      rw [HP1.out, HLP.out] at m3
      obtain ⟨q0, q1⟩ := HPC.out x4 (only_more O1'.out K4.out.pure)
      go_upto_region 5 with (first | (go_at_call 62; refine (number_src 2 p.blp _ (by omega) (by omega) (by omega)).mono ?_; rintro e w55 ⟨A5, c5, rfl, hs5, ho5⟩; have N5 := Lib.hid hs5; have M5 := Lib.hid ho5; clear hs5 ho5) | (refine wpList_acc_src rfl _ _ rfl (K4.out.go M5.out) rfl _ (numB 2 p.blp) rfl N5.out.1 (by simp only [List.length_append, headB_len, numB_len, pairsB_len, ordersB_len, srcsB_len, List.length_take, List.length_cons, List.length_nil]; omega) ?_; intro v5 x5 hk5 _; have K5 := Lib.hid hk5; clear hk5))
      clear m0 m1 m2 m3 m4 m5 m6 m7 q0 q1
      have KN := Lib.hid (show Acc w1 v5 (headB m ++ (m.pairs.take (k + 1)).flatMap pairB) x5 from by rw [HSN.out]; have h := K5.out; simpa only [pairB, List.append_assoc] using h)
      go_wp2
      exact ⟨⟨k + 1, by omega, by go_num, KN.out⟩, by simp [intOf]; omega⟩
    · obtain rfl : k = Lp := by omega
      have KQ := Lib.hid (show Acc w1 u3 (headB m ++ m.pairs.flatMap pairB) wr from by have h := KP.out; rwa [List.take_of_length_le (by rw [HLP.out]; exact Nat.le_refl _)] at h)
      clear hlt hk KP
      go_wp2
      go_loopw [3, 5] (fun v i wx => ∃ k : Nat, k ≤ Lo ∧ i = .int .i64 k ∧ Acc w1 v (headB m ++ (m.pairs.flatMap pairB ++ (m.orders.take k).flatMap orderB)) wx) (fun _ i _ => Lo - (intOf i).toNat)
      case atStart => exact ⟨0, by omega, rfl, by simpa using KQ.out⟩
      case round =>
        obtain ⟨k, hk, rfl, hK⟩ := hrel
        have KP := Lib.hid hK
        clear hK KQ m0 m1 m2 m3 m4 m5 m6 m7
        obtain ⟨m0, m1, m2, m3, m4, m5, m6, m7⟩ := HC.out wr KP.out.pure
        rw [HO1.out, HLO.out] at m4
        by_cases hlt : k < Lo
        · have zk : (k : Int) < (Lo : Int) := by omega
          have hko : k < m.orders.length := by rw [HLO.out]; exact hlt
          obtain ⟨q, o, rfl, hcc⟩ := HOO.out (by omega)
          obtain ⟨p, hp⟩ : ∃ p, m.orders[k]? = some p := ⟨_, List.getElem?_eq_getElem hko⟩
          have hcp := hcc k p hp
          have hpf := HF.out.orders p (List.mem_of_getElem? hp)
          have HPC := Lib.hid (fun (wx : World) (h : Only (fun _ => False) w wx) => hcp.only h (by simp))
          have HSN := Lib.hid (flat_take orderB m.orders k p hp)
          have zp := hpf.1
          have zb := hpf.2
          have wp1 : IntKind.u64.wrap (p.ssrc : Int) = (p.ssrc : Int) := by rw [IntKind.wrap_u64]; omega
          have HPL := Lib.hid (show m.pairs.length ≤ 1000 from by rw [HLP.out]; omega)
          clear hcp hcc hp hpf hko
          obtain ⟨q0, q1⟩ := HPC.out wr (only_more O1'.out KP.out.pure)
          go_upto_region 12 with (first | (go_at_call 62; refine (number_src 4 p.ssrc _ (by omega) (by omega) (by omega)).mono ?_; rintro e w66 ⟨A6, c6, rfl, hs6, ho6⟩; have N6 := Lib.hid hs6; have M6 := Lib.hid ho6; clear hs6 ho6) | (refine wpList_acc_src rfl _ _ rfl (KP.out.go M6.out) rfl _ (numB 4 p.ssrc) rfl N6.out.1 (by simp only [List.length_append, headB_len, numB_len, pairsB_len, ordersB_len, srcsB_len, List.length_take, List.length_cons, List.length_nil]; have := HPL.out; omega) ?_; intro v6 x6 hk6 _; have K6 := Lib.hid hk6; clear hk6))
          clear m0 m1 m2 m3 m4 m5 m6 m7 q0 q1
          obtain ⟨m0, m1, m2, m3, m4, m5, m6, m7⟩ := HC.out x6 K6.out.pure
          rw [HO1.out, HLO.out] at m4
          obtain ⟨q0, q1⟩ := HPC.out x6 (only_more O1'.out K6.out.pure)
          go_upto_region 10 with (refine wpList_acc_lit rfl _ _ rfl K6.out rfl [p.no, 0, 0, 0] rfl (by simp only [List.length_append, headB_len, numB_len, pairsB_len, ordersB_len, List.length_take, List.length_cons, List.length_nil]; have := HPL.out; omega) ?_; intro v7 x7 hk7 _; have K7 := Lib.hid hk7; clear hk7)
          clear m0 m1 m2 m3 m4 m5 m6 m7 q0 q1
          have KN := Lib.hid (show Acc w1 v7 (headB m ++ (m.pairs.flatMap pairB ++ (m.orders.take (k + 1)).flatMap orderB)) x7 from by rw [HSN.out]; have h := K7.out; simpa only [orderB, List.append_assoc] using h)
          go_wp2
          exact ⟨⟨k + 1, by omega, by go_num, KN.out⟩, by simp [intOf]; omega⟩
        · obtain rfl : k = Lo := by omega
          have KQ := Lib.hid (show Acc w1 u3 (partB m) wr from by have h := KP.out; rwa [List.take_of_length_le (by rw [HLO.out]; exact Nat.le_refl _)] at h)
          clear hlt hk KP
          by_cases hs4 : m.sort = 4
          · obtain ⟨r1, r2, r3⟩ := HR4.out hs4
            rw [HLS.out] at r1
            have b4 : ((m.sort : Int) == 4) = true := by simp [hs4]
            have HS4 := Lib.hid hs4
            have wl : IntKind.u8.wrap (Ls : Int) = (Ls : Int) := by rw [IntKind.wrap_u8]; omega
            have HBL := Lib.hid (show (partB m).length ≤ 100000 from by unfold partB; simp only [List.length_append, headB_len, pairsB_len, ordersB_len]; rw [HLP.out, HLO.out]; omega)
            obtain ⟨x, hx⟩ : ∃ x, m.exp * 262144 + m.mant = x := ⟨_, rfl⟩
            obtain ⟨y, hy⟩ : ∃ x, m.exp * 262144 = x := ⟨_, rfl⟩
            have HX := Lib.hid hx
            have e1 : IntKind.u64.wrap (m.exp : Int) = (m.exp : Int) := by rw [IntKind.wrap_u64]; omega
            have e2 : IntKind.u64.wrap (m.mant : Int) = (m.mant : Int) := by rw [IntKind.wrap_u64]; omega
            have e3 : (m.exp : Int) * 262144 = (y : Int) := by omega
            have e4 : IntKind.u64.wrap ((m.exp : Int) * 262144) = (y : Int) := by rw [IntKind.wrap_u64]; omega
            have e5 : (y : Int) + (m.mant : Int) = (x : Int) := by omega
            have e6 : IntKind.u64.wrap ((y : Int) + (m.mant : Int)) = (x : Int) := by rw [IntKind.wrap_u64]; omega
            have hxl : x < 16777216 := by omega
            clear hs4 hx hy
            rw [HS1.out, HLS.out] at m7
            go_upto_region 15 with (refine wpList_acc_lit rfl _ _ rfl KQ.out rfl [82, 69, 77, 66, Ls] rfl (by have := HBL.out; simp only [List.length_cons, List.length_nil]; omega) ?_; intro v8 x8 hk8 _; have K8 := Lib.hid hk8; clear hk8)
            clear m0 m1 m2 m3 m4 m5 m6 m7
            obtain ⟨m0, m1, m2, m3, m4, m5, m6, m7⟩ := HC.out x8 K8.out.pure
            go_upto_region 16 with (first | (go_at_call 62; refine (number_src 3 x _ (by omega) (by omega) (by omega)).mono ?_; rintro e w99 ⟨A9, c9, rfl, hs9, ho9⟩; have N9 := Lib.hid hs9; have M9 := Lib.hid ho9; clear hs9 ho9) | (refine wpList_acc_src rfl _ _ rfl (K8.out.go M9.out) rfl _ (numB 3 x) rfl N9.out.1 (by have := HBL.out; simp only [List.length_append, numB_len, List.length_cons, List.length_nil]; omega) ?_; intro v9 x9 hk9 _; have K9 := Lib.hid hk9; clear hk9))
            clear m0 m1 m2 m3 m4 m5 m6 m7
            go_wp2
            go_loopw [3, 6] (fun v i wx => ∃ k : Nat, k ≤ Ls ∧ i = .int .i64 k ∧ Acc w1 v (partB m ++ [82, 69, 77, 66, Ls] ++ numB 3 x ++ (m.srcs.take k).flatMap (numB 4)) wx) (fun _ i _ => Ls - (intOf i).toNat)
            case atStart => exact ⟨0, by omega, rfl, by simpa using K9.out⟩
            case round =>
              obtain ⟨k, hk, rfl, hK⟩ := hrel
              have KP := Lib.hid hK
              clear hK
              obtain ⟨m0, m1, m2, m3, m4, m5, m6, m7⟩ := HC.out wr KP.out.pure
              rw [HS1.out, HLS.out] at m7
              by_cases hlt : k < Ls
              · have zk : (k : Int) < (Ls : Int) := by omega
                have hko : k < m.srcs.length := by rw [HLS.out]; exact hlt
                obtain ⟨q, o, rfl, hcc⟩ := HSS.out (by rw [nats_length]; omega)
                obtain ⟨p, hp⟩ : ∃ p, m.srcs[k]? = some p := ⟨_, List.getElem?_eq_getElem hko⟩
                have hcp := hcc k (by rw [nats_length]; exact hko)
                rw [show (nats m.srcs)[k]'(by rw [nats_length]; exact hko) = (p : Int) by simp [nats]; exact_mod_cast (List.getElem?_eq_some_iff.1 hp).2] at hcp
                have hpf := HF.out.srcs p (List.mem_of_getElem? hp)
                have HSN := Lib.hid (flat_take (numB 4) m.srcs k p hp)
                have wp1 : IntKind.u64.wrap (p : Int) = (p : Int) := by rw [IntKind.wrap_u64]; omega
                have hqw : q < w.heap.size := World.block_lt_of_cell? w _ hcp
                have q0 := ((only_more O1'.out KP.out.pure).cell (p := ⟨q, o + k, none⟩) hqw (by simp)).trans hcp
                clear hcp hcc hp hko hqw
                go_upto_region 18 with (first | (go_at_call 62; refine (number_src 4 p _ (by omega) (by omega) (by omega)).mono ?_; rintro e w1010 ⟨A10, c10, rfl, hs10, ho10⟩; have N10 := Lib.hid hs10; have M10 := Lib.hid ho10; clear hs10 ho10) | (refine wpList_acc_src rfl _ _ rfl (KP.out.go M10.out) rfl _ (numB 4 p) rfl N10.out.1 (by have := HBL.out; simp only [List.length_append, numB_len, srcsB_len, List.length_take, List.length_cons, List.length_nil]; omega) ?_; intro v10 x10 hk10 _; have K10 := Lib.hid hk10; clear hk10))
                clear m0 m1 m2 m3 m4 m5 m6 m7 q0
                have KN := Lib.hid (show Acc w1 v10 (partB m ++ [82, 69, 77, 66, Ls] ++ numB 3 x ++ (m.srcs.take (k + 1)).flatMap (numB 4)) x10 from by rw [HSN.out, ← List.append_assoc]; exact K10.out)
                go_wp2
                exact ⟨⟨k + 1, by omega, by go_num, KN.out⟩, by simp [intOf]; omega⟩
              · obtain rfl : k = Ls := by omega
                have KE := Lib.hid (show Acc w1 u3 (bodyB m) wr from by
                  have h := KP.out
                  rw [List.take_of_length_le (by rw [HLS.out]; exact Nat.le_refl _)] at h
                  unfold bodyB rateB
                  rw [if_pos HS4.out, HX.out, HLS.out]
                  simpa only [List.append_assoc] using h)
                clear KP
                go_wp2
                go_ret
                exact ⟨_, rfl, owned_low KE.out.own O1'.out.size, only_more O1'.out KE.out.pure⟩
          · have b4 : ((m.sort : Int) == 4) = false := by simp; omega
            have KE := Lib.hid (show Acc w1 u3 (bodyB m) wr from by unfold bodyB; rw [if_neg hs4, List.append_nil]; exact KQ.out)
            go_wp2
            go_ret
            exact ⟨_, rfl, owned_low KE.out.own O1'.out.size, only_more O1'.out KE.out.pure⟩
end Go.Proofs.Ytefcimkopgcagaa
