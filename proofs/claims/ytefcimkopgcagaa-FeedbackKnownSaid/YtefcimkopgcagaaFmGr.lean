/- Merged of FcM FcN FcO FcQa. Conditions: as each says. -/
import Derived.Test.YtefcimkopgcagaaFcGr
import Derived.Test.YtefcimkopgcagaaFcD
import Derived.Test.YtefcimkopgcagaaBase
import Derived.Test.YtefcimkopgcagaaRcFk
/- easelref07.body: the bytes of a message. Conditions: as it says. -/
set_option linter.unusedVariables false
set_option linter.unusedSimpArgs false
namespace Go.Proofs.Ytefcimkopgcagaa
open Go.RowKit

theorem number_src (k n : Nat) (w : World) (hk : k ≤ 8) (hk1 : 1 ≤ k) (hn : n ≤ 18446744073709551615) :
    Calls Try.prog 62 #[.int .u64 n, .int .i64 k] w fun e w' => ∃ A c, e = .returned (.slice A k c) ∧ (Src w' (.slice A k c) (numB k n) ∧ w'.ownsRow w.heap.size 5 1 (.slice A k c) (numB k n).length (cellsOf (numB k n))) ∧ Only (fun _ => False) w w' := by
  refine (number_is k n w hk hk1 hn).mono ?_
  rintro e w' ⟨A, c, rfl, h, ho⟩
  have h' : w'.ownsRow w.heap.size 5 1 (.slice A k c) (numB k n).length (cellsOf (numB k n)) := by rw [numB_len]; exact h
  exact ⟨A, c, rfl, ⟨Src.of_own h', h'⟩, ho⟩
def pairB (p : Pr) : List Nat := numB 2 p.pid ++ numB 2 p.blp
def orderB (p : Od) : List Nat := numB 4 p.ssrc ++ [p.no, 0, 0, 0]
theorem pairsB_len : ∀ (l : List Pr), (l.flatMap pairB).length = 4 * l.length
  | [] => rfl
  | p :: l => by rw [List.flatMap_cons, List.length_append, pairsB_len l, List.length_cons]; unfold pairB; rw [List.length_append, numB_len, numB_len]; omega
theorem ordersB_len : ∀ (l : List Od), (l.flatMap orderB).length = 8 * l.length
  | [] => rfl
  | p :: l => by rw [List.flatMap_cons, List.length_append, ordersB_len l, List.length_cons]; unfold orderB; rw [List.length_append, numB_len]; simp only [List.length_cons, List.length_nil]; omega
theorem srcsB_len : ∀ (l : List Nat), (l.flatMap (numB 4)).length = 4 * l.length
  | [] => rfl
  | p :: l => by rw [List.flatMap_cons, List.length_append, srcsB_len l, List.length_cons, numB_len]; omega
def rateB (m : Ms) : List Nat := [82, 69, 77, 66, m.srcs.length] ++ (numB 3 (m.exp * 262144 + m.mant) ++ m.srcs.flatMap (numB 4))
def headB (m : Ms) : List Nat := numB 4 m.sender ++ numB 4 m.media
theorem headB_len (m : Ms) : (headB m).length = 8 := by unfold headB; rw [List.length_append, numB_len, numB_len]
def partB (m : Ms) : List Nat := headB m ++ (m.pairs.flatMap pairB ++ m.orders.flatMap orderB)
def bodyB (m : Ms) : List Nat := partB m ++ (if m.sort = 4 then rateB m else [])

set_option maxRecDepth 100000 in
set_option maxHeartbeats 8000000 in
theorem rbody_is (m : Ms) (p1 o1 s1 : Value) (w : World) (h1 : RdM m p1 o1 s1 w) (hl : m.pairs.length ≤ 1000 ∧ m.orders.length ≤ 1000 ∧ m.srcs.length ≤ 1000) (hf : MFit m) (hr4 : m.sort = 4 → m.srcs.length ≤ 255 ∧ m.exp ≤ 63 ∧ m.mant < 262144) :
    Calls Try.prog 42 #[.agg (m.cls p1 o1 s1)] w fun e w' => ∃ v, e = .returned v ∧ Acc w v (bodyB m) w' := by
  have HRD := Lib.hid h1
  have HF := Lib.hid hf
  have HR4 := Lib.hid hr4
  have zs := hf.snd
  have zm := hf.med
  have ws : IntKind.u64.wrap (m.sender : Int) = (m.sender : Int) := by rw [IntKind.wrap_u64]; omega
  have wm : IntKind.u64.wrap (m.media : Int) = (m.media : Int) := by rw [IntKind.wrap_u64]; omega
  obtain ⟨P1, d1, hp1, -, hpp⟩ := h1.p
  obtain ⟨O1, e1, ho1, -, hoo⟩ := h1.o
  obtain ⟨S1, f1, hs1, -, hss⟩ := h1.s
  rw [nats_length] at hs1
  have HPP := Lib.hid hpp
  have HOO := Lib.hid hoo
  have HSS := Lib.hid hss
  have HP1 := Lib.hid hp1
  have HO1 := Lib.hid ho1
  have HS1 := Lib.hid hs1
  obtain ⟨Lp, hLp⟩ : ∃ n, m.pairs.length = n := ⟨_, rfl⟩
  obtain ⟨Lo, hLo⟩ : ∃ n, m.orders.length = n := ⟨_, rfl⟩
  obtain ⟨Ls, hLs⟩ : ∃ n, m.srcs.length = n := ⟨_, rfl⟩
  have HLP := Lib.hid hLp
  have HLO := Lib.hid hLo
  have HLS := Lib.hid hLs
  rw [hLp, hLo, hLs] at hl
  obtain ⟨hl1, hl2, hl3⟩ := hl
  obtain ⟨A, hA⟩ : ∃ a, m.cls p1 o1 s1 = a := ⟨_, rfl⟩
  have HA := Lib.hid hA
  rw [hA]
  clear hA h1 hf hr4 hp1 ho1 hs1 hpp hoo hss hLp hLo hLs
  go_enter Try.func42, Try.ntmps42
  go_upto_region 1 with (fail)
  obtain ⟨mb, hmb⟩ : ∃ g, w.heap.size = g := ⟨_, rfl⟩
  generalize hw1 : World.alloc _ _ = w1
  have I1 := Lib.hid (show Is w1 mb 33 (m.cls p1 o1 s1) from by rw [← hw1, ← hmb, HA.out]; exact Is.made _ _ _)
  have O1' := Lib.hid (show Only (fun _ => False) w w1 from by rw [← hw1]; exact (Only.refl _ _).alloc _)
  rw [hmb]
  clear hw1 hmb
  have HC := Lib.hid (fun (wx : World) (h : Only (fun _ => False) w1 wx) => cls_cells (I1.out.only h (by simp)))
  obtain ⟨m0, m1, m2, -, -, -, -, -⟩ := HC.out w1 (Only.refl _ _)
  go_upto_region 2 with (go_at_call 62; refine (number_src 4 m.sender _ (by omega) (by omega) (by omega)).mono ?_; rintro e w11 ⟨A1, c1, rfl, hs1, ho1⟩; have N1 := Lib.hid hs1; have M1 := Lib.hid ho1; clear hs1 ho1)
  have K1 := Lib.hid (show Acc w1 (.slice A1 4 c1) (numB 4 m.sender) w11 from ⟨N1.out.2, M1.out⟩)
  clear m0 m1 m2
  obtain ⟨m0, m1, m2, -, -, -, -, -⟩ := HC.out w11 M1.out
  go_upto_region 3 with (first | (go_at_call 62; refine (number_src 4 m.media _ (by omega) (by omega) (by omega)).mono ?_; rintro e w22 ⟨A2, c2, rfl, hs2, ho2⟩; have N2 := Lib.hid hs2; have M2 := Lib.hid ho2; clear hs2 ho2) | (refine wpList_acc_src rfl _ _ rfl (K1.out.go M2.out) rfl _ (numB 4 m.media) rfl N2.out.1 (by simp only [List.length_append, headB_len, numB_len, pairsB_len, ordersB_len, srcsB_len, List.length_take, List.length_cons, List.length_nil]; omega) ?_; intro v2 x2 hk2 _; have K2 := Lib.hid hk2; clear hk2))
  have KH := Lib.hid (show Acc w1 v2 (headB m) x2 from K2.out)
  clear m0 m1 m2 K2 K1 N1 N2 M1 M2
  go_wp2
  go_loopw [3, 4] (fun v i wx => ∃ k : Nat, k ≤ Lp ∧ i = .int .i64 k ∧ Acc w1 v (headB m ++ (m.pairs.take k).flatMap pairB) wx) (fun _ i _ => Lp - (intOf i).toNat)
  case atStart => exact ⟨0, by omega, rfl, by simpa using KH.out⟩
  case round =>
    obtain ⟨k, hk, rfl, hK⟩ := hrel
    have KP := Lib.hid hK
    clear hK KH
    obtain ⟨m0, m1, m2, m3, m4, m5, m6, m7⟩ := HC.out wr KP.out.pure
    rw [HP1.out, HLP.out] at m3
    by_cases hlt : k < Lp
    · have zk : (k : Int) < (Lp : Int) := by omega
      have hko : k < m.pairs.length := by rw [HLP.out]; exact hlt
      obtain ⟨q, o, rfl, hcc⟩ := HPP.out (by omega)
      obtain ⟨p, hp⟩ : ∃ p, m.pairs[k]? = some p := ⟨_, List.getElem?_eq_getElem hko⟩
      have hcp := hcc k p hp
      have hpf := HF.out.pairs p (List.mem_of_getElem? hp)
      have HPC := Lib.hid (fun (wx : World) (h : Only (fun _ => False) w wx) => hcp.only h (by simp))
      have HSN := Lib.hid (flat_take pairB m.pairs k p hp)
      have zp := hpf.1
      have zb := hpf.2
      have wp1 : IntKind.u64.wrap (p.pid : Int) = (p.pid : Int) := by rw [IntKind.wrap_u64]; omega
      have wp2 : IntKind.u64.wrap (p.blp : Int) = (p.blp : Int) := by rw [IntKind.wrap_u64]; omega
      clear hcp hcc hp hpf hko
      obtain ⟨q0, q1⟩ := HPC.out wr (only_more O1'.out KP.out.pure)
      go_upto_region 7 with (first | (go_at_call 62; refine (number_src 2 p.pid _ (by omega) (by omega) (by omega)).mono ?_; rintro e w44 ⟨A4, c4, rfl, hs4, ho4⟩; have N4 := Lib.hid hs4; have M4 := Lib.hid ho4; clear hs4 ho4) | (refine wpList_acc_src rfl _ _ rfl (KP.out.go M4.out) rfl _ (numB 2 p.pid) rfl N4.out.1 (by simp only [List.length_append, headB_len, numB_len, pairsB_len, ordersB_len, srcsB_len, List.length_take, List.length_cons, List.length_nil]; omega) ?_; intro v4 x4 hk4 _; have K4 := Lib.hid hk4; clear hk4))
      clear m0 m1 m2 m3 m4 m5 m6 m7 q0 q1
      obtain ⟨m0, m1, m2, m3, m4, m5, m6, m7⟩ := HC.out x4 K4.out.pure
      rw [HP1.out, HLP.out] at m3
      obtain ⟨q0, q1⟩ := HPC.out x4 (only_more O1'.out K4.out.pure)
      go_upto_region 5 with (first | (go_at_call 62; refine (number_src 2 p.blp _ (by omega) (by omega) (by omega)).mono ?_; rintro e w55 ⟨A5, c5, rfl, hs5, ho5⟩; have N5 := Lib.hid hs5; have M5 := Lib.hid ho5; clear hs5 ho5) | (refine wpList_acc_src rfl _ _ rfl (K4.out.go M5.out) rfl _ (numB 2 p.blp) rfl N5.out.1 (by simp only [List.length_append, headB_len, numB_len, pairsB_len, ordersB_len, srcsB_len, List.length_take, List.length_cons, List.length_nil]; omega) ?_; intro v5 x5 hk5 _; have K5 := Lib.hid hk5; clear hk5))
      clear m0 m1 m2 m3 m4 m5 m6 m7 q0 q1
      have KN := Lib.hid (show Acc w1 v5 (headB m ++ (m.pairs.take (k + 1)).flatMap pairB) x5 from by rw [HSN.out]; have h := K5.out; simpa only [pairB, List.append_assoc] using h)
      go_wp2
      exact ⟨⟨k + 1, by omega, by go_num, KN.out⟩, by simp [intOf]; omega⟩
    · obtain rfl : k = Lp := by omega
      have KQ := Lib.hid (show Acc w1 u3 (headB m ++ m.pairs.flatMap pairB) wr from by have h := KP.out; rwa [List.take_of_length_le (by rw [HLP.out]; exact Nat.le_refl _)] at h)
      clear hlt hk KP
      go_wp2
      go_loopw [3, 5] (fun v i wx => ∃ k : Nat, k ≤ Lo ∧ i = .int .i64 k ∧ Acc w1 v (headB m ++ (m.pairs.flatMap pairB ++ (m.orders.take k).flatMap orderB)) wx) (fun _ i _ => Lo - (intOf i).toNat)
      case atStart => exact ⟨0, by omega, rfl, by simpa using KQ.out⟩
      case round =>
        obtain ⟨k, hk, rfl, hK⟩ := hrel
        have KP := Lib.hid hK
        clear hK KQ m0 m1 m2 m3 m4 m5 m6 m7
        obtain ⟨m0, m1, m2, m3, m4, m5, m6, m7⟩ := HC.out wr KP.out.pure
        rw [HO1.out, HLO.out] at m4
        by_cases hlt : k < Lo
        · have zk : (k : Int) < (Lo : Int) := by omega
          have hko : k < m.orders.length := by rw [HLO.out]; exact hlt
          obtain ⟨q, o, rfl, hcc⟩ := HOO.out (by omega)
          obtain ⟨p, hp⟩ : ∃ p, m.orders[k]? = some p := ⟨_, List.getElem?_eq_getElem hko⟩
          have hcp := hcc k p hp
          have hpf := HF.out.orders p (List.mem_of_getElem? hp)
          have HPC := Lib.hid (fun (wx : World) (h : Only (fun _ => False) w wx) => hcp.only h (by simp))
          have HSN := Lib.hid (flat_take orderB m.orders k p hp)
          have zp := hpf.1
          have zb := hpf.2
          have wp1 : IntKind.u64.wrap (p.ssrc : Int) = (p.ssrc : Int) := by rw [IntKind.wrap_u64]; omega
          have HPL := Lib.hid (show m.pairs.length ≤ 1000 from by rw [HLP.out]; omega)
          clear hcp hcc hp hpf hko
          obtain ⟨q0, q1⟩ := HPC.out wr (only_more O1'.out KP.out.pure)
          go_upto_region 12 with (first | (go_at_call 62; refine (number_src 4 p.ssrc _ (by omega) (by omega) (by omega)).mono ?_; rintro e w66 ⟨A6, c6, rfl, hs6, ho6⟩; have N6 := Lib.hid hs6; have M6 := Lib.hid ho6; clear hs6 ho6) | (refine wpList_acc_src rfl _ _ rfl (KP.out.go M6.out) rfl _ (numB 4 p.ssrc) rfl N6.out.1 (by simp only [List.length_append, headB_len, numB_len, pairsB_len, ordersB_len, srcsB_len, List.length_take, List.length_cons, List.length_nil]; have := HPL.out; omega) ?_; intro v6 x6 hk6 _; have K6 := Lib.hid hk6; clear hk6))
          clear m0 m1 m2 m3 m4 m5 m6 m7 q0 q1
          obtain ⟨m0, m1, m2, m3, m4, m5, m6, m7⟩ := HC.out x6 K6.out.pure
          rw [HO1.out, HLO.out] at m4
          obtain ⟨q0, q1⟩ := HPC.out x6 (only_more O1'.out K6.out.pure)
          go_upto_region 10 with (refine wpList_acc_lit rfl _ _ rfl K6.out rfl [p.no, 0, 0, 0] rfl (by simp only [List.length_append, headB_len, numB_len, pairsB_len, ordersB_len, List.length_take, List.length_cons, List.length_nil]; have := HPL.out; omega) ?_; intro v7 x7 hk7 _; have K7 := Lib.hid hk7; clear hk7)
          clear m0 m1 m2 m3 m4 m5 m6 m7 q0 q1
          have KN := Lib.hid (show Acc w1 v7 (headB m ++ (m.pairs.flatMap pairB ++ (m.orders.take (k + 1)).flatMap orderB)) x7 from by rw [HSN.out]; have h := K7.out; simpa only [orderB, List.append_assoc] using h)
          go_wp2
          exact ⟨⟨k + 1, by omega, by go_num, KN.out⟩, by simp [intOf]; omega⟩
        · obtain rfl : k = Lo := by omega
          have KQ := Lib.hid (show Acc w1 u3 (partB m) wr from by have h := KP.out; rwa [List.take_of_length_le (by rw [HLO.out]; exact Nat.le_refl _)] at h)
          clear hlt hk KP
          by_cases hs4 : m.sort = 4
          · obtain ⟨r1, r2, r3⟩ := HR4.out hs4
            rw [HLS.out] at r1
            have b4 : ((m.sort : Int) == 4) = true := by simp [hs4]
            have HS4 := Lib.hid hs4
            have wl : IntKind.u8.wrap (Ls : Int) = (Ls : Int) := by rw [IntKind.wrap_u8]; omega
            have HBL := Lib.hid (show (partB m).length ≤ 100000 from by unfold partB; simp only [List.length_append, headB_len, pairsB_len, ordersB_len]; rw [HLP.out, HLO.out]; omega)
            obtain ⟨x, hx⟩ : ∃ x, m.exp * 262144 + m.mant = x := ⟨_, rfl⟩
            obtain ⟨y, hy⟩ : ∃ x, m.exp * 262144 = x := ⟨_, rfl⟩
            have HX := Lib.hid hx
            have e1 : IntKind.u64.wrap (m.exp : Int) = (m.exp : Int) := by rw [IntKind.wrap_u64]; omega
            have e2 : IntKind.u64.wrap (m.mant : Int) = (m.mant : Int) := by rw [IntKind.wrap_u64]; omega
            have e3 : (m.exp : Int) * 262144 = (y : Int) := by omega
            have e4 : IntKind.u64.wrap ((m.exp : Int) * 262144) = (y : Int) := by rw [IntKind.wrap_u64]; omega
            have e5 : (y : Int) + (m.mant : Int) = (x : Int) := by omega
            have e6 : IntKind.u64.wrap ((y : Int) + (m.mant : Int)) = (x : Int) := by rw [IntKind.wrap_u64]; omega
            have hxl : x < 16777216 := by omega
            clear hs4 hx hy
            rw [HS1.out, HLS.out] at m7
            go_upto_region 15 with (refine wpList_acc_lit rfl _ _ rfl KQ.out rfl [82, 69, 77, 66, Ls] rfl (by have := HBL.out; simp only [List.length_cons, List.length_nil]; omega) ?_; intro v8 x8 hk8 _; have K8 := Lib.hid hk8; clear hk8)
            clear m0 m1 m2 m3 m4 m5 m6 m7
            obtain ⟨m0, m1, m2, m3, m4, m5, m6, m7⟩ := HC.out x8 K8.out.pure
            go_upto_region 16 with (first | (go_at_call 62; refine (number_src 3 x _ (by omega) (by omega) (by omega)).mono ?_; rintro e w99 ⟨A9, c9, rfl, hs9, ho9⟩; have N9 := Lib.hid hs9; have M9 := Lib.hid ho9; clear hs9 ho9) | (refine wpList_acc_src rfl _ _ rfl (K8.out.go M9.out) rfl _ (numB 3 x) rfl N9.out.1 (by have := HBL.out; simp only [List.length_append, numB_len, List.length_cons, List.length_nil]; omega) ?_; intro v9 x9 hk9 _; have K9 := Lib.hid hk9; clear hk9))
            clear m0 m1 m2 m3 m4 m5 m6 m7
            go_wp2
            go_loopw [3, 6] (fun v i wx => ∃ k : Nat, k ≤ Ls ∧ i = .int .i64 k ∧ Acc w1 v (partB m ++ [82, 69, 77, 66, Ls] ++ numB 3 x ++ (m.srcs.take k).flatMap (numB 4)) wx) (fun _ i _ => Ls - (intOf i).toNat)
            case atStart => exact ⟨0, by omega, rfl, by simpa using K9.out⟩
            case round =>
              obtain ⟨k, hk, rfl, hK⟩ := hrel
              have KP := Lib.hid hK
              clear hK
              obtain ⟨m0, m1, m2, m3, m4, m5, m6, m7⟩ := HC.out wr KP.out.pure
              rw [HS1.out, HLS.out] at m7
              by_cases hlt : k < Ls
              · have zk : (k : Int) < (Ls : Int) := by omega
                have hko : k < m.srcs.length := by rw [HLS.out]; exact hlt
                obtain ⟨q, o, rfl, hcc⟩ := HSS.out (by rw [nats_length]; omega)
                obtain ⟨p, hp⟩ : ∃ p, m.srcs[k]? = some p := ⟨_, List.getElem?_eq_getElem hko⟩
                have hcp := hcc k (by rw [nats_length]; exact hko)
                rw [show (nats m.srcs)[k]'(by rw [nats_length]; exact hko) = (p : Int) by simp [nats]; exact_mod_cast (List.getElem?_eq_some_iff.1 hp).2] at hcp
                have hpf := HF.out.srcs p (List.mem_of_getElem? hp)
                have HSN := Lib.hid (flat_take (numB 4) m.srcs k p hp)
                have wp1 : IntKind.u64.wrap (p : Int) = (p : Int) := by rw [IntKind.wrap_u64]; omega
                have hqw : q < w.heap.size := World.block_lt_of_cell? w _ hcp
                have q0 := ((only_more O1'.out KP.out.pure).cell (p := ⟨q, o + k, none⟩) hqw (by simp)).trans hcp
                clear hcp hcc hp hko hqw
                go_upto_region 18 with (first | (go_at_call 62; refine (number_src 4 p _ (by omega) (by omega) (by omega)).mono ?_; rintro e w1010 ⟨A10, c10, rfl, hs10, ho10⟩; have N10 := Lib.hid hs10; have M10 := Lib.hid ho10; clear hs10 ho10) | (refine wpList_acc_src rfl _ _ rfl (KP.out.go M10.out) rfl _ (numB 4 p) rfl N10.out.1 (by have := HBL.out; simp only [List.length_append, numB_len, srcsB_len, List.length_take, List.length_cons, List.length_nil]; omega) ?_; intro v10 x10 hk10 _; have K10 := Lib.hid hk10; clear hk10))
                clear m0 m1 m2 m3 m4 m5 m6 m7 q0
                have KN := Lib.hid (show Acc w1 v10 (partB m ++ [82, 69, 77, 66, Ls] ++ numB 3 x ++ (m.srcs.take (k + 1)).flatMap (numB 4)) x10 from by rw [HSN.out, ← List.append_assoc]; exact K10.out)
                go_wp2
                exact ⟨⟨k + 1, by omega, by go_num, KN.out⟩, by simp [intOf]; omega⟩
              · obtain rfl : k = Ls := by omega
                have KE := Lib.hid (show Acc w1 u3 (bodyB m) wr from by
                  have h := KP.out
                  rw [List.take_of_length_le (by rw [HLS.out]; exact Nat.le_refl _)] at h
                  unfold bodyB rateB
                  rw [if_pos HS4.out, HX.out, HLS.out]
                  simpa only [List.append_assoc] using h)
                clear KP
                go_wp2
                go_ret
                exact ⟨_, rfl, owned_low KE.out.own O1'.out.size, only_more O1'.out KE.out.pure⟩
          · have b4 : ((m.sort : Int) == 4) = false := by simp; omega
            have KE := Lib.hid (show Acc w1 u3 (bodyB m) wr from by unfold bodyB; rw [if_neg hs4, List.append_nil]; exact KQ.out)
            go_wp2
            go_ret
            exact ⟨_, rfl, owned_low KE.out.own O1'.out.size, only_more O1'.out KE.out.pure⟩
end Go.Proofs.Ytefcimkopgcagaa

/- What the reference puts has the digits of what is put. Conditions: as each says. -/
set_option linter.unusedVariables false
set_option linter.unusedSimpArgs false
namespace Go.Proofs.Ytefcimkopgcagaa
open Go.RowKit

theorem digs8_inj2 (a b : Nat) (ha : a < 256) (hb : b < 256) (h : digs 8 a = digs 8 b) : a = b := by
  have h1 := congrArg val h
  rw [val_digs, val_digs] at h1
  have e8 : 2 ^ 8 = 256 := by decide
  rw [e8] at h1
  omega
theorem D_inj2 : ∀ (a b : List Nat), (∀ x ∈ a, x < 256) → (∀ x ∈ b, x < 256) → D a = D b → a = b
  | [], [], _, _, _ => rfl
  | [], y :: b, _, _, h => by
    have := congrArg List.length h
    rw [D_length, D_length] at this
    simp at this
  | x :: a, [], _, _, h => by
    have := congrArg List.length h
    rw [D_length, D_length] at this
    simp at this
  | x :: a, y :: b, ha, hb, h => by
    rw [D_cons, D_cons] at h
    obtain ⟨h1, h2⟩ := List.append_inj h (by rw [digs_length, digs_length])
    rw [digs8_inj2 x y (ha x (by simp)) (hb y (by simp)) h1, D_inj2 a b (fun z hz => ha z (by simp [hz])) (fun z hz => hb z (by simp [hz])) h2]
/-- Digits make the same bytes. -/
theorem Wrote.unique2 {a b d : List Nat} (h : Wrote a d) (k : Wrote b d) : a = b := by
  refine D_inj2 a b h.bytes k.bytes ?_
  rw [h.digits, k.digits, h.rows, k.rows]

theorem D_numB : ∀ (k n : Nat), D (numB k n) = digs (8 * k) n
  | 0, _ => rfl
  | k + 1, n => by
    show D (numB k (n / 256) ++ [n % 256]) = _
    rw [D_last, D_numB k, show 8 * (k + 1) = 8 * k + 8 by omega, digs_add]
    congr 1
    exact digs_mod 8 8 n (Nat.le_refl _)
theorem numB_lt : ∀ (k n : Nat), ∀ x ∈ numB k n, x < 256
  | 0, _, x, h => by cases h
  | k + 1, n, x, h => by
    have h : x ∈ numB k (n / 256) ++ [n % 256] := h
    rcases List.mem_append.1 h with h | h
    · exact numB_lt k _ x h
    · have : x = n % 256 := by simpa using h
      rw [this]
      exact Nat.mod_lt _ (by decide)
theorem D_flat {α : Type} (f g : α → List Nat) : ∀ (l : List α), (∀ x ∈ l, D (f x) = g x) → D (l.flatMap f) = l.flatMap g
  | [], _ => rfl
  | x :: l, h => by
    rw [List.flatMap_cons, List.flatMap_cons, D_append, h x (by simp), D_flat f g l (fun y hy => h y (by simp [hy]))]
theorem D_pair (p : Pr) : D (pairB p) = pairD p := by
  unfold pairB pairD
  rw [D_append, D_numB, D_numB]
theorem D_order (p : Od) : D (orderB p) = orderD p := by
  unfold orderB orderD
  rw [D_append, D_numB, D_cons]
  rfl
theorem D_head (a b : Nat) : D (numB 4 a ++ numB 4 b) = digs 32 a ++ digs 32 b := by rw [D_append, D_numB, D_numB]
theorem digs_rate (e t : Nat) (ht : t < 262144) : digs 24 (e * 262144 + t) = digs 6 e ++ digs 18 t := by
  have h := digs_add 6 18 (e * 262144 + t)
  rw [show 6 + 18 = 24 from rfl] at h
  have e18 : 2 ^ 18 = 262144 := by decide
  rw [h, e18, show (e * 262144 + t) / 262144 = e by omega]
  congr 1
  have h2 := digs_mod 18 18 (e * 262144 + t) (Nat.le_refl _)
  rw [e18, show (e * 262144 + t) % 262144 = t by omega] at h2
  exact h2.symm
theorem body_put (m : Ms) (h : rightMs m = true) : D (bodyB m) = putD m := by
  unfold rightMs okMs at h
  have h := of_decide_eq_true h
  have hn : ∀ {α : Type} {l : List α}, l.length = 0 → l = [] := fun e => List.eq_nil_of_length_eq_zero e
  unfold bodyB partB headB putD partD headD nmOf
  rcases h with ⟨h1, h2, h3, h4, h5, -⟩ | ⟨h1, h2, h3, -⟩ | ⟨h1, h2, h3, -⟩ | ⟨h1, h2, h3, -, -, h7⟩
  · rw [hn h4, h1]
    simp only [Nat.reduceEqDiff, if_false, if_true, List.flatMap_nil, List.append_nil, D_append, D_numB, D_flat pairB pairD _ (fun x _ => D_pair x), List.append_assoc]
    rfl
  · rw [hn h2, hn h3, h1]
    simp only [Nat.reduceEqDiff, if_false, if_true, List.flatMap_nil, List.append_nil, D_append, D_numB]
    rfl
  · rw [hn h2, h1]
    simp only [Nat.reduceEqDiff, if_false, if_true, List.flatMap_nil, List.append_nil, List.nil_append, D_append, D_numB, D_flat orderB orderD _ (fun x _ => D_order x), List.append_assoc]
    rfl
  · rw [hn h2, hn h3, h1]
    unfold rateB rateD
    have hr := digs_rate m.exp m.mant (by omega)
    simp only [if_true, Nat.reduceEqDiff, if_false, List.flatMap_nil, List.append_nil, D_append, D_numB, D_flat (numB 4) (digs 32) _ (fun x _ => D_numB 4 x), List.append_assoc, hr]
    rfl
theorem bytes_of {f : Nat → List Nat} (l : List Nat) (h : ∀ y, ∀ x ∈ f y, x < 256) : ∀ x ∈ l.flatMap f, x < 256 := by
  intro x hx
  obtain ⟨y, _, hy⟩ := List.mem_flatMap.1 hx
  exact h y x hy
theorem body_bytes (m : Ms) (hf : MFit m) (hs : m.srcs.length < 256) : ∀ x ∈ bodyB m, x < 256 := by
  intro x hx
  unfold bodyB partB headB at hx
  simp only [List.mem_append] at hx
  rcases hx with ((h | h) | h | h) | h
  · exact numB_lt _ _ x h
  · exact numB_lt _ _ x h
  · obtain ⟨p, _, hp⟩ := List.mem_flatMap.1 h
    rcases List.mem_append.1 hp with h | h
    · exact numB_lt _ _ x h
    · exact numB_lt _ _ x h
  · obtain ⟨p, hp0, hp⟩ := List.mem_flatMap.1 h
    rcases List.mem_append.1 hp with h | h
    · exact numB_lt _ _ x h
    · have hno := (hf.orders p hp0).2
      simp only [List.mem_cons, List.mem_nil_iff, or_false] at h
      omega
  · split at h
    · unfold rateB at h
      rcases List.mem_append.1 h with h | h
      · simp only [List.mem_cons, List.mem_nil_iff, or_false] at h
        omega
      · rcases List.mem_append.1 h with h | h
        · exact numB_lt _ _ x h
        · exact bytes_of _ (fun y => numB_lt 4 y) x h
    · cases h
theorem body_len (m : Ms) : (D (bodyB m)).length = 8 * (bodyB m).length := D_length _
/-- The same bytes. -/
theorem body_same (m : Ms) (hf : MFit m) (h : rightMs m = true) {bs : List Nat} (hw : Wrote bs (putD m)) : bs = bodyB m := by
  have hs : m.srcs.length < 256 := by
    unfold rightMs okMs at h
    have := of_decide_eq_true h
    omega
  refine hw.unique2 ⟨?_, ?_, body_bytes m hf hs⟩
  · rw [body_put m h, ← body_put m h, D_length, Nat.sub_self]
    simp
  · rw [← body_put m h, D_length]
    omega
end Go.Proofs.Ytefcimkopgcagaa

/- easelref07.Put. Conditions: as each says. -/
set_option linter.unusedVariables false
set_option linter.unusedSimpArgs false
namespace Go.Proofs.Ytefcimkopgcagaa
open Go.RowKit

/-- What is answered of a struct and one more. -/
theorem res_cell1p {P : Program} {fn : Func} {p q : Tmp} {ty : TypeId} (h : fn.results = #[.cell p ty, .tmp q]) (tmps : Array Value) (w : World) (g : Nat) (t : TypeId) (cs : Array Value) (d : TypeDesc) (x : Value)
    (hp : tmps.getD p undef = .pointer (some ⟨g, 0, none⟩)) (hq : tmps.getD q undef = x) (hg : Is w g t cs)
    (hu : P.underlying ty = some d) (hd : (match d with | .struct _ | .array _ _ => true | _ => false) = true) (hi : (P.info? ty).map (·.size) = some cs.size) :
    (results fn tmps).run P w = .ok (.tuple #[.agg cs, x]) w := by
  have hp' : tmps[p]?.getD undef = .pointer (some ⟨g, 0, none⟩) := by simpa using hp
  have hq' : tmps[q]?.getD undef = x := by simpa using hq
  simp [results, h, hp', hq', asAddr, run_loadVar_row w g t ty cs (0, 0) d hg hu hd hi]
def rput5_A : List (List Nat) := ([] :: [] :: [1] :: [0, 2, 1] :: [3, 0, 2, 1] :: [] :: [] :: [6] :: [5, 7, 6] :: [8, 5, 7, 6] :: [] :: [10] :: (4 :: 9 :: 11 :: 3 :: 0 :: 2 :: 1 :: 8 :: 5 :: 7 :: 6 :: 10 :: []) :: (12 :: 11 :: 0 :: 1 :: 2 :: 3 :: 4 :: 5 :: 6 :: 7 :: 8 :: 9 :: 10 :: []) :: (13 :: 0 :: 1 :: 2 :: 3 :: 4 :: 5 :: 6 :: 7 :: 8 :: 9 :: 10 :: 11 :: 12 :: []) :: [])
def rput5_kill : List (List Nat) := ([] :: [] :: [] :: [] :: [] :: [] :: [] :: [] :: [] :: [] :: [] :: [] :: [] :: [11, 12] :: [] :: [])
def rput5_uses : List (List Nat) := ([] :: [] :: [] :: [] :: [] :: [] :: [] :: [] :: [] :: [] :: [] :: [] :: [11] :: [12] :: [] :: [])
noncomputable def rput5_code : Code := ((Try.f11.body.bind (codeRegion 5)).getD .skip)
set_option maxRecDepth 100000 in
set_option maxHeartbeats 4000000 in
theorem rput5_in (m : Ms) (p1 o1 s1 : Value) (p q gk gc : Nat) (bs : List Nat) (hbs : bodyB m = bs) (hl : m.pairs.length ≤ 1000 ∧ m.orders.length ≤ 1000 ∧ m.srcs.length ≤ 1000) (hf : MFit m) (hr4 : m.sort = 4 → m.srcs.length ≤ 255 ∧ m.exp ≤ 63 ∧ m.mant < 262144) (hs : m.sort < 5) (u0 u3 u6 u7 u8 u9 u10 u11 u12 u13 u14 u15 u16 u17 u18 u19 u20 u21 u22 u23 u24 : Value) (w0 : World) (hP : Is w0 p 33 (m.cls p1 o1 s1)) (hQ : Is w0 q 37 pktZ) (hKc : w0.cell? ⟨gk, m.sort, none⟩ = some (.int .u8 (kdOf m.sort : Nat))) (hCc : w0.cell? ⟨gc, m.sort, none⟩ = some (.int .u8 (ctOf m.sort : Nat))) (hgk : gk < w0.heap.size) (hgc : gc < w0.heap.size) (hRD : RdM m p1 o1 s1 w0) :
    Code.wp Try.prog rput5_code (fun e a w' => ∃ y12 y13 y14 y15 y16 y17 y18 y19 y20 y21 y22 y23 y24 : Value, a = ⟨(List.toArray (u0 :: .pointer (some ⟨p, 0, none⟩) :: .pointer (some ⟨q, 0, none⟩) :: .int .i64 0 :: .slice (some ⟨gk, 0, none⟩) 5 5 :: .slice (some ⟨gc, 0, none⟩) 5 5 :: u6 :: u7 :: u8 :: u9 :: u10 :: u11 :: y12 :: y13 :: y14 :: y15 :: y16 :: y17 :: y18 :: y19 :: y20 :: y21 :: y22 :: y23 :: y24 :: [])), []⟩ ∧ e = .normal ∧ (∃ B A c, Is w' q 37 (pktC (ctOf m.sort) (kdOf m.sort) (.slice A bs.length c)) ∧ w'.ownsRow B 5 1 (.slice A bs.length c) bs.length (cellsOf bs) ∧ Only (fun j => j = q) w0 w')) ⟨(List.toArray (u0 :: .pointer (some ⟨p, 0, none⟩) :: .pointer (some ⟨q, 0, none⟩) :: u3 :: .slice (some ⟨gk, 0, none⟩) 5 5 :: .slice (some ⟨gc, 0, none⟩) 5 5 :: u6 :: u7 :: u8 :: u9 :: u10 :: u11 :: u12 :: u13 :: u14 :: u15 :: u16 :: u17 :: u18 :: u19 :: u20 :: u21 :: u22 :: u23 :: u24 :: [])), []⟩ w0 := by
  conv => arg 2; whnf
  have HB := Lib.hid (fun (wx : World) (h : RdM m p1 o1 s1 wx) => by
    have := rbody_is m p1 o1 s1 wx h hl hf hr4
    rwa [hbs] at this)
  have hsI : (m.sort : Int) < 5 := by omega
  clear hbs hl hf hr4
  refine wp_region_posts rput5_A [11, 13] [11, 12, 13] rput5_kill rput5_uses [13] [13] [14] []
      (some ?v0 :: some ?v1 :: some ?v2 :: some ?v3 :: some ?v4 :: some ?v5 :: some ?v6 :: some ?v7 :: some ?v8 :: some ?v9 :: some ?v10 :: none :: none :: none :: some ?v14 :: [])
      ?T (fun wx => Only (fun _ => False) w0 wx) ?W ?E (by kernel_rfl) (by kernel_rfl) (by kernel_rfl) (fun x => ?hT) ?hF ?hini (Reg.all_ops ?runs) ?pres ?fin
  case W => exact fun j x wz => match j with | 11 => ∃ B A c, x 11 = .slice A bs.length c ∧ wz.ownsRow B 5 1 (.slice A bs.length c) bs.length (cellsOf bs) | 12 => ∃ B A c, x 12 = .agg (pktC (ctOf m.sort) (kdOf m.sort) (.slice A bs.length c)) ∧ wz.ownsRow B 5 1 (.slice A bs.length c) bs.length (cellsOf bs) | 13 => ∃ B A c, Is wz q 37 (pktC (ctOf m.sort) (kdOf m.sort) (.slice A bs.length c)) ∧ wz.ownsRow B 5 1 (.slice A bs.length c) bs.length (cellsOf bs) ∧ Only (fun j => j = q) w0 wz | _ => True
  case E => exact fun i wx wy => match i with | 11 => Only (fun _ => False) wx wy | _ => True
  case hT =>
    simp only [Reg.fillV, Act.put, List.setIfInBounds_toArray, List.set_cons_zero, List.set_cons_succ]
    rfl
  case runs =>
    refine And.intro ?_ ?_
    · refine Reg.ob_pure (fun _ => rfl) rfl rfl rfl rfl (fun x w1 hF => ?_)
      go_simp
      with_reducible rfl
    refine And.intro ?_ ?_
    · refine Reg.ob_pure (fun _ => rfl) rfl rfl rfl rfl (fun x w1 hF => ?_)
      go_simp
      with_reducible rfl
    refine And.intro ?_ ?_
    · refine Reg.ob_pure (fun _ => rfl) rfl rfl rfl rfl (fun x w1 hF => ?_)
      have c0 : w1.cell? ⟨p, 0, none⟩ = some (.int .u8 (m.sort : Nat)) := (hP.only hF (by simp)).cell 0
      go_simp
      with_reducible rfl
    refine And.intro ?_ ?_
    · refine Reg.ob_pure (fun _ => rfl) rfl rfl rfl rfl (fun x w1 hF => ?_)
      go_simp
      with_reducible rfl
    refine And.intro ?_ ?_
    · refine Reg.ob_pure (fun _ => rfl) rfl rfl rfl rfl (fun x w1 hF => ?_)
      have ck := (hF.cell (p := ⟨gk, m.sort, none⟩) hgk (by simp)).trans hKc
      go_simp
      with_reducible rfl
    refine And.intro ?_ ?_
    · refine Reg.ob_pure (fun _ => rfl) rfl rfl rfl rfl (fun x w1 hF => ?_)
      go_simp
      with_reducible rfl
    refine And.intro ?_ ?_
    · refine Reg.ob_pure (fun _ => rfl) rfl rfl rfl rfl (fun x w1 hF => ?_)
      go_simp
      with_reducible rfl
    refine And.intro ?_ ?_
    · refine Reg.ob_pure (fun _ => rfl) rfl rfl rfl rfl (fun x w1 hF => ?_)
      have c0 : w1.cell? ⟨p, 0, none⟩ = some (.int .u8 (m.sort : Nat)) := (hP.only hF (by simp)).cell 0
      go_simp
      with_reducible rfl
    refine And.intro ?_ ?_
    · refine Reg.ob_pure (fun _ => rfl) rfl rfl rfl rfl (fun x w1 hF => ?_)
      go_simp
      with_reducible rfl
    refine And.intro ?_ ?_
    · refine Reg.ob_pure (fun _ => rfl) rfl rfl rfl rfl (fun x w1 hF => ?_)
      have cc := (hF.cell (p := ⟨gc, m.sort, none⟩) hgc (by simp)).trans hCc
      go_simp
      with_reducible rfl
    refine And.intro ?_ ?_
    · refine Reg.ob_pure (fun _ => rfl) rfl rfl rfl rfl (fun x w1 hF => ?_)
      obtain ⟨m0, m1, m2, m3, m4, m5, m6, m7⟩ := cls_cells (hP.only hF (by simp))
      go_simp
      with_reducible rfl
    refine And.intro ?_ ?_
    · refine Reg.ob_some (fun _ => rfl) rfl (fun x w1 hF hU K hK => ?_)
      have hF := hF rfl
      go_simp
      refine (HB.out w1 (hRD.only hF)).mono ?_
      rintro e w5 ⟨v, rfl, hacc⟩
      obtain ⟨A, c, rfl⟩ := hacc.slice
      exact hK _ w5 (fun _ _ _ => hF.trans hacc.pure (fun _ _ e => e)) hacc.pure ⟨_, A, c, rfl, hacc.own⟩
    refine And.intro ?_ ?_
    · refine Reg.ob_some (fun _ => rfl) rfl (fun x w1 hF hU K hK => ?_)
      obtain ⟨⟨B, A, c, h11, hu⟩, -⟩ := hU
      have h11 : x 11 = .slice A bs.length c := h11
      revert hK
      simp only [Nat.reduceAdd, h11]
      intro hK
      go_simp
      exact hK _ _ (fun h => by cases h) rfl ⟨B, A, c, rfl, hu⟩
    refine And.intro ?_ ?_
    · refine Reg.ob_some (fun _ => rfl) rfl (fun x w1 hF hU K hK => ?_)
      have hF := hF rfl
      obtain ⟨⟨B, A, c, h12, hu⟩, -⟩ := hU
      have h12 : x 12 = .agg (pktC (ctOf m.sort) (kdOf m.sort) (.slice A bs.length c)) := h12
      have h2 := hQ.only hF (by simp)
      refine wp_store_row 37 _ _ rfl q (pktC (ctOf m.sort) (kdOf m.sort) (.slice A bs.length c)) rfl (by simpa [Act.eval] using h12) 37 pktZ h2 Try.sizeRq rfl (by simp [pktC, Value.oneCell']) ?_
      have ho : Only (fun j => j = q) w1 (w1.setRow q (pktC (ctOf m.sort) (kdOf m.sort) (.slice A bs.length c))) := Only.setRow (S := fun j => j = q) (Only.refl _ w1) (fun _ => rfl) _
      exact hK undef _ (fun _ h _ => by cases h) trivial ⟨B, A, c, h2.setRow _, owned_only hu ho (fun k hk e => owned_off hu h2 (by decide) (by rw [hk, e])), (hF.mono (fun _ _ e => e.elim)).trans ho (fun _ _ e => e)⟩
    refine And.intro ?_ ?_
    · refine Reg.ob_bare (fun _ => rfl) rfl rfl rfl (fun x w1 => ?_)
      go_simp
      with_reducible rfl
    exact trivial
  case hF =>
    exact (Only.refl _ w0).drewN 1
  case hini =>
    exact trivial
  case pres =>
    intro i hi j hj hc x wx wy hF hE hW
    simp only [List.mem_cons, List.mem_nil_iff, or_false] at hi hj
    rcases hi with rfl | rfl <;> rcases hj with rfl | rfl | rfl
    all_goals (exfalso; revert hc; decide)
  case fin =>
    rintro x w9 hF hU
    obtain ⟨hQ, -⟩ := hU
    repeat apply Exists.intro
    exact ⟨rfl, rfl, hQ⟩

set_option maxRecDepth 100000 in
set_option maxHeartbeats 4000000 in
theorem rput5 (m : Ms) (p1 o1 s1 : Value) (p q gk gc : Nat) (bs : List Nat) (hbs : bodyB m = bs) (hl : m.pairs.length ≤ 1000 ∧ m.orders.length ≤ 1000 ∧ m.srcs.length ≤ 1000) (hf : MFit m) (hr4 : m.sort = 4 → m.srcs.length ≤ 255 ∧ m.exp ≤ 63 ∧ m.mant < 262144) (hs : m.sort < 5) (u0 u3 u6 u7 u8 u9 u10 u11 u12 u13 u14 u15 u16 u17 u18 u19 u20 u21 u22 u23 u24 : Value) (Q : Exit → Act → World → Prop) (w0 : World) (hP : Is w0 p 33 (m.cls p1 o1 s1)) (hQ : Is w0 q 37 pktZ) (hKc : w0.cell? ⟨gk, m.sort, none⟩ = some (.int .u8 (kdOf m.sort : Nat))) (hCc : w0.cell? ⟨gc, m.sort, none⟩ = some (.int .u8 (ctOf m.sort : Nat))) (hgk : gk < w0.heap.size) (hgc : gc < w0.heap.size) (hRD : RdM m p1 o1 s1 w0)
    (hend : ∀ (y12 y13 y14 y15 y16 y17 y18 y19 y20 y21 y22 y23 y24 : Value) (w' : World), (∃ B A c, Is w' q 37 (pktC (ctOf m.sort) (kdOf m.sort) (.slice A bs.length c)) ∧ w'.ownsRow B 5 1 (.slice A bs.length c) bs.length (cellsOf bs) ∧ Only (fun j => j = q) w0 w') → Q .normal ⟨(List.toArray (u0 :: .pointer (some ⟨p, 0, none⟩) :: .pointer (some ⟨q, 0, none⟩) :: .int .i64 0 :: .slice (some ⟨gk, 0, none⟩) 5 5 :: .slice (some ⟨gc, 0, none⟩) 5 5 :: u6 :: u7 :: u8 :: u9 :: u10 :: u11 :: y12 :: y13 :: y14 :: y15 :: y16 :: y17 :: y18 :: y19 :: y20 :: y21 :: y22 :: y23 :: y24 :: [])), []⟩ w') :
    Code.wp Try.prog rput5_code Q ⟨(List.toArray (u0 :: .pointer (some ⟨p, 0, none⟩) :: .pointer (some ⟨q, 0, none⟩) :: u3 :: .slice (some ⟨gk, 0, none⟩) 5 5 :: .slice (some ⟨gc, 0, none⟩) 5 5 :: u6 :: u7 :: u8 :: u9 :: u10 :: u11 :: u12 :: u13 :: u14 :: u15 :: u16 :: u17 :: u18 :: u19 :: u20 :: u21 :: u22 :: u23 :: u24 :: [])), []⟩ w0 := by
  refine wp_mono (rput5_in m p1 o1 s1 p q gk gc bs hbs hl hf hr4 hs _ _ _ _ _ _ _ _ _ _ _ _ _ _ _ _ _ _ _ _ _ w0 hP hQ hKc hCc hgk hgc hRD) ?_
  rintro e a w' h
  obtain ⟨y12, h⟩ := h
  obtain ⟨y13, h⟩ := h
  obtain ⟨y14, h⟩ := h
  obtain ⟨y15, h⟩ := h
  obtain ⟨y16, h⟩ := h
  obtain ⟨y17, h⟩ := h
  obtain ⟨y18, h⟩ := h
  obtain ⟨y19, h⟩ := h
  obtain ⟨y20, h⟩ := h
  obtain ⟨y21, h⟩ := h
  obtain ⟨y22, h⟩ := h
  obtain ⟨y23, h⟩ := h
  obtain ⟨y24, h⟩ := h
  obtain ⟨h, rfl, hq⟩ := h
  subst h
  exact hend y12 y13 y14 y15 y16 y17 y18 y19 y20 y21 y22 y23 y24 w' hq

/-- The reference puts a message. -/
def RPut (m : Ms) (w : World) (e : Ending) (w' : World) : Prop := ∃ B A c, e = .returned (.tuple #[.agg (pktC (ctOf m.sort) (kdOf m.sort) (.slice A (bodyB m).length c)), .int .i64 0]) ∧ w'.ownsRow B 5 1 (.slice A (bodyB m).length c) (bodyB m).length (cellsOf (bodyB m)) ∧ Only (fun _ => False) w w'
theorem right_sort {m : Ms} (h : rightMs m = true) : 1 ≤ m.sort ∧ m.sort < 5 ∧ (m.sort = 4 → m.srcs.length ≤ 255 ∧ m.exp ≤ 63 ∧ m.mant < 262144) := by
  unfold rightMs okMs at h
  have := of_decide_eq_true h
  omega
set_option maxRecDepth 100000 in
set_option maxHeartbeats 4000000 in
theorem rput_yes (m : Ms) (p1 o1 s1 : Value) (w : World) (h1 : RdM m p1 o1 s1 w) (hl : m.pairs.length ≤ 1000 ∧ m.orders.length ≤ 1000 ∧ m.srcs.length ≤ 1000) (hf : MFit m) (hok : rightMs m = true) :
    Calls Try.prog 11 #[.agg (m.cls p1 o1 s1)] w (RPut m w) := by
  have HRI := Lib.hid (fun wx (h : RdM m p1 o1 s1 wx) => by have := rright_is m p1 o1 s1 wx h (by omega); rwa [hok] at this)
  have HRD := Lib.hid h1
  obtain ⟨hs1, hs5, hr4⟩ := right_sort hok
  unfold RPut
  clear h1 hok
  go_enter Try.func11, Try.ntmps11
  go_upto_region 1 with (fail)
  obtain ⟨p, hp⟩ : ∃ p, w.heap.size = p := ⟨_, rfl⟩
  obtain ⟨q, hq⟩ : ∃ q, w.heap.size + 1 = q := ⟨_, rfl⟩
  generalize hw2 : World.alloc (World.alloc w _) _ = w2
  have I1 := Lib.hid (show Is w2 p 33 (m.cls p1 o1 s1) from by rw [← hw2, ← hp]; exact (Is.made w _ _).alloc _)
  have I2 := Lib.hid (show Is w2 q 37 pktZ from by
    have e : (w.alloc (.cells (m.cls p1 o1 s1) 33)).heap.size = w.heap.size + 1 := by simp
    rw [← hw2, ← hq, ← e]
    exact Is.made _ _ _)
  have O2 := Lib.hid (show Only (fun _ => False) w w2 from by rw [← hw2]; exact ((Only.refl _ w).alloc _).alloc _)
  rw [hq, hp]
  have HWQ := Lib.hid (show w.heap.size ≤ q from by omega)
  clear hw2 hp hq
  go_wp2_with (refine wpList_load_want (o := ⟨some 6, _, _, _, _, _⟩) rfl _ _ rfl p rfl _ _ _ I1.out Try.underlying33 rfl Try.sizeRme ?_)
  refine (HRI.out _ (HRD.out.only O2.out)).mono ?_
  rintro e w3 ⟨rfl, ho⟩
  have J1 := Lib.hid (I1.out.only ho (by simp))
  have J2 := Lib.hid (I2.out.only ho (by simp))
  have O3 := Lib.hid (O2.out.trans ho (fun _ _ e => e))
  clear ho I1 I2 O2 HRI
  go_upto_region 5 with (fail)
  obtain ⟨gk, hgk⟩ : ∃ p, w3.heap.size = p := ⟨_, rfl⟩
  obtain ⟨gc, hgc⟩ : ∃ q, w3.heap.size + 1 = q := ⟨_, rfl⟩
  generalize hw4 : World.alloc (World.alloc w3 _) _ = w4
  have IK : Is w4 gk 5 #[.int .u8 0, .int .u8 205, .int .u8 206, .int .u8 206, .int .u8 206] := by rw [← hw4, ← hgk]; exact (Is.made w3 _ _).alloc _
  have IC : Is w4 gc 5 #[.int .u8 0, .int .u8 1, .int .u8 1, .int .u8 4, .int .u8 15] := by
    have e : (w3.alloc (.cells #[.int .u8 0, .int .u8 205, .int .u8 206, .int .u8 206, .int .u8 206] 5)).heap.size = w3.heap.size + 1 := by simp
    rw [← hw4, ← hgc, ← e]
    exact Is.made _ _ _
  have O34 : Only (fun _ => False) w3 w4 := by rw [← hw4]; exact ((Only.refl _ w3).alloc _).alloc _
  rw [hgc, hgk]
  clear hw4 hgk hgc
  have hsc : m.sort = 1 ∨ m.sort = 2 ∨ m.sort = 3 ∨ m.sort = 4 := by omega
  have hKc : w4.cell? ⟨gk, m.sort, none⟩ = some (.int .u8 (kdOf m.sort : Nat)) := by
    rw [IK.cell]
    rcases hsc with h | h | h | h <;> rw [h] <;> rfl
  have hCc : w4.cell? ⟨gc, m.sort, none⟩ = some (.int .u8 (ctOf m.sort : Nat)) := by
    rw [IC.cell]
    rcases hsc with h | h | h | h <;> rw [h] <;> rfl
  refine rput5 m p1 o1 s1 p q gk gc (bodyB m) rfl hl hf hr4 hs5 _ _ _ _ _ _ _ _ _ _ _ _ _ _ _ _ _ _ _ _ _ _ w4 (J1.out.only O34 (by simp)) (J2.out.only O34 (by simp)) hKc hCc IK.lt IC.lt (HRD.out.only (O3.out.trans O34 (fun _ _ e => e))) ?_
  rintro y12 y13 y14 y15 y16 y17 y18 y19 y20 y21 y22 y23 y24 w6 ⟨B, A, c, hi6, hown6, ho6⟩
  have O6 := Lib.hid (show Only (fun _ => False) w w6 from (O3.out.trans O34 (fun _ _ e => e)).trans ho6 (fun i hi e => by have := HWQ.out; omega))
  go_wp2
  refine bodyPost_ret (res_cell1p Try.results11 _ w6 q 37 _ _ _ rfl rfl hi6 Try.underlying37 rfl Try.sizeRq) rfl ?_
  exact ⟨B, A, c, rfl, hown6, O6.out⟩
set_option maxRecDepth 100000 in
set_option maxHeartbeats 4000000 in
theorem rput_no (m : Ms) (p1 o1 s1 : Value) (w : World) (h1 : RdM m p1 o1 s1 w) (hl : m.pairs.length ≤ 1000 ∧ m.orders.length ≤ 1000 ∧ m.srcs.length ≤ 1000) (hok : rightMs m = false) :
    Calls Try.prog 11 #[.agg (m.cls p1 o1 s1)] w fun e w' => e = .returned (.tuple #[.agg pktZ, .int .i64 2]) ∧ Only (fun _ => False) w w' := by
  have HRI := Lib.hid (fun wx (h : RdM m p1 o1 s1 wx) => by have := rright_is m p1 o1 s1 wx h (by omega); rwa [hok] at this)
  have HRD := Lib.hid h1
  clear h1 hok
  go_enter Try.func11, Try.ntmps11
  go_upto_region 1 with (fail)
  obtain ⟨p, hp⟩ : ∃ p, w.heap.size = p := ⟨_, rfl⟩
  obtain ⟨q, hq⟩ : ∃ q, w.heap.size + 1 = q := ⟨_, rfl⟩
  generalize hw2 : World.alloc (World.alloc w _) _ = w2
  have I1 := Lib.hid (show Is w2 p 33 (m.cls p1 o1 s1) from by rw [← hw2, ← hp]; exact (Is.made w _ _).alloc _)
  have I2 := Lib.hid (show Is w2 q 37 pktZ from by
    have e : (w.alloc (.cells (m.cls p1 o1 s1) 33)).heap.size = w.heap.size + 1 := by simp
    rw [← hw2, ← hq, ← e]
    exact Is.made _ _ _)
  have O2 := Lib.hid (show Only (fun _ => False) w w2 from by rw [← hw2]; exact ((Only.refl _ w).alloc _).alloc _)
  rw [hq, hp]
  have HWQ := Lib.hid (show w.heap.size ≤ q from by omega)
  clear hw2 hp hq
  go_wp2_with (refine wpList_load_want (o := ⟨some 6, _, _, _, _, _⟩) rfl _ _ rfl p rfl _ _ _ I1.out Try.underlying33 rfl Try.sizeRme ?_)
  refine (HRI.out _ (HRD.out.only O2.out)).mono ?_
  rintro e w3 ⟨rfl, ho⟩
  have J1 := Lib.hid (I1.out.only ho (by simp))
  have J2 := Lib.hid (I2.out.only ho (by simp))
  have O3 := Lib.hid (O2.out.trans ho (fun _ _ e => e))
  clear ho I1 I2 O2 HRI
  go_wp2_with (refine wpList_store_is rfl 37 _ _ rfl q pktZ rfl rfl 37 _ J2.out Try.sizeRq rfl (by simp [pktZ, Value.oneCell']) ?_; intro w6 hi6 ho6)
  refine bodyPost_ret (res_cell1p Try.results11 _ w6 q 37 _ _ _ rfl rfl hi6 Try.underlying37 rfl Try.sizeRq) rfl ?_
  exact ⟨rfl, O3.out.trans ho6 (fun i hi e => by have := HWQ.out; omega)⟩
end Go.Proofs.Ytefcimkopgcagaa

/- One packet in a row; what both put. Conditions: as each says. -/
set_option linter.unusedVariables false
set_option linter.unusedSimpArgs false
namespace Go.Proofs.Ytefcimkopgcagaa
open Go.RowKit

theorem rdk_one {w : World} {g : Nat} {T : TypeId} {u : Value} {p : Pkt} (h : Is w g T #[.int .u8 (p.count : Nat), .int .u8 (p.kind : Nat), u, .int .u8 (p.pad : Nat)]) (hs : Src w u p.body) : RdK w (.slice (some ⟨g, 0, none⟩) 1 1) [p] := by
  refine ⟨_, 1, rfl, Nat.le_refl _, fun _ => ⟨g, 0, rfl, fun i q hq => ?_⟩⟩
  obtain _ | i := i
  · injection hq with hq
    subst hq
    exact ⟨u, ⟨h.cell 0, h.cell 1, h.cell 2, h.cell 3⟩, hs⟩
  · cases hq
def msPk (m : Ms) : Pkt := if rightMs m then ⟨ctOf m.sort, kdOf m.sort, 0, bodyB m⟩ else ⟨0, 0, 0, []⟩
def erOf (m : Ms) : Int := if rightMs m then 0 else 2
/-- A packet's cells. -/
abbrev pkC (q : Pkt) (u : Value) : Array Value := #[.int .u8 (q.count : Nat), .int .u8 (q.kind : Nat), u, .int .u8 (q.pad : Nat)]
theorem fput_any (m : Ms) (p1 o1 s1 : Value) (w : World) (h1 : RdM m p1 o1 s1 w) (hl : m.pairs.length ≤ 1000 ∧ m.orders.length ≤ 1000 ∧ m.srcs.length ≤ 1000) (hf : MFit m) :
    Calls Try.prog 12 #[.agg (m.cls p1 o1 s1)] w fun e w' => ∃ u, e = .returned (.tuple #[.agg (pkC (msPk m) u), .int .i64 (erOf m)]) ∧ w'.ownsRow w.heap.size 5 1 u (msPk m).body.length (cellsOf (msPk m).body) ∧ Only (fun _ => False) w w' := by
  unfold msPk erOf
  by_cases hok : rightMs m = true
  · rw [if_pos hok, if_pos hok]
    refine (fput_yes m p1 o1 s1 w h1 hl hf hok).mono ?_
    rintro e w' ⟨A, c, bs, rfl, hw, hown, ho⟩
    have hb := body_same m hf hok hw
    subst hb
    exact ⟨_, rfl, hown, ho⟩
  · rw [if_neg hok, if_neg hok]
    refine (fput_none m p1 o1 s1 w h1 hl hf.mant hf.exp (by simpa using hok)).mono ?_
    rintro e w' ⟨rfl, ho⟩
    exact ⟨.slice none 0 0, rfl, World.ownsRow_nil _ _ _ _, ho⟩
theorem rput_any (m : Ms) (p1 o1 s1 : Value) (w : World) (h1 : RdM m p1 o1 s1 w) (hl : m.pairs.length ≤ 1000 ∧ m.orders.length ≤ 1000 ∧ m.srcs.length ≤ 1000) (hf : MFit m) :
    Calls Try.prog 11 #[.agg (m.cls p1 o1 s1)] w fun e w' => ∃ B u, e = .returned (.tuple #[.agg (pkC (msPk m) u), .int .i64 (erOf m)]) ∧ w'.ownsRow B 5 1 u (msPk m).body.length (cellsOf (msPk m).body) ∧ Only (fun _ => False) w w' := by
  unfold msPk erOf
  by_cases hok : rightMs m = true
  · rw [if_pos hok, if_pos hok]
    refine (rput_yes m p1 o1 s1 w h1 hl hf hok).mono ?_
    rintro e w' ⟨B, A, c, rfl, hown, ho⟩
    exact ⟨B, _, rfl, hown, ho⟩
  · rw [if_neg hok, if_neg hok]
    refine (rput_no m p1 o1 s1 w h1 hl (by simpa using hok)).mono ?_
    rintro e w' ⟨rfl, ho⟩
    exact ⟨w.heap.size, .slice none 0 0, rfl, World.ownsRow_nil _ _ _ _, ho⟩
theorem bodyB_len (m : Ms) (hl : m.pairs.length ≤ 300 ∧ m.orders.length ≤ 300 ∧ m.srcs.length ≤ 300) : (msPk m).body.length ≤ 100000 := by
  unfold msPk
  split
  · unfold bodyB partB
    rw [List.length_append, List.length_append, List.length_append, headB_len, pairsB_len, ordersB_len]
    have : (if m.sort = 4 then rateB m else []).length ≤ 8 + 4 * m.srcs.length := by
      split
      · unfold rateB
        rw [List.length_append, List.length_append, numB_len, srcsB_len]
        simp
        omega
      · simp
    omega
  · simp
end Go.Proofs.Ytefcimkopgcagaa
