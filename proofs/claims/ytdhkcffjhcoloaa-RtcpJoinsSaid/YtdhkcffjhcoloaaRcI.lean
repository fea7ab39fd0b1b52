/- rtcp: a packet, written. Conditions: as it says. -/
import Derived.Test.YtdhkcffjhcoloaaRcH
set_option linter.unusedVariables false
namespace Go.Proofs.Ytdhkcffjhcoloaa
open Go.RowKit

set_option maxRecDepth 100000 in
set_option maxHeartbeats 4000000 in
theorem written_is (p : Pkt) (u : Value) (w0 w : World) (v : Value) (out : List Nat) (hacc : Acc w0 v out w) (hs : Src w0 u p.body) (hf : p.Fit) (ho : p.ok = true) (hl : out.length ≤ 10000000) :
    Calls Try.prog 49 #[v, .agg #[.int .u8 (p.count : Nat), .int .u8 (p.kind : Nat), u, .int .u8 (p.pad : Nat)]] w fun e w' => ∃ v', e = .returned v' ∧ Acc w0 v' (out ++ p.enc) w' ∧ Only (fun k => w0.heap.size ≤ k) w w' := by
  obtain ⟨A, c, rfl⟩ := hacc.slice
  obtain ⟨Au, cu, rfl⟩ := hs.slice
  have HA := Lib.hid hacc
  have HS := Lib.hid hs
  obtain ⟨hc8, hk8, hd8, hbb⟩ := hf
  have HENC := Lib.hid (show p.enc = [128 + p.count + (if p.pad = 0 then 0 else 32), p.kind, (p.body.length + p.pad) / 4 / 256, (p.body.length + p.pad) / 4 % 256] ++ p.body ++ (if p.pad = 0 then [] else List.replicate (p.pad - 1) 0 ++ [p.pad]) from rfl)
  unfold Pkt.ok at ho
  simp only [Bool.and_eq_true, decide_eq_true_eq] at ho
  obtain ⟨⟨⟨h31, -⟩, -⟩, hmx⟩ := ho
  obtain ⟨L, hL⟩ : ∃ L, p.body.length = L := ⟨_, rfl⟩
  rw [hL] at hmx HS HENC ⊢
  have HL := Lib.hid hL
  have HOL := Lib.hid hl
  generalize p.count = n at *
  generalize p.kind = kd at *
  generalize p.pad = d at *
  have HH := Lib.hid (u8_head n h31)
  have HH2 := Lib.hid (u8_head32 n h31)
  clear hacc hs hbb hL hl
  obtain ⟨wd, hwd⟩ : ∃ wd, (L + d) / 4 = wd := ⟨_, rfl⟩
  rw [hwd] at HENC
  have hw1 : wd ≤ 65535 := by omega
  have sW : ((L : Int) + (d : Int)) / 4 = (wd : Int) := by omega
  clear hwd
  obtain ⟨L1, hL1⟩ : ∃ L1, out.length = L1 := ⟨_, rfl⟩
  have HL1 := Lib.hid hL1
  rw [hL1] at HA ⊢
  clear hL1
  go_enter Try.func49, Try.ntmps49
  obtain ⟨bx, hbx⟩ : ∃ b, w.heap.size = b := ⟨_, rfl⟩
  go_upto_region 1 with (fail)
  generalize hw1' : World.alloc _ _ = w1
  have I1 := Lib.hid (show Is w1 bx 36 #[.int .u8 (n : Nat), .int .u8 (kd : Nat), .slice Au L cu, .int .u8 (d : Nat)] from by rw [← hw1', ← hbx]; exact Is.made _ _ _)
  have P1 := Lib.hid (show Only (fun _ => False) w w1 from by rw [← hw1']; exact (Only.refl _ w).alloc _)
  have A1 := Lib.hid (HA.out.go P1.out)
  clear hw1' hbx
  have c0 := I1.out.cell 0
  have c1 := I1.out.cell 1
  have c2 := I1.out.cell 2
  have c3 := I1.out.cell 3
  simp at c0 c1 c2 c3
  have e1 := HH.out
  have e2 : bits .or .u8 (128 + (n : Int)) 32 = 128 + (n : Int) + 32 := by
    have h := HH2.out
    rw [show ((128 + n : Nat) : Int) = 128 + (n : Int) from by omega, show ((128 + n + 32 : Nat) : Int) = 128 + (n : Int) + 32 from by omega] at h
    exact h
  by_cases hd : d = 0
  · have HD := Lib.hid hd
    have zd : decide (0 < d) = false := decide_eq_false (by omega)
    have zd' : decide ((0 : Int) < (d : Int)) = false := decide_eq_false (by omega)
    clear hd
    go_upto_region 6 with (at_builtin; refine wpList_acc_lit rfl _ _ rfl A1.out rfl [128 + n, kd, wd / 256, wd % 256] rfl (by have := HOL.out; simp; omega) ?_; intro v2 w2 hacc2 hg2)
    have I2 := Lib.hid (I1.out.only hg2 (row_apart I1.out A1.out.own (by decide)))
    have A2 := Lib.hid hacc2
    have LL2 := Lib.hid (show (out ++ [128 + n, kd, wd / 256, wd % 256]).length = L1 + 4 from by rw [List.length_append, HL1.out]; rfl)
    have d2 := I2.out.cell 2
    have d3 := I2.out.cell 3
    simp at d2 d3
    clear c0 c1 c2 c3
    go_upto_region 7 with (at_builtin; refine wpList_acc_src rfl _ _ rfl A2.out rfl _ p.body rfl (HS.out.of_only A2.out.pure) (by rw [LL2.out, HL.out]; have := HOL.out; have := HL1.out; omega) ?_; intro v3 w3 hacc3 hg3)
    have I3 := Lib.hid (I2.out.only hg3 (row_apart I2.out A2.out.own (by decide)))
    have A3 := Lib.hid hacc3
    have d3 := I3.out.cell 3
    simp at d3
    clear d2
    go_wp2_with fail
    go_ret
    refine ⟨_, rfl, ?_, ?_⟩
    · rw [HENC.out, HD.out, if_pos rfl, if_pos rfl, List.append_nil, Nat.add_zero, ← List.append_assoc]
      exact A3.out
    · exact ((P1.out.mono (fun _ _ h => h.elim)).trans hg2 (fun i hi e => (A1.out.own.lt i e).1)).trans hg3 (fun i hi e => (A2.out.own.lt i e).1)
  · have HD := Lib.hid hd
    have zd : decide (0 < d) = true := decide_eq_true (by omega)
    have zd' : decide ((0 : Int) < (d : Int)) = true := decide_eq_true (by omega)
    have hd1 : 1 ≤ d := by omega
    clear hd
    go_upto_region 6 with (at_builtin; refine wpList_acc_lit rfl _ _ rfl A1.out rfl [128 + n + 32, kd, wd / 256, wd % 256] rfl (by have := HOL.out; simp; omega) ?_; intro v2 w2 hacc2 hg2)
    have I2 := Lib.hid (I1.out.only hg2 (row_apart I1.out A1.out.own (by decide)))
    have A2 := Lib.hid hacc2
    have LL2 := Lib.hid (show (out ++ [128 + n + 32, kd, wd / 256, wd % 256]).length = L1 + 4 from by rw [List.length_append, HL1.out]; rfl)
    have d2 := I2.out.cell 2
    have d3 := I2.out.cell 3
    simp at d2 d3
    clear c0 c1 c2 c3
    go_upto_region 7 with (at_builtin; refine wpList_acc_src rfl _ _ rfl A2.out rfl _ p.body rfl (HS.out.of_only A2.out.pure) (by rw [LL2.out, HL.out]; have := HOL.out; have := HL1.out; omega) ?_; intro v3 w3 hacc3 hg3)
    have I3 := Lib.hid (I2.out.only hg3 (row_apart I2.out A2.out.own (by decide)))
    have A3 := Lib.hid hacc3
    have LL3 := Lib.hid (show (out ++ [128 + n + 32, kd, wd / 256, wd % 256] ++ p.body).length = L1 + 4 + L from by rw [List.length_append, LL2.out, HL.out])
    have d3 := I3.out.cell 3
    simp at d3
    clear d2
    have G3 := Lib.hid (show Only (fun k => w0.heap.size ≤ k) w w3 from ((P1.out.mono (fun _ _ h => h.elim)).trans hg2 (fun i hi e => (A1.out.own.lt i e).1)).trans hg3 (fun i hi e => (A2.out.own.lt i e).1))
    clear hg2 hg3 hacc2 hacc3
    go_upto_region 9 with (at_builtin; refine wpList_acc_noughts rfl _ _ 5 .u8 Try.underlying5 rfl A3.out rfl (d - 1) (by show Value.int .u8 _ = _; rw [show ((d - 1 : Nat) : Int) = (d : Int) - 1 from by omega]) (by rw [LL3.out]; have := HOL.out; have := HL1.out; omega) ?_; intro v4 w4 hacc4 hg4)
    have I4 := Lib.hid (I3.out.only hg4 (row_apart I3.out A3.out.own (by decide)))
    have A4 := Lib.hid hacc4
    have G4 := Lib.hid (G3.out.trans hg4 (fun i hi e => (A3.out.own.lt i e).1))
    have LL4 := Lib.hid (show (out ++ [128 + n + 32, kd, wd / 256, wd % 256] ++ p.body ++ List.replicate (d - 1) 0).length ≤ L1 + 4 + L + 256 from by rw [List.length_append, LL3.out, List.length_replicate]; omega)
    have f3 := I4.out.cell 3
    simp at f3
    clear d3 hg4 hacc4
    go_wp2_with (at_builtin; refine wpList_acc_lit rfl _ _ rfl A4.out rfl [d] rfl (by have := LL4.out; have := HOL.out; have := HL1.out; simp only [List.length_cons, List.length_nil]; omega) ?_; intro v5 w5 hacc5 hg5)
    go_ret
    refine ⟨_, rfl, ?_, G4.out.trans hg5 (fun i hi e => (A4.out.own.lt i e).1)⟩
    rw [HENC.out, if_neg HD.out, if_neg HD.out, ← List.append_assoc, ← List.append_assoc, ← List.append_assoc]
    exact hacc5
end Go.Proofs.Ytdhkcffjhcoloaa
