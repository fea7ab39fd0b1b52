/- The reference's Right and put. Conditions: as each says. -/
import Derived.Test.YtdhkcffjhcoloaaRcI
import Derived.Test.YtdhkcffjhcoloaaRrB
import Derived.Test.YtdhkcffjhcoloaaRrC
set_option linter.unusedVariables false
namespace Go.Proofs.Ytdhkcffjhcoloaa
open Go.RowKit

set_option maxRecDepth 100000 in
set_option maxHeartbeats 2000000 in
theorem rright_is (p : Pkt) (u : Value) (w : World) (hf : p.Fit) (hs : Src w u p.body) (hl : p.body.length ≤ 1000000) :
    Calls Try.prog 16 #[.agg #[.int .u8 (p.count : Nat), .int .u8 (p.kind : Nat), u, .int .u8 (p.pad : Nat)]] w fun e w' => e = .returned (.bool p.ok) ∧ Only (fun _ => False) w w' := by
  obtain ⟨A, c, rfl⟩ := hs.slice
  have HOK := Lib.hid (show p.ok = (decide (p.count ≤ 31) && (p.body.length % 4 == 0) && (p.pad % 4 == 0) && decide (p.body.length + p.pad ≤ 262140)) from rfl)
  rw [HOK.out]
  obtain ⟨h1, h2, h3, -⟩ := hf
  clear hs HOK
  generalize p.body.length = L at *
  generalize p.count = n at *
  generalize p.kind = k at *
  generalize p.pad = d at *
  have e1 : decide ((n : Int) ≤ 31) = decide (n ≤ 31) := decide_eq_decide.2 (by omega)
  have e2 : ((L : Int) % 4 == 0) = (L % 4 == 0) := by rw [Bool.eq_iff_iff, beq_iff_eq, beq_iff_eq]; omega
  have e3 : ((d : Int) % 4 == 0) = (d % 4 == 0) := by rw [Bool.eq_iff_iff, beq_iff_eq, beq_iff_eq]; omega
  have e4 : decide ((L : Int) + (d : Int) ≤ 262140) = decide (L + d ≤ 262140) := decide_eq_decide.2 (by omega)
  generalize decide (n ≤ 31) = b1 at *
  generalize (L % 4 == 0) = b2 at *
  generalize (d % 4 == 0) = b3 at *
  generalize decide (L + d ≤ 262140) = b4 at *
  cases b1 <;> cases b2 <;> cases b3 <;> cases b4
  all_goals
    go_enter Try.func16, Try.ntmps16
    go_wp2
    go_ret
    exact ⟨rfl, (Only.refl _ w).alloc _⟩


set_option maxRecDepth 100000 in
set_option maxHeartbeats 2000000 in
theorem rput_is (p : Pkt) (u : Value) (w : World) (hs : Src w u p.body) (hf : p.Fit) (ho : p.ok = true) :
    Calls Try.prog 47 #[.agg #[.int .u8 (p.count : Nat), .int .u8 (p.kind : Nat), u, .int .u8 (p.pad : Nat)]] w fun e w' => ∃ A c, e = .returned (.slice A p.enc.length c) ∧ Acc w (.slice A p.enc.length c) p.enc w' := by
  obtain ⟨Au, cu, rfl⟩ := hs.slice
  have HS := Lib.hid hs
  obtain ⟨hc8, hk8, hd8, hbb⟩ := hf
  have HENC := Lib.hid (show p.enc = [128 + p.count + (if p.pad = 0 then 0 else 32), p.kind] ++ [(p.body.length + p.pad) / 4 / 256, (p.body.length + p.pad) / 4 % 256] ++ p.body ++ List.replicate (p.pad - 1) 0 ++ (if p.pad = 0 then [] else [p.pad]) from by
    unfold Pkt.enc
    by_cases h : p.pad = 0
    · simp [h]
    · simp [h])
  unfold Pkt.ok at ho
  simp only [Bool.and_eq_true, decide_eq_true_eq] at ho
  obtain ⟨⟨⟨h31, -⟩, -⟩, hmx⟩ := ho
  obtain ⟨L, hL⟩ : ∃ L, p.body.length = L := ⟨_, rfl⟩
  rw [hL] at hmx HS HENC ⊢
  have HL := Lib.hid hL
  obtain ⟨E, hE⟩ : ∃ E, p.enc = E := ⟨_, rfl⟩
  rw [hE] at HENC ⊢
  generalize p.count = n at *
  generalize p.kind = kd at *
  generalize p.pad = d at *
  clear hs hbb hL hE
  obtain ⟨wd, hwd⟩ : ∃ wd, (L + d) / 4 = wd := ⟨_, rfl⟩
  rw [hwd] at HENC
  have hw1 : wd ≤ 65535 := by omega
  have sW : ((L : Int) + (d : Int)) / 4 = (wd : Int) := by omega
  clear hwd
  go_enter Try.func47, Try.ntmps47
  obtain ⟨bx, hbx⟩ : ∃ b, w.heap.size = b := ⟨_, rfl⟩
  go_upto_region 1 with (fail)
  generalize hw1' : World.alloc _ _ = w1
  have I1 := Lib.hid (show Is w1 bx 38 #[.int .u8 (n : Nat), .int .u8 (kd : Nat), .slice Au L cu, .int .u8 (d : Nat)] from by rw [← hw1', ← hbx]; exact Is.made _ _ _)
  have P1 := Lib.hid (show Only (fun _ => False) w w1 from by rw [← hw1']; exact (Only.refl _ w).alloc _)
  clear hw1' hbx
  have c0 := I1.out.cell 0
  have c1 := I1.out.cell 1
  have c2 := I1.out.cell 2
  have c3 := I1.out.cell 3
  simp at c0 c1 c2 c3
  obtain ⟨fl, hfl⟩ : ∃ fl : Nat, (if d = 0 then 0 else 32) = fl := ⟨_, rfl⟩
  rw [hfl] at HENC
  have hfl32 : fl ≤ 32 := by rw [← hfl]; split <;> omega
  have HFL := Lib.hid hfl
  clear hfl
  obtain ⟨pz, hpz⟩ : ∃ b, decide (0 < d) = b := ⟨_, rfl⟩
  have HPZ := Lib.hid hpz
  go_upto_if 12 with (fail)
  clear hpz
  go_cut [3] (fun s3 wx => s3 = .int .i64 (128 + n + fl : Nat) ∧ wx = w1)
  case first =>
    cases pz
    · have hf0 : fl = 0 := by rw [← HFL.out, if_pos (by have := of_decide_eq_false HPZ.out; omega)]
      subst hf0
      go_wp2_with fail
      go_meet
      exact ⟨by go_num, rfl⟩
    · have hf0 : fl = 32 := by rw [← HFL.out, if_neg (by have := of_decide_eq_true HPZ.out; omega)]
      subst hf0
      go_wp2_with fail
      go_meet
      exact ⟨by go_num, rfl⟩
  case rest =>
    obtain ⟨rfl, hwc⟩ := hcut
    subst hwc
    generalize wc = w1 at *
    obtain ⟨h0, hh0⟩ : ∃ h, 128 + n + fl = h := ⟨_, rfl⟩
    have hh8 : h0 ≤ 255 := by omega
    rw [hh0] at HENC ⊢
    clear hh0
    go_upto_region 5 with (fail)
    generalize hw2 : World.alloc _ _ = w2
    obtain ⟨g2, hg2⟩ : ∃ g, w1.heap.size = g := ⟨_, rfl⟩
    have A2 := Lib.hid (show Acc w (.slice (some ⟨g2, 0, none⟩) 2 2) [h0, kd] w2 from by
      rw [← hw2, ← hg2]
      exact ⟨World.ownsRow_lit w1 _ 2 P1.out.size (by unfold maxLen; omega) rfl, P1.out.alloc _⟩)
    have I2 := Lib.hid (show Is w2 bx 38 #[.int .u8 (n : Nat), .int .u8 (kd : Nat), .slice Au L cu, .int .u8 (d : Nat)] from by rw [← hw2]; exact I1.out.alloc _)
    rw [hg2]
    clear hw2 hg2 c0 c1 c2 c3
    have c2 := I2.out.cell 2
    have c3 := I2.out.cell 3
    simp at c2 c3
    go_wp2_with fail
    refine (number_is 2 wd w2 (by decide) (by decide) (by omega)).mono ?_
    rintro e w3 ⟨A3, c3', rfl, hown3, ho3⟩
    have S3 := Lib.hid (show Src w3 (.slice A3 2 c3') [wd / 256, wd % 256] from by
      have e : numB 2 wd = [wd / 256, wd % 256] := by simp [numB]; omega
      rw [e] at hown3
      exact Src.of_own hown3)
    have A3 := Lib.hid (A2.out.go ho3)
    have I3 := Lib.hid (I2.out.only ho3 (by simp))
    clear hown3 ho3 c2 c3
    go_upto_region 6 with (at_builtin; refine wpList_acc_src rfl _ _ rfl A3.out rfl _ [wd / 256, wd % 256] rfl S3.out (by simp) ?_; intro v4 w4 hacc4 hg4)
    have I4 := Lib.hid (KeepsT.row A3.out.own hg4 _ _ _ (by decide) I3.out)
    have A4 := Lib.hid hacc4
    clear hg4 hacc4
    have c2 := I4.out.cell 2
    simp at c2
    go_upto_region 7 with (at_builtin; refine wpList_acc_src rfl _ _ rfl A4.out rfl _ p.body rfl (HS.out.of_only A4.out.pure) (by rw [HL.out]; simp; omega) ?_; intro v5 w5 hacc5 hg5)
    have I5 := Lib.hid (KeepsT.row A4.out.own hg5 _ _ _ (by decide) I4.out)
    obtain ⟨out, hout⟩ : ∃ out, [h0, kd] ++ [wd / 256, wd % 256] ++ p.body = out := ⟨_, rfl⟩
    rw [hout] at hacc5 HENC
    have HLO := Lib.hid (show out.length = 4 + L from by rw [← hout]; simp [HL.out]; omega)
    have A5 := Lib.hid hacc5
    clear hg5 hacc5 c2 hout
    go_wp2
    go_loopw [4, 5] (fun s4 s5 wr => ∃ j : Nat, j ≤ d - 1 ∧ s5 = .int .i64 (j + 1 : Nat) ∧ Acc w s4 (out ++ List.replicate j 0) wr ∧ Is wr bx 38 #[.int .u8 (n : Nat), .int .u8 (kd : Nat), .slice Au L cu, .int .u8 (d : Nat)]) (fun _ s5 _ => 300 - (intOf s5).toNat)
    case atStart => exact ⟨0, by omega, rfl, by simpa using A5.out, I5.out⟩
    case round =>
      obtain ⟨j, hj, rfl, hacc, hi⟩ := hrel
      have AJ := Lib.hid hacc
      have IJ := Lib.hid hi
      have c3 := hi.cell 3
      simp at c3
      clear hacc hi
      have LJ := Lib.hid (show (out ++ List.replicate j 0).length = 4 + L + j from by rw [List.length_append, HLO.out, List.length_replicate])
      by_cases hjd : j + 1 < d
      · have zj : decide (j + 1 < d) = true := decide_eq_true hjd
        have zj' : decide ((j : Int) + 1 < (d : Int)) = true := decide_eq_true (by omega)
        have HT := Lib.hid (show out ++ List.replicate (j + 1) 0 = (out ++ List.replicate j 0) ++ [0] from by rw [List.replicate_succ', List.append_assoc])
        go_wp2_with (at_builtin; refine wpList_acc_lit rfl _ _ rfl AJ.out rfl [0] rfl (by rw [LJ.out]; simp; omega) ?_; intro v6 w6 hacc6 hg6)
        exact ⟨⟨j + 1, by omega, by go_num, by rw [HT.out]; exact hacc6, KeepsT.row AJ.out.own hg6 _ _ _ (by decide) IJ.out⟩, by simp [intOf]; omega⟩
      · have zj : decide (j + 1 < d) = false := decide_eq_false hjd
        have zj' : decide ((j : Int) + 1 < (d : Int)) = false := decide_eq_false (by omega)
        have HJ := Lib.hid (show j = d - 1 from by omega)
        by_cases hd : d = 0
        · have zd : decide (0 < d) = false := decide_eq_false (by omega)
          have zd' : decide ((0 : Int) < (d : Int)) = false := decide_eq_false (by omega)
          have HE2 := Lib.hid (show E = out ++ List.replicate j 0 from by rw [HENC.out, if_pos hd, List.append_nil, HJ.out])
          clear hd hjd
          have hA := AJ.out
          rw [← HE2.out] at hA
          obtain ⟨A9, c9, e9⟩ := hA.slice
          have HA9 := Lib.hid hA
          have HE9 := Lib.hid e9
          clear hA e9
          go_wp2
          go_ret
          exact ⟨A9, c9, by rw [← HE9.out]; rfl, by rw [← HE9.out]; exact HA9.out⟩
        · have zd : decide (0 < d) = true := decide_eq_true (by omega)
          have zd' : decide ((0 : Int) < (d : Int)) = true := decide_eq_true (by omega)
          have HE2 := Lib.hid (show E = (out ++ List.replicate j 0) ++ [d] from by rw [HENC.out, if_neg hd, HJ.out])
          clear hd hjd
          go_wp2_with (at_builtin; refine wpList_acc_lit rfl _ _ rfl AJ.out rfl [d] rfl (by rw [LJ.out]; simp; omega) ?_; intro v6 w6 hacc6 hg6)
          rw [← HE2.out] at hacc6
          obtain ⟨A9, c9, rfl⟩ := hacc6.slice
          go_ret
          exact ⟨A9, c9, rfl, hacc6⟩
end Go.Proofs.Ytdhkcffjhcoloaa
