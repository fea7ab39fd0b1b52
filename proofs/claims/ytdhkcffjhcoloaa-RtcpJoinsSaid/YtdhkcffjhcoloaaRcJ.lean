/- rtcp.Join: its walk. Conditions: as it says. -/
import Derived.Test.YtdhkcffjhcoloaaRcI
set_option linter.unusedVariables false
namespace Go.Proofs.Ytdhkcffjhcoloaa
open Go.RowKit

/-- Is there one that may not be? -/
def joinBad : List Pkt → Bool
  | [] => false
  | p :: l => (!p.ok || (decide (0 < p.pad) && decide (0 < l.length))) || joinBad l
def joinErr (l : List Pkt) : Nat :=
  if joinBad l = true ∨ l.length = 0 then 2 else if ((l.headD ⟨0, 0, 0, []⟩).kind == 200 || (l.headD ⟨0, 0, 0, []⟩).kind == 201) = true then 0 else 60
def encs (l : List Pkt) : List Nat := l.flatMap Pkt.enc
/-- What both answer of packets that are joined. -/
def JoinEnd (l : List Pkt) (w : World) (e : Ending) (w' : World) : Prop :=
  Only (fun _ => False) w w' ∧ ((joinErr l ≠ 0 ∧ e = .returned (.tuple #[.slice none 0 0, .int .i64 (joinErr l : Nat)])) ∨
    (joinErr l = 0 ∧ ∃ v, e = .returned (.tuple #[v, .int .i64 0]) ∧ w'.ownsRow w.heap.size 5 1 v (encs l).length (cellsOf (encs l))))
theorem drop_at {l : List Pkt} {k : Nat} {p : Pkt} (h : l[k]? = some p) : l.drop k = p :: l.drop (k + 1) := by
  obtain ⟨hk, rfl⟩ := List.getElem?_eq_some_iff.1 h
  exact List.drop_eq_getElem_cons hk
theorem enc_len (p : Pkt) : p.enc.length = 4 + p.body.length + p.pad := by
  unfold Pkt.enc
  by_cases h : p.pad = 0
  · rw [if_pos h, if_pos h]; simp [h]; omega
  · rw [if_neg h, if_neg h]; simp; omega
theorem ok_len {p : Pkt} (h : p.ok = true) : p.body.length + p.pad ≤ 262140 := by
  unfold Pkt.ok at h
  simp only [Bool.and_eq_true, decide_eq_true_eq] at h
  exact h.2

theorem joinBad_ok : ∀ {l : List Pkt}, joinBad l = false → ∀ p ∈ l, p.ok = true
  | [], _, p, hp => by cases hp
  | q :: l, h, p, hp => by
    unfold joinBad at h
    simp only [Bool.or_eq_false_iff] at h
    rcases List.mem_cons.1 hp with rfl | hp
    · simpa using h.1.1
    · exact joinBad_ok h.2 p hp
theorem encs_len : ∀ {l : List Pkt}, (∀ p ∈ l, p.ok = true) → (encs l).length ≤ 262144 * l.length
  | [], _ => by simp [encs]
  | q :: l, h => by
    have h1 := encs_len (l := l) (fun p hp => h p (by simp [hp]))
    have h2 := ok_len (h q (by simp))
    unfold encs at h1 ⊢
    rw [List.flatMap_cons, List.length_append, enc_len, List.length_cons]
    omega
theorem encs_snoc {l : List Pkt} {k : Nat} {p : Pkt} (h : l[k]? = some p) : encs (l.take (k + 1)) = encs (l.take k) ++ p.enc := by
  obtain ⟨hk, rfl⟩ := List.getElem?_eq_some_iff.1 h
  unfold encs
  rw [List.take_succ_eq_append_getElem hk, List.flatMap_append]
  simp

set_option maxRecDepth 100000 in
set_option maxHeartbeats 1000000 in
theorem join_is (v : Value) (l : List Pkt) (w : World) (hr : RdP w v l) (hf : ∀ p ∈ l, p.Fit) (hl : l.length ≤ 1000) (hb : ∀ p ∈ l, p.body.length ≤ 1000000) (ht : joinBad l = false → (encs l).length ≤ 5000000) :
    Calls Try.prog 12 #[v] w (JoinEnd l w) := by
  obtain ⟨A, c, rfl, hlc, hh⟩ := hr
  have HF := Lib.hid hf
  have HB := Lib.hid hb
  have HTT := Lib.hid ht
  have HH := Lib.hid hh
  obtain ⟨L, hL⟩ : ∃ L, l.length = L := ⟨_, rfl⟩
  have HL := Lib.hid hL
  rw [hL] at hl hlc ⊢
  clear hf hb hL hh ht
  go_enter Try.func12, Try.ntmps12
  go_wp2
  go_loopw [4, 12] (fun s4 s12 wr => ∃ k S : Nat, k ≤ L ∧ S ≤ 300000 * k ∧ s4 = .int .i64 S ∧ s12 = .int .i64 k ∧ joinBad (l.drop k) = joinBad l ∧ Only (fun _ => False) w wr) (fun _ s12 _ => L - (intOf s12).toNat)
  case atStart => exact ⟨0, 0, by omega, by omega, rfl, rfl, rfl, Only.refl _ _⟩
  case round =>
    obtain ⟨k, S, hk, hS, rfl, rfl, hbad, ho⟩ := hrel
    have HBD := Lib.hid hbad
    have O0 := Lib.hid ho
    clear hbad ho
    by_cases hkl : k < L
    · have hkb : k < l.length := by rw [HL.out]; exact hkl
      obtain ⟨p, hp⟩ : ∃ p, l[k]? = some p := ⟨_, List.getElem?_eq_getElem hkb⟩
      obtain ⟨g, o, rfl, hcell⟩ := HH.out (by rw [HL.out]; omega)
      obtain ⟨u, hu1, hu2⟩ := hcell k p hp
      have hm := List.mem_of_getElem? hp
      have HFP := Lib.hid (HF.out p hm)
      have HBP := Lib.hid (HB.out p hm)
      have HDR := Lib.hid (drop_at hp)
      have HDL := Lib.hid (show (l.drop (k + 1)).length = L - k - 1 from by rw [List.length_drop, HL.out]; omega)
      obtain ⟨q0, q1, q2, q3⟩ := hu1.only O0.out
      have S0 := Lib.hid (hu2.of_only O0.out)
      obtain ⟨Au, cu, rfl⟩ := hu2.slice
      have hkI : (k : Int) < (L : Int) := by omega
      have hwL : IntKind.i64.wrap ((L : Int) - 1) = (L : Int) - 1 := IntWalk.i64_in _ (by omega)
      have HJ := Lib.hid (show joinBad l = ((!p.ok || (decide (0 < p.pad) && decide (0 < L - k - 1))) || joinBad (l.drop (k + 1))) from by rw [← HBD.out, HDR.out, ← HDL.out]; rfl)
      clear hcell hu1 hu2 hp hm hkb
      have V1 := Lib.hid (show (#[.int .u8 (p.count : Nat), .int .u8 (p.kind : Nat), .slice Au p.body.length cu, .int .u8 (p.pad : Nat)] : Array Value).all (·.oneCell') = true from by simp [Value.oneCell'])
      go_upto_region 5 with (refine wpList_store_is rfl 36 _ _ rfl wr.heap.size #[.int .u8 (p.count : Nat), .int .u8 (p.kind : Nat), .slice Au p.body.length cu, .int .u8 (p.pad : Nat)] rfl rfl 36 zeroP (Is.made _ _ zeroP) Try.sizeRc rfl V1.out ?_; intro w2 hi2 ho2)
      have I2 := Lib.hid hi2
      have O2 := Lib.hid (only_made ho2)
      have S2 := Lib.hid (S0.out.of_only O2.out)
      have OO2 := Lib.hid (only_more O0.out O2.out)
      generalize wr.heap.size = pb at *
      clear hi2 ho2 q0 q1 q2 q3
      have c0 := I2.out.cell 0
      have c1 := I2.out.cell 1
      have c2 := I2.out.cell 2
      have c3 := I2.out.cell 3
      simp at c0 c1 c2 c3
      obtain ⟨ok, hok⟩ : ∃ b, p.ok = b := ⟨_, rfl⟩
      have HOK := Lib.hid hok
      have HRI := Lib.hid (right_is p _ w2 HFP.out S2.out (by have := HBP.out; omega))
      rw [hok] at HJ HRI
      have hpd : p.pad < 256 := HFP.out.pad
      have hbl : p.body.length ≤ 1000000 := HBP.out
      clear hok
      cases ok
      · have HE := Lib.hid (show joinErr l = 2 from by unfold joinErr; rw [if_pos (.inl (by rw [HJ.out]; rfl))])
        go_wp2_with fail
        refine HRI.out.mono ?_
        rintro e w3 ⟨rfl, ho3⟩
        have O3 := Lib.hid ho3
        clear ho3
        go_wp2
        go_ret2
        exact ⟨only_more OO2.out O3.out, .inl ⟨by rw [HE.out]; decide, by rw [HE.out]; rfl⟩⟩
      · have HPL := Lib.hid (ok_len HOK.out)
        go_wp2_with fail
        refine HRI.out.mono ?_
        rintro e w3 ⟨rfl, ho3⟩
        have O3 := Lib.hid (only_more OO2.out ho3)
        have J0 := I2.out.only ho3 (by simp)
        have c2 := J0.cell 2
        have c3 := J0.cell 3
        simp at c2 c3
        clear c0 c1 ho3 J0
        have hpl : p.body.length + p.pad ≤ 262140 := HPL.out
        generalize p.body.length = bl at *
        generalize p.pad = d at *
        have hnext : ∀ (b : Bool), b = (decide (0 < d) && decide (0 < L - k - 1)) → b = false → joinBad (l.drop (k + 1)) = joinBad l := fun b h1 h2 => by rw [HJ.out, ← h1, h2]; rfl
        have HNX := Lib.hid hnext
        clear hnext
        have hS1 : S ≤ 300000 * k := hS
        have e4 : IntKind.i64.wrap (S : Int) = (S : Int) := IntWalk.i64_in _ (by omega)
        by_cases hd : 0 < d
        · have zd : decide (0 < d) = true := decide_eq_true hd
          have zd' : decide ((0 : Int) < (d : Int)) = true := decide_eq_true (by omega)
          by_cases hi : k < L - 1
          · have HE := Lib.hid (show joinErr l = 2 from by unfold joinErr; rw [if_pos (.inl (by rw [HJ.out, decide_eq_true hd, decide_eq_true (show 0 < L - k - 1 by omega)]; rfl))])
            have zi : decide ((k : Int) < (L : Int) - 1) = true := decide_eq_true (by omega)
            clear hd hi
            go_wp2
            go_ret2
            exact ⟨O3.out, .inl ⟨by rw [HE.out]; decide, by rw [HE.out]; rfl⟩⟩
          · have zi : decide ((k : Int) < (L : Int) - 1) = false := decide_eq_false (by omega)
            have HN := Lib.hid (HNX.out _ rfl (by rw [decide_eq_false (show ¬ 0 < L - k - 1 by omega), Bool.and_false]))
            clear hd hi
            go_wp2
            exact ⟨⟨k + 1, S + (4 + bl + d), by omega, by omega, by go_num, by go_num, HN.out, O3.out⟩, by simp [intOf]; omega⟩
        · have zd : decide (0 < d) = false := decide_eq_false hd
          have zd' : decide ((0 : Int) < (d : Int)) = false := decide_eq_false (by omega)
          have HN := Lib.hid (HNX.out _ rfl (by rw [zd, Bool.false_and]))
          clear hd
          go_wp2
          exact ⟨⟨k + 1, S + (4 + bl + d), by omega, by omega, by go_num, by go_num, HN.out, O3.out⟩, by simp [intOf]; omega⟩
    · have hkl : k = L := by omega
      subst hkl
      have hjb : joinBad l = false := by
        rw [← HBD.out, List.drop_of_length_le (by rw [HL.out]; exact Nat.le_refl _)]
        rfl
      by_cases h0 : k = 0
      · have HE := Lib.hid (show joinErr l = 2 from by unfold joinErr; rw [if_pos (.inr (by rw [HL.out, h0]))])
        have z0 : ((k : Int) == 0) = true := by rw [beq_iff_eq]; omega
        clear h0 hS
        go_wp2
        go_ret2
        exact ⟨O0.out, .inl ⟨by rw [HE.out]; decide, by rw [HE.out]; rfl⟩⟩
      · have z0 : ((k : Int) == 0) = false := by rw [beq_eq_false_iff_ne]; omega
        have hkb : 0 < l.length := by rw [HL.out]; omega
        obtain ⟨p, hp⟩ : ∃ p, l[0]? = some p := ⟨_, List.getElem?_eq_getElem hkb⟩
        obtain ⟨g, o, rfl, hcell⟩ := HH.out (by omega)
        obtain ⟨u, hu1, hu2⟩ := hcell 0 p hp
        have HC := Lib.hid hcell
        have hhd : l.headD ⟨0, 0, 0, []⟩ = p := by
          cases l with
          | nil => cases hp
          | cons a t => simpa using hp
        obtain ⟨bg, hbg⟩ : ∃ b, (p.kind == 200 || p.kind == 201) = b := ⟨_, rfl⟩
        have HE := Lib.hid (show joinErr l = if bg = true then 0 else 60 from by
          unfold joinErr
          rw [if_neg (by rw [hjb, HL.out]; simp; exact h0), hhd, hbg])
        have HBG := Lib.hid hbg
        obtain ⟨-, q1, -, -⟩ := hu1.only O0.out
        simp at q1
        have x0 : 0 < k := by omega
        have x0' : (0 : Int) < (k : Int) := by omega
        have HBI := Lib.hid (begins_is p.kind wr)
        rw [hbg] at HBI
        have HAO := Lib.hid (joinBad_ok hjb)
        have HTL := Lib.hid (HTT.out hjb)
        clear hcell hu1 hu2 hp hkb hhd hbg hjb h0
        go_wp2_with fail
        refine HBI.out.mono ?_
        rintro e w3 ⟨rfl, rfl⟩
        cases bg
        · go_wp2
          go_ret2
          exact ⟨O0.out, .inl ⟨by rw [HE.out]; decide, by rw [HE.out]; rfl⟩⟩
        · obtain ⟨i0, hi, hz0, hz1, hz2⟩ := info_parts Try.infoU8
          go_wp2_with (at_make; refine wpList_make_own _ rfl _ _ 27 rfl w.heap.size 5 i0 (.int .u8 0) 1 Try.underlying27 hi hz0 hz1 .i64 .i64 _ S rfl rfl rfl (by rw [hz2]; omega) (by unfold maxLen; omega) O0.out.size ?_; intro w4 hown hg)
          have ACC := Lib.hid (show Acc w _ [] w4 from ⟨hown, O0.out.trans ((Only.refl (fun _ => False) wr).grown hg (fun i hi _ => by simp at hi)) (fun _ _ e => e)⟩)
          clear hown hg
          go_loopw [7, 56] (fun s7 s56 wx => ∃ j : Nat, j ≤ k ∧ s56 = .int .i64 j ∧ Acc w s7 (encs (l.take j)) wx) (fun _ s56 _ => k - (intOf s56).toNat)
          case atStart => exact ⟨0, by omega, rfl, by simpa [encs] using ACC.out⟩
          case round =>
            obtain ⟨j, hj, rfl, hacc⟩ := hrel
            have AJ := Lib.hid hacc
            clear hacc
            by_cases hjk : j < k
            · have hjb : j < l.length := by rw [HL.out]; exact hjk
              obtain ⟨p, hp⟩ : ∃ p, l[j]? = some p := ⟨_, List.getElem?_eq_getElem hjb⟩
              obtain ⟨u, hu1, hu2⟩ := HC.out j p hp
              have hm := List.mem_of_getElem? hp
              obtain ⟨q0, q1, q2, q3⟩ := hu1.only AJ.out.pure
              obtain ⟨Au, cu, rfl⟩ := hu2.slice
              have S0 := Lib.hid hu2
              have HEN := Lib.hid (encs_snoc hp)
              have HLE := Lib.hid (show (encs (l.take j)).length ≤ 10000000 from by
                have h1 : encs l = encs (l.take j) ++ encs (l.drop j) := by unfold encs; rw [← List.flatMap_append, List.take_append_drop]
                have h2 := congrArg List.length h1
                rw [List.length_append] at h2
                have := HTL.out
                omega)
              have HFP := Lib.hid (HF.out p hm)
              have HOP := Lib.hid (HAO.out p hm)
              have hjI : (j : Int) < (k : Int) := by omega
              have V1 := Lib.hid (show (#[.int .u8 (p.count : Nat), .int .u8 (p.kind : Nat), .slice Au p.body.length cu, .int .u8 (p.pad : Nat)] : Array Value).all (·.oneCell') = true from by simp [Value.oneCell'])
              clear hu1 hu2 hp hm hjb
              go_upto_region 17 with (refine wpList_store_is rfl 36 _ _ rfl wr.heap.size #[.int .u8 (p.count : Nat), .int .u8 (p.kind : Nat), .slice Au p.body.length cu, .int .u8 (p.pad : Nat)] rfl rfl 36 zeroP (Is.made _ _ zeroP) Try.sizeRc rfl V1.out ?_; intro w2 hi2 ho2)
              have I2 := Lib.hid hi2
              have A2 := Lib.hid (AJ.out.go (only_made ho2))
              generalize wr.heap.size = pb at *
              clear hi2 ho2 q0 q1 q2 q3
              have c0 := I2.out.cell 0
              have c1 := I2.out.cell 1
              have c2 := I2.out.cell 2
              have c3 := I2.out.cell 3
              simp at c0 c1 c2 c3
              go_wp2_with fail
              refine (written_is p _ w w2 _ _ A2.out S0.out HFP.out HOP.out HLE.out).mono ?_
              rintro e w3 ⟨v3, rfl, hacc3, -⟩
              go_wp2
              exact ⟨⟨j + 1, by omega, by go_num, by rw [HEN.out]; exact hacc3⟩, by simp [intOf]; omega⟩
            · have hjk : j = k := by omega
              subst hjk
              have hA := AJ.out
              rw [List.take_of_length_le (by rw [HL.out]; exact Nat.le_refl _)] at hA
              have HA := Lib.hid hA
              go_wp2
              go_ret2
              exact ⟨HA.out.pure, .inr ⟨by rw [HE.out]; rfl, _, rfl, HA.out.own⟩⟩
end Go.Proofs.Ytdhkcffjhcoloaa
