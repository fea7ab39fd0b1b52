/- ExtPuts' walk. Conditions: as it says. -/
import Derived.Test.YtcgfmjdlningpaaExW
import Derived.Test.YtcgfmjdlningpaaExV
import Derived.Test.YtcgfmjdlningpaaExC
import Derived.Test.YtcgfmjdlningpaaSpo
set_option linter.unusedVariables false
namespace Go.Proofs.Ytcgfmjdlningpaa
open Go.RowKit

/-- What both answer when elements are put. -/
def PutA (r : Nat) (out : List Nat) (w : World) (e : Ending) (w' : World) : Prop :=
  ∃ v, e = .returned (.tuple #[v, .int .i64 (r : Nat)]) ∧ w'.ownsRow w.heap.size 5 1 v out.length (cellsOf out) ∧ Only (fun _ => False) w w'
theorem putA_of {r : Nat} {out : List Nat} {w w' : World} {e : Ending} (h : ExPutEnd r out w e w') : PutA r (if r = 0 then out else []) w e w' := by
  obtain ⟨ho, ⟨hne, rfl⟩ | ⟨h0, v, rfl, hv⟩⟩ := h
  · rw [if_neg hne]
    exact ⟨_, rfl, World.ownsRow_nil _ _ _ _, ho⟩
  · rw [if_pos h0, h0]
    exact ⟨v, rfl, hv, ho⟩
def fdat (id : Nat) (l : List El) : List Nat := ((findEl id l).map El.data).getD []
def fhas (id : Nat) (l : List El) : Bool := (findEl id l).isSome
def FindA (d : List Nat) (b : Bool) (w : World) (e : Ending) (w' : World) : Prop :=
  ∃ v, e = .returned (.tuple #[v, .bool b]) ∧ w'.ownsRow w.heap.size 5 1 v d.length (cellsOf d) ∧ Only (fun _ => False) w w'
theorem findA_of {id : Nat} {l : List El} {w w' : World} {e : Ending} (h : FindEnd (findEl id l) w e w') : FindA (fdat id l) (fhas id l) w e w' := by
  unfold fdat fhas
  obtain ⟨ho, ⟨h0, rfl⟩ | ⟨x, h1, v, rfl, hv⟩⟩ := h
  · rw [h0]
    exact ⟨_, rfl, World.ownsRow_nil _ _ _ _, ho⟩
  · rw [h1]
    exact ⟨v, rfl, hv, ho⟩
def RFindA (d : List Nat) (b : Bool) (w : World) (e : Ending) (w' : World) : Prop :=
  ∃ v, e = .returned (.tuple #[v, .bool b]) ∧ Src w' v d ∧ Only (fun _ => False) w w'
theorem rfindA_of {id : Nat} {l : List El} {w w' : World} {e : Ending} (h : RFindEnd (findEl id l) w e w') : RFindA (fdat id l) (fhas id l) w e w' := by
  unfold fdat fhas
  obtain ⟨ho, ⟨h0, rfl⟩ | ⟨x, h1, v, rfl, hv⟩⟩ := h
  · rw [h0]
    exact ⟨_, rfl, .inl ⟨rfl, rfl⟩, ho⟩
  · rw [h1]
    exact ⟨v, rfl, hv, ho⟩
theorem formE_is (l : List El) : ∃ (a : Nat) (b : Bool), formE l = .tuple #[.int .u16 (a : Nat), .bool b] := by
  unfold formE
  split
  · exact ⟨48862, true, rfl⟩
  · split
    · exact ⟨4096, true, rfl⟩
    · exact ⟨0, false, rfl⟩
theorem fewE_is {l : List El} (h : fewE l = true) : l.length ≤ 12 ∧ ∀ x ∈ l, x.data.length ≤ 300 := by
  unfold fewE at h
  simp only [Bool.and_eq_true, decide_eq_true_eq] at h
  refine ⟨h.2, fun x hx => h.1 x ?_⟩
  rw [List.take_of_length_le (by omega)]
  exact hx
theorem fdat_le (id : Nat) {l : List El} (h : ∀ x ∈ l, x.data.length ≤ 300) : (fdat id l).length ≤ 300 := by
  unfold fdat
  cases hf : findEl id l with
  | none => simp
  | some x => exact h x (List.mem_of_find?_eq_some hf)
theorem exPut_le (one : Bool) {l : List El} (h : l.all (elOk one) = true) (hl : l.length ≤ 1000) : (elsEnc one l).length ≤ 100000 ∨ 389 < l.length := by
  have := elsEnc_le2 one l h
  omega

set_option maxRecDepth 100000 in
set_option maxHeartbeats 4000000 in
theorem xputs_any (p : Nat) (v : Value) (l : List El) (id : Nat) (w : World) (hp : p < 65536) (hid : id < 256) (hr : RdE w v l) (hf : ∀ x ∈ l, x.id < 256 ∧ ∀ y ∈ x.data, y < 256) (hl : l.length ≤ 9223372036854775807) (hd : ∀ x ∈ l, x.data.length ≤ 9223372036854775807) :
    Calls Try.prog 5 #[.int .u16 p, v, .int .u8 id] w fun e w' => e = .returned (.bool true) ∧ Only (fun _ => False) w w' := by
  have HR := Lib.hid hr
  obtain ⟨A, c, rfl, hlc, -⟩ := hr
  have HF := Lib.hid hf
  have HFW := Lib.hid (xfew_is (.slice A l.length c) l w HR.out hl hd)
  have HWK := Lib.hid (fun w => xworks_any w)
  clear hf hd
  by_cases hfew : fewE l = false
  · rw [hfew] at HFW
    clear hfew
    go_enter Try.func5, Try.ntmps5
    go_wp2_with (first
      | (go_at_call 30; refine HFW.out.mono ?_; rintro e w1 ⟨rfl, rfl⟩)
      | (go_at_call 23; refine (HWK.out _).mono ?_; rintro e w1 ⟨rfl, ho1⟩; have O1 := Lib.hid ho1; clear ho1))
    go_ret
    exact ⟨rfl, O1.out⟩
  · have hfew' : fewE l = true := by simpa using hfew
    rw [hfew'] at HFW
    obtain ⟨hl12, hd300⟩ := fewE_is hfew'
    have HID := Lib.hid (fun x hx => (HF.out x hx).1)
    have HD := Lib.hid (fun x hx => Nat.le_trans (hd300 x hx) (show 300 ≤ 1000000 by decide))
    have HFD := Lib.hid (fdat_le id hd300)
    have HPP := Lib.hid (fun v w (h : RdE w v l) => (exput_any p v l w h hp HF.out (by omega) HD.out (fun h => by
      have hall : l.all (elOk (formB p == 1)) = true := by
        unfold putErr at h
        split at h
        · cases h
        · split at h
          · assumption
          · cases h
      have := elsEnc_le2 _ l hall
      omega)).mono (fun _ _ h => putA_of h))
    have HPR := Lib.hid (fun v w (h : RdE w v l) => (rput_any p v l w h HID.out (by omega) HD.out).mono (fun _ _ h => putA_of h))
    have HFP := Lib.hid (fun v w (h : RdE w v l) => (find_is id v l w h HID.out hid (by omega) HD.out).mono (fun _ _ h => findA_of h))
    have HFR := Lib.hid (fun v w (h : RdE w v l) => (rfind_is id v l w h HID.out hid (by omega)).mono (fun _ _ h => rfindA_of h))
    obtain ⟨fa, fb, hfe⟩ := formE_is l
    have HMP := Lib.hid (fun v w (h : RdE w v l) => form_is v l w h HID.out (by omega) HD.out)
    have HMR := Lib.hid (fun v w (h : RdE w v l) => rform_is v l w h HID.out (by omega) HD.out)
    rw [hfe] at HMP HMR
    have HRF := Lib.hid (refs_is (.slice A l.length c) l w HR.out (by omega) HD.out HID.out)
    have HOL := Lib.hid (show (if putErr p l = 0 then exPut (formB p == 1) l else []).length ≤ 100000 from by
      split
      · rename_i h
        have hall : l.all (elOk (formB p == 1)) = true := by
          unfold putErr at h
          split at h
          · cases h
          · split at h
            · assumption
            · cases h
        have := elsEnc_le2 _ l hall
        unfold exPut noughts4
        rw [List.length_append, List.length_replicate]
        omega
      · simp)
    clear hfe hfew hfew'
    generalize (if putErr p l = 0 then exPut (formB p == 1) l else []) = out at *
    generalize putErr p l = pe at *
    generalize fdat id l = fd at *
    generalize fhas id l = fh at *
    obtain ⟨L, hL⟩ : ∃ n, l.length = n := ⟨_, rfl⟩
    have HL := Lib.hid hL
    rw [hL] at hl12 hlc HR HFW HRF ⊢
    have e1 : ((pe : Int) != (pe : Int)) = false := by simp
    have e2 : (fh != fh) = false := by simp
    have e3 : ((fa : Int) != (fa : Int)) = false := by simp
    have e4 : (fb != fb) = false := by simp
    clear hL hd300 hl hp hid
    go_enter Try.func5, Try.ntmps5
    go_upto_region 4 with (first
      | (go_at_call 30; refine HFW.out.mono ?_; rintro e w1 ⟨rfl, rfl⟩)
      | (go_at_call 31; refine HRF.out.mono ?_; rintro e w1 ⟨v1, vs1, rfl, hE1, ho1⟩; obtain ⟨A1, c1, h1, -⟩ := hE1.slice; rw [HL.out] at h1; subst h1; have R1 := Lib.hid hE1.rd; have O1 := Lib.hid ho1; clear hE1 ho1))
    go_upto_region 5 with (go_at_call 32; refine (HPR.out _ _ R1.out).mono ?_; rintro e w2 ⟨v2, rfl, hv2, ho2⟩; have S2 := Lib.hid (Src.of_own hv2); obtain ⟨A2, c2, rfl, -⟩ := own_slice hv2; have O2 := Lib.hid ho2; clear hv2 ho2)
    go_upto_region 6 with (go_at_call 33; refine (HFR.out _ _ (R1.out.only O2.out)).mono ?_; rintro e w3 ⟨v3, rfl, hv3, ho3⟩; have S3 := Lib.hid hv3; obtain ⟨A3, c3, rfl⟩ := hv3.slice; have O3 := Lib.hid ho3; clear hv3 ho3)
    go_upto_region 7 with (go_at_call 34; refine (HMR.out _ _ (R1.out.only (only_more O2.out O3.out))).mono ?_; rintro e w4 ⟨rfl, ho4⟩; have O4 := Lib.hid ho4; clear ho4)
    have S24 := Lib.hid (S2.out.of_only (only_more O3.out O4.out))
    have S34 := Lib.hid (S3.out.of_only O4.out)
    have R14 := Lib.hid (R1.out.only (only_more O2.out (only_more O3.out O4.out)))
    have T4 := Lib.hid (only_more O1.out (only_more O2.out (only_more O3.out O4.out)))
    have R4 := Lib.hid (HR.out.only T4.out)
    clear S2 S3 R1 O1 O2 O3 O4 HPR HFR HMR HRF HFW
    go_wp2
    go_loopw [14] (fun i wr => ∃ k : Nat, k ≤ 2 ∧ i = .int .i64 k ∧ Only (fun _ => False) w4 wr) (fun i _ => 2 - (intOf i).toNat)
    case atStart => exact ⟨0, by omega, rfl, Only.refl _ _⟩
    case round =>
      obtain ⟨k, hk, rfl, hpw⟩ := hrel
      have HPW := Lib.hid hpw
      clear hpw
      by_cases hlt : k < 2
      · have zk : (k : Int) < 2 := by omega
        go_upto_region 11 with (go_at_call 35; refine (HPP.out _ _ (R4.out.only HPW.out)).mono ?_; rintro e w5 ⟨v5, rfl, hv5, ho5⟩; obtain ⟨A5, c5, h5, -⟩ := own_slice hv5; subst h5; have V5 := Lib.hid hv5; have O5 := Lib.hid ho5; clear hv5 ho5)
        go_upto_region 12 with (go_at_call 36; refine (HFP.out _ _ (R4.out.only (only_more HPW.out O5.out))).mono ?_; rintro e w6 ⟨v6, rfl, hv6, ho6⟩; obtain ⟨A6, c6, h6, -⟩ := own_slice hv6; subst h6; have V6 := Lib.hid hv6; have O6 := Lib.hid ho6; clear hv6 ho6)
        go_upto_region 13 with (go_at_call 37; refine (HMP.out _ _ (R4.out.only (only_more HPW.out (only_more O5.out O6.out)))).mono ?_; rintro e w7 ⟨rfl, ho7⟩; have O7 := Lib.hid ho7; clear ho7)
        have OB := Lib.hid (own_only V5.out (only_more O6.out O7.out) (by simp))
        have OC := Lib.hid (own_only V6.out O7.out (by simp))
        have W7 := Lib.hid (only_more HPW.out (only_more O5.out (only_more O6.out O7.out)))
        have BC := Lib.hid (show wr.heap.size ≤ w5.heap.size from O5.out.size)
        have HS1 := Lib.hid (xsame_yes (.slice A5 out.length c5) (.slice A2 out.length c2) out w7 (Src.of_own OB.out) (S24.out.of_only W7.out) (by have := HOL.out; omega))
        have HS2 := Lib.hid (fun w8 (h : Only (fun _ => False) w7 w8) => xsame_yes (.slice A6 fd.length c6) (.slice A3 fd.length c3) fd w8 (Src.of_own (own_only OC.out h (by simp))) (S34.out.of_only (only_more W7.out h)) (by have := HFD.out; omega))
        obtain ⟨B5, hB5⟩ : ∃ n, wr.heap.size = n := ⟨_, rfl⟩
        obtain ⟨B6, hB6⟩ : ∃ n, w5.heap.size = n := ⟨_, rfl⟩
        rw [hB5] at OB
        rw [hB6] at OC
        have HB5 := Lib.hid hB5
        have HB6 := Lib.hid hB6
        clear V5 V6 hB5 hB6 HPP HFP HMP
        go_upto_region 15 with (first
          | (go_at_call 22; (with_reducible refine HS1.out.mono ?_); rintro e w8 ⟨rfl, ho8⟩; have O8 := Lib.hid ho8; clear ho8)
          | (go_at_call 22; (with_reducible refine (HS2.out _ O8.out).mono ?_); rintro e w9 ⟨rfl, ho9⟩; have O9 := Lib.hid (only_more O8.out ho9); clear ho9))
        have OB9 := Lib.hid (own_only OB.out O9.out (by simp))
        have OC9 := Lib.hid (own_only OC.out O9.out (by simp))
        have HSO := Lib.hid (spoil_own _ _ _ _ _ OB9.out (by have := HOL.out; omega))
        go_upto_region 16 with (go_at_call 27; refine HSO.out.mono ?_; rintro e w10 ⟨rfl, ho10, zs10, hz10⟩; have O10 := Lib.hid ho10; have Z10 := Lib.hid hz10; clear ho10 hz10)
        have hc10 := spoil_other OB9.out OC9.out O10.out Z10.out
        obtain ⟨ys10, hy10⟩ := hc10
        have HSP := Lib.hid (spoil_own _ _ _ _ _ hy10 (by have := HFD.out; omega))
        have OCB := Lib.hid hy10
        clear hy10
        go_wp2_with (go_at_call 27; refine HSP.out.mono ?_; rintro e w11 ⟨rfl, ho11, -⟩; have O11 := Lib.hid ho11; clear ho11)
        have W9 := Lib.hid (only_more W7.out O9.out)
        have SZ := Lib.hid (HPW.out.size)
        have W11 := Lib.hid ((W9.out.trans O10.out (fun i hi e => by have := (OB9.out.lt i e).1; have := HB5.out; have := SZ.out; omega)).trans O11.out (fun i hi e => by have := (OCB.out.lt i e).1; have := HB5.out; have := HB6.out; have := BC.out; have := SZ.out; omega))
        refine ⟨⟨k + 1, by omega, by go_num, W11.out⟩, by simp [intOf]; omega⟩
      · obtain rfl : k = 2 := by omega
        have HSM := Lib.hid (lsame_is (.slice A L c) (.slice A1 L c1) l wr (R4.out.only HPW.out) (R14.out.only HPW.out) (by have := HL.out; omega) HD.out HID.out)
        go_wp2_with (first
          | (go_at_call 26; refine HSM.out.mono ?_; rintro e w5 ⟨rfl, ho5⟩; have O5 := Lib.hid ho5; clear ho5)
          | (go_at_call 23; refine (HWK.out _).mono ?_; rintro e w6 ⟨rfl, ho6⟩; have O6 := Lib.hid (only_more O5.out ho6); clear ho6))
        go_ret
        exact ⟨rfl, only_more T4.out (only_more HPW.out O6.out)⟩
theorem xputs_args {W : World} {p id : Nat} {v : Value} {l : List El} (hp : p < 65536) (hid : id < 256) (hr : RdE W v l) (hf : ∀ x ∈ l, x.id < 256 ∧ ∀ y ∈ x.data, y < 256) (hl : l.length ≤ 9223372036854775807) (hd : ∀ x ∈ l, x.data.length ≤ 9223372036854775807) :
    Calls Try.prog 5 #[.int .u16 p, v, .int .u8 id] W fun e w' => e = .returned (.bool true) ∧ Below W.heap.size W w' := by
  refine (xputs_any p v l id W hp hid hr hf hl hd).mono ?_
  rintro e w' ⟨rfl, ho⟩
  exact ⟨rfl, Only.below ho (fun i hi => hi.elim) (Nat.le_refl _)⟩
end Go.Proofs.Ytcgfmjdlningpaa
