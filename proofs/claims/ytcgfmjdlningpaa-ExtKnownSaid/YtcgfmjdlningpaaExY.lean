/- ExtBack's walk. Conditions: as it says. -/
import Derived.Test.YtcgfmjdlningpaaExX
import Derived.Test.YtcgfmjdlningpaaExU
import Derived.Test.YtcgfmjdlningpaaExQ
set_option linter.unusedVariables false
namespace Go.Proofs.Ytcgfmjdlningpaa
open Go.RowKit

/-- Elements that may be put in a form. -/
structure May (p : Nat) (l : List El) : Prop where
  form : formB p ≠ 0
  ok : l.all (elOk (formB p == 1)) = true
  fit : ∀ x ∈ l, x.id < 256 ∧ ∀ y ∈ x.data, y < 256
  len : l.length ≤ 400
  size : (elsEnc (formB p == 1) l).length ≤ 6000
theorem elOk_len {one : Bool} {x : El} (h : elOk one x = true) : x.data.length ≤ 255 := by
  unfold elOk at h
  cases one <;> simp at h <;> omega
theorem May.data {p : Nat} {l : List El} (h : May p l) : ∀ x ∈ l, x.data.length ≤ 1000000 := fun x hx => by
  have := elOk_len (List.all_eq_true.1 h.ok x hx)
  omega
theorem May.put {p : Nat} {l : List El} (h : May p l) (hp : p < 65536) (v : Value) (w : World) (hr : RdE w v l) : Calls Try.prog 35 #[.int .u16 p, v] w (PutA 0 (exPut (formB p == 1) l) w) := by
  have e : putErr p l = 0 := by unfold putErr; rw [if_neg h.form, if_pos h.ok]
  have hl := h.len
  have hs := h.size
  refine (exput_any p v l w hr hp h.fit (by omega) h.data (fun _ => by omega)).mono (fun _ _ k => ?_)
  have := putA_of k
  rw [e, if_pos rfl] at this
  exact this
theorem exPut_le2 (one : Bool) (l : List El) : (exPut one l).length ≤ (elsEnc one l).length + 3 := by
  unfold exPut noughts4
  rw [List.length_append, List.length_replicate]
  omega
theorem May.parse {p : Nat} {l : List El} (h : May p l) (hp : p < 65536) (v : Value) (w : World) (hs : Src w v (exPut (formB p == 1) l)) : Calls Try.prog 25 #[.int .u16 p, v] w (TpE 50 l 0 w) := by
  have e : parR p (exPut (formB p == 1) l) = (0, l) := by
    unfold parR
    rw [if_neg h.form, if_neg (by rw [exPut_mod]; simp), exP_put _ l h.ok]
  have hl := exPut_le2 (formB p == 1) l
  have hz := h.size
  refine (expar_any p v _ w hs (exPut_lt _ l h.ok h.fit) hp (by omega)).mono (fun _ _ k => ?_)
  have := got_tpe k
  rw [e] at this
  exact this
theorem exP_bytes (one : Bool) (bs : List Nat) (hb : ∀ x ∈ bs, x < 256) : ∀ x ∈ (exP one bs).2, ∀ y ∈ x.data, y < 256 := by
  induction hn : bs.length using Nat.strongRecOn generalizing bs with
  | _ n ih =>
    cases bs with
    | nil => rw [exP_nil]; simp
    | cons b r =>
      rcases exKind_cases one b r with h | h | h | h | h
      · rw [exP_pad (by simp) h, show (b :: r).drop 1 = r from rfl]
        exact ih r.length (by rw [← hn, List.length_cons]; omega) r (fun x hx => hb x (by simp [hx])) rfl
      · rw [exP_end (by simp) h]; simp
      · rw [exP_bad (by simp) h]; simp
      · rw [exP_short (by simp) h]; simp
      · rw [exP_go (by simp) h]
        have hl := exLen_le h
        have := ih ((b :: r).drop (exLen one (b :: r))).length (by rw [← hn, List.length_drop]; omega) _ (fun x hx => hb x (List.mem_of_mem_drop hx)) rfl
        intro x hx
        rcases List.mem_cons.1 hx with rfl | hx
        · intro y hy
          cases one
          · exact hb y (List.mem_cons_of_mem _ (List.mem_of_mem_drop (List.mem_of_mem_take hy)))
          · exact hb y (List.mem_cons_of_mem _ (List.mem_of_mem_take hy))
        · exact this x hx
theorem may_parsed (p : Nat) (bs : List Nat) (hb : ∀ x ∈ bs, x < 256) (hl : bs.length ≤ 400) (h : (parR p bs).1 = 0) : May p (parR p bs).2 ∧ (exPut (formB p == 1) (parR p bs).2).length ≤ bs.length := by
  unfold parR at h ⊢
  by_cases hf : formB p = 0
  · rw [if_pos hf] at h; cases h
  · rw [if_neg hf] at h ⊢
    by_cases h4 : bs.length % 4 ≠ 0
    · rw [if_pos h4] at h; cases h
    · rw [if_neg h4] at h ⊢
      have h1 := exP_ok (formB p == 1) bs hb
      have h2 := exP_len (formB p == 1) bs
      exact ⟨⟨hf, h1.1, fun x hx => ⟨exP_id _ bs hb x hx, exP_bytes _ bs hb x hx⟩, by omega, by omega⟩, exPut_fit _ _ _ h1.2 (by omega)⟩
theorem formE_may (l : List El) (hf : ∀ x ∈ l, x.id < 256 ∧ ∀ y ∈ x.data, y < 256) (hl : l.length ≤ 12) : ∃ (a : Nat) (b : Bool), formE l = .tuple #[.int .u16 (a : Nat), .bool b] ∧ a < 65536 ∧ (b = true → May a l) ∧ (b = false → a = 0) := by
  unfold formE
  split
  · rename_i h
    exact ⟨48862, true, rfl, by omega, fun _ => ⟨by decide, h, hf, by omega, by have := elsEnc_le2 true l h; show (elsEnc true l).length ≤ 6000; omega⟩, by simp⟩
  · split
    · rename_i h
      exact ⟨4096, true, rfl, by omega, fun _ => ⟨by decide, h, hf, by omega, by have := elsEnc_le2 false l h; show (elsEnc false l).length ≤ 6000; omega⟩, by simp⟩
    · exact ⟨0, false, rfl, by omega, by simp, by simp⟩

set_option maxRecDepth 100000 in
set_option maxHeartbeats 4000000 in
theorem xback_any (p : Nat) (v : Value) (l : List El) (vb : Value) (bs : List Nat) (w : World) (hp : p < 65536) (hr : RdE w v l) (hf : ∀ x ∈ l, x.id < 256 ∧ ∀ y ∈ x.data, y < 256) (hl : l.length ≤ 9223372036854775807) (hd : ∀ x ∈ l, x.data.length ≤ 9223372036854775807)
    (hs : Src w vb bs) (hb : ∀ x ∈ bs, x < 256) (hbl : bs.length ≤ 9223372036854775807) :
    Calls Try.prog 6 #[.int .u16 p, v, vb] w fun e w' => e = .returned (.bool true) ∧ Only (fun _ => False) w w' := by
  have HR := Lib.hid hr
  obtain ⟨A, c, rfl, hlc, -⟩ := hr
  obtain ⟨Ab, cb, rfl⟩ := hs.slice
  have HS := Lib.hid hs
  have HB := Lib.hid hb
  have HF := Lib.hid hf
  have HFW := Lib.hid (xfew_is (.slice A l.length c) l w HR.out hl hd)
  have HWK := Lib.hid (fun w => xworks_any w)
  clear hf hd hs hb
  by_cases hfew : fewE l = false
  · rw [hfew] at HFW
    clear hfew
    go_enter Try.func6, Try.ntmps6
    go_wp2_with (first
      | (go_at_call 30; refine HFW.out.mono ?_; rintro e w1 ⟨rfl, rfl⟩)
      | (go_at_call 23; refine (HWK.out _).mono ?_; rintro e w1 ⟨rfl, ho1⟩; have O1 := Lib.hid ho1; clear ho1))
    go_ret
    exact ⟨rfl, O1.out⟩
  have hfew' : fewE l = true := by simpa using hfew
  rw [hfew'] at HFW
  obtain ⟨hl12, hd300⟩ := fewE_is hfew'
  by_cases hbig : 400 < bs.length
  · have zl : decide ((400 : Int) < (bs.length : Int)) = true := decide_eq_true (by omega)
    clear hbig hfew hfew' hd300
    go_enter Try.func6, Try.ntmps6
    go_wp2_with (first
      | (go_at_call 30; refine HFW.out.mono ?_; rintro e w1 ⟨rfl, rfl⟩)
      | (go_at_call 23; refine (HWK.out _).mono ?_; rintro e w1 ⟨rfl, ho1⟩; have O1 := Lib.hid ho1; clear ho1))
    go_ret
    exact ⟨rfl, O1.out⟩
  have zl : decide ((400 : Int) < (bs.length : Int)) = false := decide_eq_false (by omega)
  have hbl4 : bs.length ≤ 400 := by omega
  have HID := Lib.hid (fun x hx => (HF.out x hx).1)
  have HD := Lib.hid (fun x hx => Nat.le_trans (hd300 x hx) (show 300 ≤ 1000000 by decide))
  have HALL := Lib.hid (show putErr p l = 0 → May p l from fun h => by
    unfold putErr at h
    split at h
    · cases h
    · rename_i hfm
      split at h
      · rename_i hall
        have := elsEnc_le2 _ l hall
        exact ⟨hfm, hall, HF.out, by omega, by omega⟩
      · cases h)
  have HPP := Lib.hid (fun v w (h : RdE w v l) => (exput_any p v l w h hp HF.out (by omega) HD.out (fun h => by have := (HALL.out h).size; omega)).mono (fun _ _ h => putA_of h))
  have HPAR := Lib.hid (show putErr p l = 0 → ∀ v w, Src w v (if putErr p l = 0 then exPut (formB p == 1) l else []) → Calls Try.prog 25 #[.int .u16 p, v] w (TpE 50 l 0 w) from fun h v w hs => by
    rw [if_pos h] at hs
    exact (HALL.out h).parse hp v w hs)
  have HMOD := Lib.hid (show (if putErr p l = 0 then exPut (formB p == 1) l else []).length % 4 = 0 from by
    split
    · exact exPut_mod _ _
    · rfl)
  have HRFS := Lib.hid (fun v w (h : RdE w v l) => refs_is v l w h (by omega) HD.out HID.out)
  have HSAM := Lib.hid (fun va vb w (h1 : RdE w va l) (h2 : RdE w vb l) => lsame_is va vb l w h1 h2 (by omega) HD.out HID.out)
  obtain ⟨fa, fb, hfe, hfa, hfy, hfn⟩ := formE_may l HF.out hl12
  have HMP := Lib.hid (fun v w (h : RdE w v l) => form_is v l w h HID.out (by omega) HD.out)
  rw [hfe] at HMP
  have HFY := Lib.hid hfy
  have HFN := Lib.hid hfn
  have HP0 := Lib.hid (fun v w (h : RdE w v l) => (exput_any 0 v l w h (by decide) HF.out (by omega) HD.out (fun h => absurd h (by unfold putErr; rw [if_pos (by decide)]; decide))).mono (fun _ _ h => putA_of h))
  rw [show putErr 0 l = 30 from by unfold putErr; rw [if_pos (by decide)]] at HP0
  have HPB := Lib.hid (fun v w (h : Src w v bs) => (expar_any p v bs w h HB.out hp (by omega)).mono (fun _ _ h => got_tpe h))
  have HMB := Lib.hid (show (parR p bs).1 = 0 → May p (if (parR p bs).1 = 0 then (parR p bs).2 else []) ∧ (exPut (formB p == 1) (if (parR p bs).1 = 0 then (parR p bs).2 else [])).length ≤ bs.length from fun h => by
    rw [if_pos h]
    exact may_parsed p bs HB.out hbl4 h)
  have HPU := Lib.hid hp
  have HFA := Lib.hid hfa
  clear hfe hfew hfew' hd300 hfy hfn HALL hbig hbl hl
  generalize (if (parR p bs).1 = 0 then (parR p bs).2 else []) = mm at *
  generalize (parR p bs).1 = km at *
  generalize (if putErr p l = 0 then exPut (formB p == 1) l else []) = out at *
  generalize putErr p l = pe at *
  go_enter Try.func6, Try.ntmps6
  go_upto_if 39 with (first
    | (go_at_call 30; refine HFW.out.mono ?_; rintro e w1 ⟨rfl, rfl⟩)
    | (go_at_call 35; refine (HPP.out _ _ HR.out).mono ?_; rintro e w1 ⟨v1, rfl, hv1, ho1⟩; obtain ⟨A1, c1, h1, -⟩ := own_slice hv1; subst h1; have V1 := Lib.hid hv1; have O1 := Lib.hid ho1; clear hv1 ho1))
  go_cut [] (fun wx => Only (fun _ => False) w1 wx)
  case first =>
    by_cases h0 : pe = 0
    · have ez : ((pe : Int) == 0) = true := by simp [h0]
      have HPR := Lib.hid (HPAR.out h0)
      have em : ((out.length : Int) % 4 != 0) = false := by have := HMOD.out; simp; omega
      clear h0
      go_wp2_with fail
      refine (HPR.out _ _ (Src.of_own V1.out)).mono ?_
      rintro e w2 ⟨v2, vs2, rfl, hE2, ho2⟩
      obtain ⟨A2, c2, h2, -⟩ := hE2.slice
      subst h2
      have R2 := Lib.hid hE2.rd
      have O2 := Lib.hid ho2
      clear hE2 ho2
      go_wp2_with fail
      refine (HRFS.out _ _ (HR.out.only (only_more O1.out O2.out))).mono ?_
      rintro e w3 ⟨v3, vs3, rfl, hE3, ho3⟩
      obtain ⟨A3, c3, h3, -⟩ := hE3.slice
      subst h3
      have R3 := Lib.hid hE3.rd
      have O3 := Lib.hid ho3
      clear hE3 ho3
      go_wp2_with fail
      refine (HSAM.out _ _ _ (R2.out.only O3.out) R3.out).mono ?_
      rintro e w4 ⟨rfl, ho4⟩
      have O4 := Lib.hid ho4
      clear ho4
      go_wp2_with fail
      go_meet
      exact only_more O2.out (only_more O3.out O4.out)
    · have ez : ((pe : Int) == 0) = false := by simp; omega
      clear h0
      go_wp2_with fail
      go_meet
      exact Only.refl _ _
  case rest =>
    have OC := Lib.hid (only_more O1.out hcut)
    clear hcut O1 V1 HPP HPAR HMOD HFW
    go_upto_if 68 with ((go_at_call 25; refine (HPB.out _ _ (HS.out.of_only OC.out)).mono ?_; rintro e w2 ⟨v2, vs2, rfl, hE2, ho2⟩; obtain ⟨A2, c2, h2, -⟩ := hE2.slice; subst h2; have R2 := Lib.hid hE2.rd; have O2 := Lib.hid ho2; clear hE2 ho2))
    go_cut [] (fun wx => Only (fun _ => False) w2 wx)
    case first =>
      by_cases h0 : km = 0
      · have ez : ((km : Int) == 0) = true := by simp [h0]
        obtain ⟨hm, hfit⟩ := HMB.out h0
        have HM := Lib.hid hm
        have HPM := Lib.hid (fun v w h => hm.put HPU.out v w h)
        have HPQ := Lib.hid (fun v w h => hm.parse HPU.out v w h)
        have HML := Lib.hid (show mm.length ≤ 1000 from by have := hm.len; omega)
        clear h0 hm HMB
        generalize exPut (formB p == 1) mm = out2 at *
        have zf : decide (bs.length < out2.length) = false := decide_eq_false (by omega)
        have zf2 : decide ((bs.length : Int) < (out2.length : Int)) = false := decide_eq_false (by omega)
        go_wp2_with fail
        refine (HPM.out _ _ (R2.out)).mono ?_
        rintro e w3 ⟨v3, rfl, hv3, ho3⟩
        obtain ⟨A3, c3, h3, -⟩ := own_slice hv3
        subst h3
        have V3 := Lib.hid hv3
        have O3 := Lib.hid ho3
        clear hv3 ho3
        go_wp2_with fail
        refine (HPQ.out _ _ (Src.of_own V3.out)).mono ?_
        rintro e w4 ⟨v4, vs4, rfl, hE4, ho4⟩
        obtain ⟨A4, c4, h4, -⟩ := hE4.slice
        subst h4
        have R4 := Lib.hid hE4.rd
        have O4 := Lib.hid ho4
        clear hE4 ho4
        go_wp2_with fail
        refine ((fun v w h => refs_is v mm w h (by have := HML.out; omega) HM.out.data (fun x hx => (HM.out.fit x hx).1)) _ _ (R2.out.only (only_more O3.out O4.out))).mono ?_
        rintro e w5 ⟨v5, vs5, rfl, hE5, ho5⟩
        obtain ⟨A5, c5, h5, -⟩ := hE5.slice
        subst h5
        have R5 := Lib.hid hE5.rd
        have O5 := Lib.hid ho5
        clear hE5 ho5
        go_wp2_with fail
        refine (lsame_is _ _ mm _ (R4.out.only O5.out) R5.out (by have := HML.out; omega) HM.out.data (fun x hx => (HM.out.fit x hx).1)).mono ?_
        rintro e w6 ⟨rfl, ho6⟩
        have O6 := Lib.hid ho6
        clear ho6
        go_wp2_with fail
        go_meet
        exact only_more O3.out (only_more O4.out (only_more O5.out O6.out))
      · have ez : ((km : Int) == 0) = false := by simp; omega
        clear h0
        go_wp2_with fail
        go_meet
        exact Only.refl _ _
    case rest =>
      have OD := Lib.hid (only_more OC.out (only_more O2.out hcut))
      clear hcut O2 OC R2 HPB HMB
      cases fb
      · have ef : ((fa : Int) == 0) = true := by simp [HFN.out rfl]
        have HPF := Lib.hid (fun v w (h : RdE w v l) => show Calls Try.prog 35 #[.int .u16 (fa : Nat), v] w (PutA 30 (if 30 = 0 then exPut (formB 0 == 1) l else []) w) from by rw [HFN.out rfl]; exact HP0.out v w h)
        clear HP0
        go_upto_region 15 with ((go_at_call 37; refine (HMP.out _ _ (HR.out.only OD.out)).mono ?_; rintro e w3 ⟨rfl, ho3⟩; have O3 := Lib.hid ho3; clear ho3))
        go_wp2_with fail
        refine (HPF.out _ _ (HR.out.only (only_more OD.out O3.out))).mono ?_
        rintro e w4 ⟨v4, rfl, hv4, ho4⟩
        obtain ⟨A4, c4, h4, -⟩ := own_slice hv4
        subst h4
        have V4 := Lib.hid hv4
        have O4 := Lib.hid ho4
        clear hv4 ho4
        go_wp2_with fail
        refine (HWK.out _).mono ?_
        rintro e w5 ⟨rfl, ho5⟩
        have O5 := Lib.hid ho5
        clear ho5
        go_wp2
        go_ret
        exact ⟨rfl, only_more OD.out (only_more O3.out (only_more O4.out O5.out))⟩
      · have HMY := Lib.hid (HFY.out rfl)
        have HPM := Lib.hid (fun v w h => HMY.out.put HFA.out v w h)
        have HPQ := Lib.hid (fun v w h => HMY.out.parse HFA.out v w h)
        generalize exPut (formB fa == 1) l = out2 at *
        go_upto_region 15 with ((go_at_call 37; refine (HMP.out _ _ (HR.out.only OD.out)).mono ?_; rintro e w3 ⟨rfl, ho3⟩; have O3 := Lib.hid ho3; clear ho3))
        go_wp2_with fail
        refine (HPM.out _ _ (HR.out.only (only_more OD.out O3.out))).mono ?_
        rintro e w4 ⟨v4, rfl, hv4, ho4⟩
        obtain ⟨A4, c4, h4, -⟩ := own_slice hv4
        subst h4
        have V4 := Lib.hid hv4
        have O4 := Lib.hid ho4
        clear hv4 ho4
        go_wp2_with fail
        refine (HPQ.out _ _ (Src.of_own V4.out)).mono ?_
        rintro e w5 ⟨v5, vs5, rfl, hE5, ho5⟩
        obtain ⟨A5, c5, h5, -⟩ := hE5.slice
        subst h5
        have R5 := Lib.hid hE5.rd
        have O5 := Lib.hid ho5
        clear hE5 ho5
        go_wp2_with fail
        refine (HRFS.out _ _ (HR.out.only (only_more OD.out (only_more O3.out (only_more O4.out O5.out))))).mono ?_
        rintro e w6 ⟨v6, vs6, rfl, hE6, ho6⟩
        obtain ⟨A6, c6, h6, -⟩ := hE6.slice
        subst h6
        have R6 := Lib.hid hE6.rd
        have O6 := Lib.hid ho6
        clear hE6 ho6
        go_wp2_with fail
        refine (HSAM.out _ _ _ (R5.out.only O6.out) R6.out).mono ?_
        rintro e w7 ⟨rfl, ho7⟩
        have O7 := Lib.hid ho7
        clear ho7
        go_wp2_with fail
        refine (HWK.out _).mono ?_
        rintro e w8 ⟨rfl, ho8⟩
        have O8 := Lib.hid ho8
        clear ho8
        go_wp2
        go_ret
        exact ⟨rfl, only_more OD.out (only_more O3.out (only_more O4.out (only_more O5.out (only_more O6.out (only_more O7.out O8.out)))))⟩
theorem xback_args {W : World} {p : Nat} {v vb : Value} {l : List El} {bs : List Nat} (hp : p < 65536) (hr : RdE W v l) (hf : ∀ x ∈ l, x.id < 256 ∧ ∀ y ∈ x.data, y < 256) (hl : l.length ≤ 9223372036854775807) (hd : ∀ x ∈ l, x.data.length ≤ 9223372036854775807)
    (hs : Src W vb bs) (hb : ∀ x ∈ bs, x < 256) (hbl : bs.length ≤ 9223372036854775807) :
    Calls Try.prog 6 #[.int .u16 p, v, vb] W fun e w' => e = .returned (.bool true) ∧ Below W.heap.size W w' := by
  refine (xback_any p v l vb bs W hp hr hf hl hd hs hb hbl).mono ?_
  rintro e w' ⟨rfl, ho⟩
  exact ⟨rfl, Only.below ho (fun i hi => hi.elim) (Nat.le_refl _)⟩
end Go.Proofs.Ytcgfmjdlningpaa
