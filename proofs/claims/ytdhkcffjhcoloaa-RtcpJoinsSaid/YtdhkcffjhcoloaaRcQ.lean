/- easeldocs.FewRtcps, easeldocs.Rtcps. Conditions: as each says. -/
import Derived.Test.YtdhkcffjhcoloaaRcP
set_option linter.unusedVariables false
namespace Go.Proofs.Ytdhkcffjhcoloaa
open Go.RowKit

def fewB (l : List Pkt) : Bool := decide (∀ p ∈ l, p.body.length ≤ 800) && decide (l.length ≤ 10)
set_option maxRecDepth 100000 in
set_option maxHeartbeats 1000000 in
theorem few_is (v : Value) (l : List Pkt) (w : World) (hr : RdP w v l) (hl : l.length ≤ 9223372036854775807) :
    Calls Try.prog 8 #[v] w fun e w' => e = .returned (.bool (fewB l)) ∧ w = w' := by
  obtain ⟨A, c, rfl, -, hh⟩ := hr
  have HH := Lib.hid hh
  obtain ⟨L, hL⟩ : ∃ L, l.length = L := ⟨_, rfl⟩
  have HL := Lib.hid hL
  rw [hL] at hl ⊢
  clear hh hL
  go_enter Try.func8, Try.ntmps8
  go_wp2
  go_loop [3] (fun i => ∃ k : Nat, k ≤ L ∧ i = .int .i64 k ∧ ∀ p ∈ l.take k, p.body.length ≤ 800) (fun i => L - (intOf i).toNat)
  case atStart => exact ⟨0, by omega, rfl, by simp⟩
  case round =>
    obtain ⟨k, hk, rfl, hsm⟩ := hrel
    have HSM := Lib.hid hsm
    clear hsm
    by_cases hkl : k < L
    · have hkb : k < l.length := by rw [HL.out]; exact hkl
      obtain ⟨p, hp⟩ : ∃ p, l[k]? = some p := ⟨_, List.getElem?_eq_getElem hkb⟩
      obtain ⟨g, o, rfl, hcell⟩ := HH.out (by rw [HL.out]; omega)
      obtain ⟨u, ⟨-, -, q2, -⟩, hu2⟩ := hcell k p hp
      obtain ⟨Au, cu, rfl⟩ := hu2.slice
      have hkI : (k : Int) < (L : Int) := by omega
      have hm := List.mem_of_getElem? hp
      have HNX := Lib.hid (show p.body.length ≤ 800 → ∀ q ∈ l.take (k + 1), q.body.length ≤ 800 from fun h q hq => by
        rw [List.take_succ_eq_append_getElem hkb] at hq
        rcases List.mem_append.1 hq with hq | hq
        · exact HSM.out q hq
        · rw [List.mem_singleton.1 hq, show l[k] = p from by have := List.getElem?_eq_getElem hkb; rw [hp] at this; injection this with this; exact this.symm]
          exact h)
      have HNO := Lib.hid (show ¬ p.body.length ≤ 800 → fewB l = false from fun h => by
        unfold fewB
        rw [decide_eq_false (fun hh => h (hh p hm)), Bool.false_and])
      clear hcell hu2 hp hm hkb
      by_cases hb : p.body.length ≤ 800
      · have z : decide ((800 : Int) < (p.body.length : Int)) = false := decide_eq_false (by omega)
        have HN := Lib.hid (HNX.out hb)
        clear hb
        generalize p.body.length = bl at *
        go_wp2
        exact ⟨⟨k + 1, by omega, by go_num, HN.out⟩, by simp [intOf]; omega⟩
      · have z : decide ((800 : Int) < (p.body.length : Int)) = true := decide_eq_true (by omega)
        have HN := Lib.hid (HNO.out hb)
        clear hb
        generalize p.body.length = bl at *
        go_wp2
        go_ret
        exact ⟨by rw [HN.out]; rfl, rfl⟩
    · have hkl : k = L := by omega
      subst hkl
      have HT := Lib.hid (show l.take k = l from List.take_of_length_le (by rw [HL.out]; exact Nat.le_refl _))
      have HE := Lib.hid (show fewB l = decide (k ≤ 10) from by
        have := HSM.out
        rw [HT.out] at this
        unfold fewB
        rw [decide_eq_true this, Bool.true_and, HL.out])
      obtain ⟨b, hb⟩ : ∃ b, decide (k ≤ 10) = b := ⟨_, rfl⟩
      rw [hb] at HE
      have z : decide ((k : Int) ≤ 10) = b := by rw [← hb]; exact decide_eq_decide.2 (by omega)
      clear hb
      go_wp2
      go_ret
      exact ⟨by rw [HE.out]; rfl, rfl⟩

set_option maxRecDepth 100000 in
set_option maxHeartbeats 1000000 in
theorem docs_rtcps (v : Value) (l : List Pkt) (w : World) (hr : RdP w v l) (hl : l.length ≤ 1000) (hb : ∀ p ∈ l, p.body.length ≤ 1000000) :
    Calls Try.prog 10 #[v] w fun e w' => ∃ v' vs, e = .returned v' ∧ Pks w' w.heap.size 38 v' vs l ∧ Only (fun _ => False) w w' := by
  obtain ⟨A, c, rfl, -, hh⟩ := hr
  have HH := Lib.hid hh
  have HB := Lib.hid hb
  obtain ⟨L, hL⟩ : ∃ L, l.length = L := ⟨_, rfl⟩
  have HL := Lib.hid hL
  rw [hL] at hl ⊢
  clear hh hL hb
  go_enter Try.func10, Try.ntmps10
  go_wp2
  go_loopw [3, 4] (fun s3 s4 wr => ∃ (k : Nat) (vs : List Value), k ≤ L ∧ s4 = .int .i64 k ∧ Pks wr w.heap.size 38 s3 vs (l.take k) ∧ Only (fun _ => False) w wr) (fun _ s4 _ => L - (intOf s4).toNat)
  case atStart => exact ⟨0, [], by omega, rfl, by simpa using Pks.nil w w.heap.size 38, Only.refl _ _⟩
  case round =>
    obtain ⟨k, vs, hk, rfl, hp3, ho⟩ := hrel
    have P3 := Lib.hid hp3
    have O3 := Lib.hid ho
    have LT := Lib.hid (show (l.take k).length = k from by rw [List.length_take, HL.out]; omega)
    obtain ⟨A3, c3, e3, -⟩ := hp3.slice
    rw [LT.out] at e3
    subst e3
    clear hp3 ho
    by_cases hkl : k < L
    · have hkb : k < l.length := by rw [HL.out]; exact hkl
      obtain ⟨p, hp⟩ : ∃ p, l[k]? = some p := ⟨_, List.getElem?_eq_getElem hkb⟩
      obtain ⟨g, o, rfl, hcell⟩ := HH.out (by rw [HL.out]; omega)
      obtain ⟨u, hu1, hu2⟩ := hcell k p hp
      obtain ⟨q0, q1, q2, q3⟩ := hu1.only O3.out
      have S0 := Lib.hid (hu2.of_only O3.out)
      obtain ⟨Au, cu, rfl⟩ := hu2.slice
      have hkI : (k : Int) < (L : Int) := by omega
      have HTK := Lib.hid (show l.take (k + 1) = l.take k ++ [p] from by
        rw [List.take_succ_eq_append_getElem hkb]
        have := List.getElem?_eq_getElem hkb
        rw [hp] at this
        injection this with this
        rw [this])
      have HPB := Lib.hid (HB.out p (List.mem_of_getElem? hp))
      clear hcell hu1 hu2 hp hkb
      go_wp2_with fail
      refine (docs_rtcp p _ wr S0.out HPB.out).mono ?_
      rintro e w4 ⟨A4, c4, rfl, hown4, ho4⟩
      have U4 := Lib.hid hown4
      have O4 := Lib.hid ho4
      have ROW := Lib.hid (P3.out.row.only ho4 (by simp))
      have LX := Lib.hid (show (List.zipWith Pkt.lst (l.take k) vs).length ≤ 100000 from by rw [P3.out.zip, LT.out]; omega)
      have SZ := Lib.hid (show w.heap.size ≤ w4.heap.size from Nat.le_trans O3.out.size ho4.size)
      clear hown4 ho4 q0 q1 q2 q3
      go_wp2_with (at_builtin; refine wpList_append_pk sty_rp _ rfl _ _ rfl w.heap.size (.slice A3 k c3) (List.zipWith Pkt.lst (l.take k) vs) p (.slice A4 p.body.length c4) ⟨_, _, _, rfl⟩ rfl ROW.out rfl LX.out SZ.out ?_; intro v5 w5 hr5 hp5)
      refine ⟨⟨k + 1, vs ++ [.slice A4 p.body.length c4], by omega, by go_num, ?_, ?_⟩, by simp [intOf]; omega⟩
      · rw [HTK.out]
        refine ⟨by rw [zip_snoc P3.out.len]; exact hr5, ?_⟩
        rw [List.map_append]
        exact (P3.out.bods.snoc O3.out.size O4.out U4.out).far ROW.out.1 (by decide) hp5
      · exact (only_more O3.out O4.out).trans hp5 (fun i hi e => by have := (ROW.out.lt i e).1; omega)
    · have hkl : k = L := by omega
      subst hkl
      have hP := P3.out
      rw [List.take_of_length_le (by rw [HL.out]; exact Nat.le_refl _)] at hP
      have HP := Lib.hid hP
      clear hP
      go_wp2
      go_ret
      exact ⟨_, vs, rfl, HP.out, O3.out⟩
end Go.Proofs.Ytdhkcffjhcoloaa
