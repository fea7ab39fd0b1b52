/- easelref07.Numbers. Conditions: as it says. -/
import Derived.Test.YtefcimkopgcagaaFbGr
set_option linter.unusedVariables false
namespace Go.Proofs.Ytefcimkopgcagaa
open Go.RowKit
theorem tell_div (b d : Nat) (hb : b < 65536) : ((RowKit.wrap64 ((b : Int) / (d : Int))).tmod 2 == 1) = decide (b / d % 2 = 1) := by
  have h1 : b / d < 65536 := Nat.lt_of_le_of_lt (Nat.div_le_self _ _) hb
  have e : (b : Int) / (d : Int) = ((b / d : Nat) : Int) := by simp
  rw [e]
  generalize b / d = q at *
  clear e
  rw [IntWalk.wrap64_in _ (by omega), Int.tmod_eq_emod_of_nonneg (by omega)]
  by_cases h : q % 2 = 1
  · rw [decide_eq_true h, beq_iff_eq]; omega
  · rw [decide_eq_false h, beq_eq_false_iff_ne]; omega

set_option maxRecDepth 100000 in
set_option maxHeartbeats 2000000 in
theorem rnumbers_is (v : Value) (l : List Pr) (w : World) (hr : RdP w v l) (hl : l.length ≤ 1000) (hf : ∀ p ∈ l, p.Fit) :
    Calls Try.prog 32 #[v] w fun e w' => ∃ v', e = .returned v' ∧ OwnN w.heap.size v' (numsOf l) w' ∧ Only (fun _ => False) w w' := by
  obtain ⟨A1, c1, rfl, hlc1, hh1⟩ := hr
  have HF := Lib.hid hf
  have H1 := Lib.hid hh1
  obtain ⟨L, hL⟩ : ∃ L, l.length = L := ⟨_, rfl⟩
  have HL := Lib.hid hL
  have HLL := Lib.hid hl
  rw [hL] at hl hlc1 ⊢
  obtain ⟨B, hB⟩ : ∃ n, w.heap.size = n := ⟨_, rfl⟩
  have HB := Lib.hid hB
  rw [hB]
  clear hf hL hh1 hB
  go_enter Try.func32, Try.ntmps32
  go_wp2
  go_loopw [3, 4] (fun s3 s9 wr => ∃ k : Nat, k ≤ L ∧ s9 = .int .i64 k ∧ OwnN B s3 (numsOf (l.take k)) wr ∧ Only (fun _ => False) w wr) (fun _ s9 _ => L - (intOf s9).toNat)
  case atStart => exact ⟨0, by omega, rfl, OwnN.nil w B, Only.refl _ _⟩
  case round =>
    obtain ⟨k, hk, rfl, hown, ho⟩ := hrel
    have OW := Lib.hid hown
    have O3 := Lib.hid ho
    obtain ⟨A3, c3, e3, -⟩ := hown.slice
    obtain ⟨n3, hn3⟩ : ∃ n, (numsOf (l.take k)).length = n := ⟨_, rfl⟩
    have HN3 := Lib.hid hn3
    rw [hn3] at e3
    subst e3
    clear hown ho hn3
    by_cases hkl : k < L
    · have hkb : k < l.length := by rw [HL.out]; exact hkl
      obtain ⟨p, hx⟩ : ∃ x, l[k]? = some x := ⟨_, List.getElem?_eq_getElem hkb⟩
      obtain ⟨g, o, rfl, hcell⟩ := H1.out (by rw [HL.out]; omega)
      have P0 := Lib.hid (hcell k p hx)
      have HGW := Lib.hid (show g < w.heap.size from World.block_lt_of_cell? w _ (hcell k p hx).1)
      obtain ⟨q0, q1⟩ := P0.out.only O3.out (by simp)
      obtain ⟨hp1, hp2⟩ := HF.out p (List.mem_of_getElem? hx)
      have HX := Lib.hid hx
      have hkI : (k : Int) < (L : Int) := by omega
      have SZ4 := Lib.hid (show B ≤ wr.heap.size from by rw [← HB.out]; exact O3.out.size)
      have LN := Lib.hid (show (numsOf (l.take k)).length ≤ 100000 from by have h := numsOf_len (l.take k); rw [List.length_take] at h; have := HLL.out; omega)
      clear hcell hx hkb
      go_upto_region 6 with (refine wpList_append_num _ rfl (.tmp 13) (.tmp 19) rfl B (.slice A3 n3 c3) (numsOf (l.take k)) p.pid rfl OW.out _ rfl rfl LN.out SZ4.out ?_; intro v5 w5 h5 ho5; have OW5 := Lib.hid h5; have O5 := Lib.hid ho5; clear h5 ho5)
      have T5 := Lib.hid (O3.out.trans O5.out (fun i hi e => by have := (OW.out.1.lt i e).1; have := HB.out; omega))
      have W5 := Lib.hid (show OwnN B v5 (Amid l k p 1) w5 from OW5.out)
      clear O3 OW O5 OW5 SZ4 LN q0 q1
      go_wp2
      go_loopw [3, 5, 6] (fun s3 s5 s6 wx => ∃ j : Nat, 1 ≤ j ∧ j ≤ 17 ∧ s5 = .int .i64 ((2 ^ (j - 1) : Nat) : Int) ∧ s6 = .int .i64 j ∧ OwnN B s3 (Amid l k p j) wx ∧ Only (fun _ => False) w wx) (fun _ _ s6 _ => 17 - (intOf s6).toNat)
      case atStart => exact ⟨1, by omega, by omega, rfl, rfl, W5.out, T5.out⟩
      case round =>
        clear W5 T5
        obtain ⟨j, hj1, hj, rfl, rfl, hown, ho⟩ := hrel
        have OWJ := Lib.hid hown
        have TJ := Lib.hid ho
        obtain ⟨A6, c6, e6, -⟩ := hown.slice
        obtain ⟨n6, hn6⟩ : ∃ n, (Amid l k p j).length = n := ⟨_, rfl⟩
        have HN6 := Lib.hid hn6
        rw [hn6] at e6
        subst e6
        clear hown ho hn6
        obtain ⟨d, hd⟩ : ∃ d, 2 ^ (j - 1) = d := ⟨_, rfl⟩
        rw [hd]
        have HDD := Lib.hid hd
        have hd1 : 1 ≤ d := by rw [← hd]; exact Nat.one_le_two_pow
        have hd2 : d ≤ 65536 := by rw [← hd]; exact Nat.pow_le_pow_right (by decide) (show j - 1 ≤ 16 by omega)
        clear hd
        by_cases hj16 : j ≤ 16
        · have zj : (j : Int) ≤ 16 := by omega
          obtain ⟨q0, q1⟩ := P0.out.only TJ.out (by simp)
          have SZ6 := Lib.hid (show B ≤ wr.heap.size from by rw [← HB.out]; exact TJ.out.size)
          have LN := Lib.hid (show (Amid l k p j).length ≤ 100000 from by have := amid_len l k p j HLL.out (by omega); omega)
          have HNX := Lib.hid (amid_next l k p j hj1)
          rw [HDD.out] at HNX
          have HD2 := Lib.hid (show 2 ^ (j + 1 - 1) = d * 2 from by rw [show j + 1 - 1 = j - 1 + 1 from by omega, Nat.pow_succ, HDD.out])
          have wd2 : RowKit.wrap64 ((d : Int) * 2) = (d : Int) * 2 := IntWalk.wrap64_in _ (by omega)
          have wd3 : IntKind.i64.wrap ((d : Int) * 2) = (d : Int) * 2 := by rw [IntKind.wrap_i64]; omega
          have es : ((p.pid : Int) + (j : Int)).tmod 65536 = (((p.pid + j) % 65536 : Nat) : Int) := by rw [Int.tmod_eq_emod_of_nonneg (by omega)]; omega
          by_cases hb1 : p.blp / d % 2 = 1
          · have zb : ((RowKit.wrap64 ((p.blp : Int) / (d : Int))).tmod 2 == 1) = true := by rw [tell_div _ _ hp2, decide_eq_true hb1]
            rw [if_pos hb1] at HNX
            clear hb1
            go_upto_region 12 with (refine wpList_append_num _ rfl (.tmp 35) (.tmp 46) rfl B (.slice A6 n6 c6) (Amid l k p j) ((p.pid + j) % 65536) rfl OWJ.out _ (by first | omega | (rw [IntKind.wrap_u16]; omega)) rfl LN.out SZ6.out ?_; intro v7 w7 h7 ho7; rw [← HNX.out] at h7; have OW7 := Lib.hid h7; have O7 := Lib.hid ho7; clear h7 ho7)
            have T7 := Lib.hid (TJ.out.trans O7.out (fun i hi e => by have := (OWJ.out.1.lt i e).1; have := HB.out; omega))
            go_wp2
            exact ⟨⟨j + 1, by omega, by omega, by rw [HD2.out]; go_num, by go_num, OW7.out, T7.out⟩, by simp [intOf]; omega⟩
          · have zb : ((RowKit.wrap64 ((p.blp : Int) / (d : Int))).tmod 2 == 1) = false := by rw [tell_div _ _ hp2, decide_eq_false hb1]
            rw [if_neg hb1, List.append_nil] at HNX
            clear hb1
            have hW := OWJ.out
            rw [← HNX.out] at hW
            have OW7 := Lib.hid hW
            clear hW
            go_wp2
            exact ⟨⟨j + 1, by omega, by omega, by rw [HD2.out]; go_num, by go_num, OW7.out, TJ.out⟩, by simp [intOf]; omega⟩
        · obtain rfl : j = 17 := by omega
          have hW := OWJ.out
          rw [amid_end l k p HX.out] at hW
          have HW := Lib.hid hW
          clear hW
          go_wp2
          exact ⟨⟨k + 1, by omega, by go_num, HW.out, TJ.out⟩, by simp [intOf]; omega⟩
    · obtain rfl : k = L := by omega
      have hP := OW.out
      rw [List.take_of_length_le (by rw [HL.out]; exact Nat.le_refl _)] at hP
      have HP := Lib.hid hP
      clear hP
      go_wp2
      go_ret
      exact ⟨_, rfl, HP.out, O3.out⟩
end Go.Proofs.Ytefcimkopgcagaa
