/- feedback.Numbers. Conditions: as it says. -/
import Derived.Test.YtefcimkopgcagaaFbA
import Derived.Test.YtefcimkopgcagaaBase
import Derived.Deep.DeepCutAuto
import Derived.Outline
import Derived.WalkMore
import Derived.Deep.RegionHeld3
import Derived.Laws.BitsAllLaws
set_option linter.unusedVariables false
namespace Go.Proofs.Ytefcimkopgcagaa
open Go.RowKit

theorem take_snoc {α : Type} {l : List α} {k : Nat} {y : α} (hx : l[k]? = some y) : l.take (k + 1) = l.take k ++ [y] := by
  have hk : k < l.length := (List.getElem?_eq_some_iff.1 hx).1
  rw [List.take_succ_eq_append_getElem hk]
  have := List.getElem?_eq_getElem hk
  rw [hx] at this
  injection this with this
  rw [this]
/-- Amid a pair. -/
def Amid (l : List Pr) (k : Nat) (p : Pr) (j : Nat) : List Nat := numsOf (l.take k) ++ p.pid :: told p (j - 1)
theorem amid_len (l : List Pr) (k : Nat) (p : Pr) (j : Nat) (hl : l.length ≤ 1000) (hj : j ≤ 17) : (Amid l k p j).length ≤ 50000 := by
  have h1 := numsOf_len (l.take k)
  have h2 := told_len p (j - 1)
  unfold Amid
  rw [List.length_append, List.length_cons]
  rw [List.length_take] at h1
  omega
theorem amid_next (l : List Pr) (k : Nat) (p : Pr) (j : Nat) (hj : 1 ≤ j) : Amid l k p (j + 1) = Amid l k p j ++ (if p.blp / 2 ^ (j - 1) % 2 = 1 then [(p.pid + j) % 65536] else []) := by
  obtain ⟨i, rfl⟩ : ∃ i, j = i + 1 := ⟨j - 1, by omega⟩
  unfold Amid
  rw [show i + 1 + 1 - 1 = i + 1 from rfl, show i + 1 - 1 = i from rfl, told, List.append_assoc, List.cons_append]
theorem amid_end (l : List Pr) (k : Nat) (p : Pr) (hx : l[k]? = some p) : Amid l k p 17 = numsOf (l.take (k + 1)) := by
  rw [take_snoc hx, numsOf_snoc]
  rfl
theorem tell_bit (b i : Nat) (hb : b < 65536) : (bits .and .u16 ((b : Int) / 2 ^ i) 1 == 1) = decide (b / 2 ^ i % 2 = 1) := by
  have h1 : b / 2 ^ i < 65536 := Nat.lt_of_le_of_lt (Nat.div_le_self _ _) hb
  have h2 := u16_and_nat (b / 2 ^ i) 1 h1 (by decide)
  rw [Nat.and_one_is_mod] at h2
  have e : ((b / 2 ^ i : Nat) : Int) = (b : Int) / 2 ^ i := by simp
  rw [e] at h2
  rw [show ((1 : Nat) : Int) = 1 from rfl] at h2
  rw [h2]
  by_cases h : b / 2 ^ i % 2 = 1
  · rw [h]; rfl
  · rw [decide_eq_false h, beq_eq_false_iff_ne]; omega

set_option maxRecDepth 100000 in
set_option maxHeartbeats 2000000 in
theorem numbers_is (v : Value) (l : List Pr) (w : World) (hr : RdP w v l) (hl : l.length ≤ 1000) (hf : ∀ p ∈ l, p.Fit) :
    Calls Try.prog 31 #[v] w fun e w' => ∃ v', e = .returned v' ∧ OwnN w.heap.size v' (numsOf l) w' ∧ Only (fun _ => False) w w' := by
  obtain ⟨A1, c1, rfl, hlc1, hh1⟩ := hr
  have HF := Lib.hid hf
  have H1 := Lib.hid hh1
  obtain ⟨L, hL⟩ : ∃ L, l.length = L := ⟨_, rfl⟩
  have HL := Lib.hid hL
  have HLL := Lib.hid hl
  rw [hL] at hl hlc1 ⊢
  obtain ⟨B, hB⟩ : ∃ n, w.heap.size = n := ⟨_, rfl⟩
  have HB := Lib.hid hB
  rw [hB]
  clear hf hL hh1 hB
  go_enter Try.func31, Try.ntmps31
  go_wp2
  go_loopw [3, 9] (fun s3 s9 wr => ∃ k : Nat, k ≤ L ∧ s9 = .int .i64 k ∧ OwnN B s3 (numsOf (l.take k)) wr ∧ Only (fun _ => False) w wr) (fun _ s9 _ => L - (intOf s9).toNat)
  case atStart => exact ⟨0, by omega, rfl, OwnN.nil w B, Only.refl _ _⟩
  case round =>
    obtain ⟨k, hk, rfl, hown, ho⟩ := hrel
    have OW := Lib.hid hown
    have O3 := Lib.hid ho
    obtain ⟨A3, c3, e3, -⟩ := hown.slice
    obtain ⟨n3, hn3⟩ : ∃ n, (numsOf (l.take k)).length = n := ⟨_, rfl⟩
    have HN3 := Lib.hid hn3
    rw [hn3] at e3
    subst e3
    clear hown ho hn3
    by_cases hkl : k < L
    · have hkb : k < l.length := by rw [HL.out]; exact hkl
      obtain ⟨p, hx⟩ : ∃ x, l[k]? = some x := ⟨_, List.getElem?_eq_getElem hkb⟩
      obtain ⟨g, o, rfl, hcell⟩ := H1.out (by rw [HL.out]; omega)
      obtain ⟨q0, q1⟩ := (hcell k p hx).only O3.out (by simp)
      obtain ⟨hp1, hp2⟩ := HF.out p (List.mem_of_getElem? hx)
      have HX := Lib.hid hx
      have hkI : (k : Int) < (L : Int) := by omega
      clear hcell hx hkb
      go_upto_region 5 with (fail)
      obtain ⟨pb, hpb⟩ : ∃ n, wr.heap.size = n := ⟨_, rfl⟩
      generalize hw4 : World.alloc _ _ = w4
      have P4 := Lib.hid (show Is w4 wr.heap.size 82 #[.int .u16 (p.pid : Nat), .int .u16 (p.blp : Nat)] from by rw [← hw4]; exact Is.made _ _ _)
      have A4 := Lib.hid (show Only (fun _ => False) wr w4 from by rw [← hw4]; exact (Only.refl _ wr).alloc _)
      have O4 := Lib.hid (only_more O3.out A4.out)
      have OW4 := Lib.hid (OW.out.only A4.out (by simp))
      rw [hpb] at P4 ⊢
      have SZ4 := Lib.hid (show B ≤ w4.heap.size from by rw [← HB.out]; exact O4.out.size)
      have LN := Lib.hid (show (numsOf (l.take k)).length ≤ 100000 from by have h := numsOf_len (l.take k); rw [List.length_take] at h; have := HLL.out; omega)
      have r0 := P4.out.cell 0
      have r1 := P4.out.cell 1
      simp at r0 r1
      clear q0 q1 hw4 hpb OW O3 A4
      go_upto_region 6 with (refine wpList_append_num _ rfl (.tmp 13) (.tmp 16) rfl B (.slice A3 n3 c3) (numsOf (l.take k)) p.pid rfl OW4.out _ rfl rfl LN.out SZ4.out ?_; intro v5 w5 h5 ho5; have OW5 := Lib.hid h5; have O5 := Lib.hid ho5; clear h5 ho5)
      have hne5 : (Value.slice A3 n3 c3).ownBlock ≠ some pb := owned_off OW4.out.1 P4.out (by decide)
      have P5 := Lib.hid (P4.out.only O5.out hne5)
      have T5 := Lib.hid (O4.out.trans O5.out (fun i hi e => by have := (OW4.out.1.lt i e).1; have := HB.out; omega))
      have W5 := Lib.hid (show OwnN B v5 (Amid l k p 1) w5 from OW5.out)
      clear hne5 P4 O4 OW4 O5 OW5 SZ4 LN r0 r1
      go_wp2
      go_loopw [3, 6] (fun s3 s6 wx => ∃ j : Nat, 1 ≤ j ∧ j ≤ 17 ∧ s6 = .int .u16 j ∧ OwnN B s3 (Amid l k p j) wx ∧ Is wx pb 82 #[.int .u16 (p.pid : Nat), .int .u16 (p.blp : Nat)] ∧ Only (fun _ => False) w wx) (fun _ s6 _ => 17 - (intOf s6).toNat)
      case atStart => exact ⟨1, by omega, by omega, rfl, W5.out, P5.out, T5.out⟩
      case round =>
        clear W5 P5 T5
        obtain ⟨j, hj1, hj, rfl, hown, hip, ho⟩ := hrel
        have OWJ := Lib.hid hown
        have PJ := Lib.hid hip
        have TJ := Lib.hid ho
        obtain ⟨A6, c6, e6, -⟩ := hown.slice
        obtain ⟨n6, hn6⟩ : ∃ n, (Amid l k p j).length = n := ⟨_, rfl⟩
        have HN6 := Lib.hid hn6
        rw [hn6] at e6
        subst e6
        clear hown hip ho hn6
        by_cases hj16 : j ≤ 16
        · have zj : (j : Int) ≤ 16 := by omega
          have r0 := PJ.out.cell 0
          have r1 := PJ.out.cell 1
          simp at r0 r1
          have SZ6 := Lib.hid (show B ≤ wr.heap.size from by rw [← HB.out]; exact TJ.out.size)
          have LN := Lib.hid (show (Amid l k p j).length ≤ 100000 from by have := amid_len l k p j HLL.out (by omega); omega)
          have HNX := Lib.hid (amid_next l k p j hj1)
          by_cases hb1 : p.blp / 2 ^ (j - 1) % 2 = 1
          · have zb : (bits .and .u16 ((p.blp : Int) / 2 ^ (j - 1)) 1 == 1) = true := by rw [tell_bit _ _ hp2, decide_eq_true hb1]
            rw [if_pos hb1] at HNX
            clear hb1
            go_upto_region 8 with (refine wpList_append_num _ rfl (.tmp 29) (.tmp 34) rfl B (.slice A6 n6 c6) (Amid l k p j) ((p.pid + j) % 65536) rfl OWJ.out _ (by first | omega | (rw [IntKind.wrap_u16]; omega)) rfl LN.out SZ6.out ?_; intro v7 w7 h7 ho7; rw [← HNX.out] at h7; have OW7 := Lib.hid h7; have O7 := Lib.hid ho7; clear h7 ho7)
            have hne7 : (Value.slice A6 n6 c6).ownBlock ≠ some pb := owned_off OWJ.out.1 PJ.out (by decide)
            have P7 := Lib.hid (PJ.out.only O7.out hne7)
            have T7 := Lib.hid (TJ.out.trans O7.out (fun i hi e => by have := (OWJ.out.1.lt i e).1; have := HB.out; omega))
            clear hne7
            go_wp2
            exact ⟨⟨j + 1, by omega, by omega, by go_num, OW7.out, P7.out, T7.out⟩, by simp [intOf]; omega⟩
          · have zb : (bits .and .u16 ((p.blp : Int) / 2 ^ (j - 1)) 1 == 1) = false := by rw [tell_bit _ _ hp2, decide_eq_false hb1]
            rw [if_neg hb1, List.append_nil] at HNX
            clear hb1
            have hW := OWJ.out
            rw [← HNX.out] at hW
            have OW7 := Lib.hid hW
            clear hW
            go_wp2
            exact ⟨⟨j + 1, by omega, by omega, by go_num, OW7.out, PJ.out, TJ.out⟩, by simp [intOf]; omega⟩
        · obtain rfl : j = 17 := by omega
          have hW := OWJ.out
          rw [amid_end l k p HX.out] at hW
          have HW := Lib.hid hW
          clear hW
          go_wp2
          exact ⟨⟨k + 1, by omega, by go_num, HW.out, TJ.out⟩, by simp [intOf]; omega⟩
    · obtain rfl : k = L := by omega
      have hP := OW.out
      rw [List.take_of_length_le (by rw [HL.out]; exact Nat.le_refl _)] at hP
      have HP := Lib.hid hP
      clear hP
      go_wp2
      go_ret
      exact ⟨_, rfl, HP.out, O3.out⟩
end Go.Proofs.Ytefcimkopgcagaa
