/- rtcp.Right; a number among some. Conditions: as each says. -/
import Derived.Test.YtefcimkopgcagaaFmGr
import Derived.Test.YtefcimkopgcagaaFbGr
set_option linter.unusedVariables false
set_option linter.unusedSimpArgs false
namespace Go.Proofs.Ytefcimkopgcagaa
open Go.RowKit

def Pkt.okR (p : Pkt) : Bool := decide (p.count ≤ 31) && (p.body.length % 4 == 0) && (p.pad % 4 == 0) && decide (p.body.length + p.pad ≤ 262140)
structure Pkt.FitR (p : Pkt) : Prop where
  count : p.count < 256
  kind : p.kind < 256
  pad : p.pad < 256
  bytes : ∀ x ∈ p.body, x < 256
set_option maxRecDepth 100000 in
set_option maxHeartbeats 2000000 in
theorem rcright_is (p : Pkt) (u : Value) (w : World) (hf : p.FitR) (hs : Src w u p.body) (hl : p.body.length ≤ 1000000) :
    Calls Try.prog 36 #[.agg #[.int .u8 (p.count : Nat), .int .u8 (p.kind : Nat), u, .int .u8 (p.pad : Nat)]] w fun e w' => e = .returned (.bool p.okR) ∧ Only (fun _ => False) w w' := by
  obtain ⟨A, c, rfl⟩ := hs.slice
  have HOK := Lib.hid (show p.okR = (decide (p.count ≤ 31) && (p.body.length % 4 == 0) && (p.pad % 4 == 0) && decide (p.body.length + p.pad ≤ 262140)) from rfl)
  rw [HOK.out]
  obtain ⟨h1, h2, h3, -⟩ := hf
  clear hs HOK
  generalize p.body.length = L at *
  generalize p.count = n at *
  generalize p.kind = k at *
  generalize p.pad = d at *
  have e1 : decide ((n : Int) ≤ 31) = decide (n ≤ 31) := decide_eq_decide.2 (by omega)
  have e2 : ((L : Int) % 4 == 0) = (L % 4 == 0) := by rw [Bool.eq_iff_iff, beq_iff_eq, beq_iff_eq]; omega
  have e3 : ((d : Int) % 4 == 0) = (d % 4 == 0) := by rw [Bool.eq_iff_iff, beq_iff_eq, beq_iff_eq]; omega
  have e4 : decide ((L : Int) + (d : Int) ≤ 262140) = decide (L + d ≤ 262140) := decide_eq_decide.2 (by omega)
  generalize decide (n ≤ 31) = b1 at *
  generalize (L % 4 == 0) = b2 at *
  generalize (d % 4 == 0) = b3 at *
  generalize decide (L + d ≤ 262140) = b4 at *
  cases b1 <;> cases b2 <;> cases b3 <;> cases b4
  all_goals
    go_enter Try.func36, Try.ntmps36
    go_wp2
    go_ret
    exact ⟨rfl, (Only.refl _ w).alloc _⟩
set_option maxRecDepth 100000 in
set_option maxHeartbeats 1000000 in
theorem has_is (v : Value) (l : List Nat) (n : Nat) (w : World) (hr : Rd .u16 w v (nats l)) (hl : l.length ≤ 1000000) :
    Calls Try.prog 38 #[v, .int .u16 (n : Nat)] w fun e w' => e = .returned (.bool (decide (n ∈ l))) ∧ w = w' := by
  obtain ⟨A1, c1, rfl, hlc1, hh1⟩ := hr
  rw [nats_length] at *
  have H1 := Lib.hid hh1
  obtain ⟨L, hL⟩ : ∃ L, l.length = L := ⟨_, rfl⟩
  have HL := Lib.hid hL
  rw [hL] at hl hlc1 ⊢
  obtain ⟨r, hr⟩ : ∃ r, decide (n ∈ l) = r := ⟨_, rfl⟩
  rw [hr]
  have HR := Lib.hid hr
  clear hL hh1 hr
  go_enter Try.func38, Try.ntmps38
  go_wp2
  go_loopw [5] (fun s5 wr => ∃ k : Nat, k ≤ L ∧ s5 = .int .i64 k ∧ n ∉ l.take k ∧ w = wr) (fun s5 _ => L - (intOf s5).toNat)
  case atStart => exact ⟨0, by omega, rfl, by simp, rfl⟩
  case round =>
    obtain ⟨k, hk, rfl, hno, rfl⟩ := hrel
    have HNO := Lib.hid hno
    clear hno
    by_cases hkl : k < L
    · have hkI : (k : Int) < (L : Int) := by omega
      obtain ⟨g1, o1, rfl, hc1⟩ := H1.out (by rw [nats_length, HL.out]; omega)
      have hkn : k < (nats l).length := by rw [nats_length, HL.out]; exact hkl
      have hkl2 : k < l.length := by rw [HL.out]; exact hkl
      have r1 := hc1 k hkn
      have hz : (nats l)[k] = (l[k] : Int) := by simp [nats]
      rw [hz] at r1
      have HT := Lib.hid (show l.take (k + 1) = l.take k ++ [l[k]] from List.take_succ_eq_append_getElem hkl2)
      have HM := Lib.hid (List.getElem_mem hkl2)
      generalize l[k] = z at *
      clear hc1 hkn hz hkl2
      by_cases hzn : z = n
      · subst hzn
        have HRT := Lib.hid (show r = true from by rw [← HR.out]; exact decide_eq_true HM.out)
        go_wp2
        go_ret
        exact ⟨by rw [HRT.out]; rfl, rfl⟩
      · have hze : ((z : Int) == (n : Int)) = false := by rw [beq_eq_false_iff_ne]; omega
        have HN2 := Lib.hid (show n ∉ l.take (k + 1) from by
          rw [HT.out]
          intro h
          rcases List.mem_append.1 h with h | h
          · exact HNO.out h
          · exact hzn (List.mem_singleton.1 h).symm)
        clear hzn
        go_wp2
        exact ⟨⟨k + 1, by omega, by go_num, HN2.out, trivial⟩, by simp [intOf]; omega⟩
    · obtain rfl : k = L := by omega
      have HRT := Lib.hid (show r = false from by
        rw [← HR.out]
        refine decide_eq_false (fun h => HNO.out ?_)
        rw [List.take_of_length_le (by rw [HL.out]; exact Nat.le_refl _)]
        exact h)
      go_wp2
      go_ret
      exact ⟨by rw [HRT.out]; rfl, rfl⟩
end Go.Proofs.Ytefcimkopgcagaa
