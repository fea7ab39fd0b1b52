/- Two rows of numbers are compared: slices.Equal. Conditions: as it says. -/
import Derived.Test.YtdcclighccejhaaRtpJ
set_option linter.unusedVariables false
namespace Go.Proofs.Ytdcclighccejhaa
open Go.RowKit

theorem take_eq_ofk (xs bs : List Nat) (k : Nat) (hk : k < xs.length) (hk2 : k < bs.length) (h : xs.take k = bs.take k) (he : xs[k] = bs[k]) : xs.take (k + 1) = bs.take (k + 1) := by
  rw [List.take_succ_eq_append_getElem hk, List.take_succ_eq_append_getElem hk2, h, he]

set_option maxRecDepth 100000 in
set_option maxHeartbeats 400000 in
theorem ints_equal (va vb : Value) (xs bs : List Nat) (w : World) (ha : Rd .u32 w va (nats xs)) (hb : Rd .u32 w vb (nats bs)) (hl : xs.length ≤ 140737488355328) :
    Calls Try.prog 48 #[va, vb] w fun e w' => e = .returned (.bool (decide (xs = bs))) ∧ ∃ n, w' = w.drewN n := by
  by_cases hlen : xs.length = bs.length
  · rcases Nat.eq_zero_or_pos xs.length with h0 | hpos
    · have e1 : xs = [] := List.eq_nil_of_length_eq_zero h0
      have e2 : bs = [] := List.eq_nil_of_length_eq_zero (by omega)
      subst e1 e2
      obtain ⟨A, c, rfl⟩ := ha.slice
      obtain ⟨A', c', rfl⟩ := hb.slice
      simp only [nats_length, List.length_nil]
      clear ha hb hl hlen h0
      go_enter Try.func48, Try.ntmps48
      go_wp2
      go_loopw [13] (fun i wr => i = .int .i64 0 ∧ w = wr) (fun _ _ => 0)
      case atStart => exact ⟨rfl, rfl⟩
      case round =>
        obtain ⟨rfl, rfl⟩ := hrel
        go_wp2
        go_ret
        exact ⟨rfl, 0, rfl⟩
    · obtain ⟨A, c, rfl⟩ := ha.slice
      obtain ⟨A', c', rfl⟩ := hb.slice
      obtain ⟨g, o, rfl, hca⟩ := ha.at_ (by rw [nats_length]; exact hpos)
      obtain ⟨g', o', rfl, hcb⟩ := hb.at_ (by rw [nats_length]; omega)
      rw [nats_length, nats_length]
      have HA := Lib.hid hca
      have HB := Lib.hid hcb
      clear ha hb hca hcb
      obtain ⟨L, hla⟩ : ∃ L, xs.length = L := ⟨_, rfl⟩
      rw [hla] at hl hpos hlen
      rw [← hlen, hla]
      have HLA := Lib.hid hla
      have HLB := Lib.hid hlen.symm
      clear hla hlen
      go_enter Try.func48, Try.ntmps48
      go_wp2
      go_loopw [13] (fun i wr => ∃ k : Nat, k ≤ L ∧ i = .int .i64 k ∧ Hid (xs.take k = bs.take k) ∧ ∃ n, wr = w.drewN n) (fun i _ => L - (intOf i).toNat)
      case atStart => exact ⟨0, by omega, rfl, by simp [Hid], 0, rfl⟩
      case round =>
        obtain ⟨k, hk, rfl, hpre, n, rfl⟩ := hrel
        by_cases hlt : k < L
        · have hka : k < xs.length := by rw [HLA.out]; exact hlt
          have hkb : k < bs.length := by rw [HLB.out]; exact hlt
          have qa : w.cell? ⟨g, o + k, none⟩ = some (.int .u32 ((xs[k] : Nat) : Int)) := by rw [HA.out k (by rw [nats_length]; exact hka)]; simp [nats]
          have qb : w.cell? ⟨g', o' + k, none⟩ = some (.int .u32 ((bs[k] : Nat) : Int)) := by rw [HB.out k (by rw [nats_length]; exact hkb)]; simp [nats]
          by_cases heq : xs[k] = bs[k]
          · have hbne : (((xs[k] : Nat) : Int) != ((bs[k] : Nat) : Int)) = false := by simp [heq]
            have HP := Lib.hid (take_eq_ofk xs bs k hka hkb hpre.out heq)
            generalize xs[k] = x at *
            generalize bs[k] = y at *
            clear hka hkb heq
            go_wp2
            go_quiet (fail)
            go_wp2
            refine ⟨⟨k + 1, by omega, by go_num, HP.out, _, rfl⟩, by simp [intOf]; omega⟩
          · have hbne : (((xs[k] : Nat) : Int) != ((bs[k] : Nat) : Int)) = true := by simp; omega
            have hne : xs ≠ bs := fun e => heq (by subst e; rfl)
            have HNE := Lib.hid hne
            generalize xs[k] = x at *
            generalize bs[k] = y at *
            clear hka hkb heq hne
            go_wp2
            go_quiet (fail)
            go_wp2
            go_ret
            exact ⟨by rw [decide_eq_false HNE.out]; rfl, n + nq, by simp⟩
        · have hkl : k = L := by omega
          subst hkl
          have hp := hpre.out
          rw [List.take_of_length_le (by rw [HLA.out]; exact Nat.le_refl _), List.take_of_length_le (by rw [HLB.out]; exact Nat.le_refl _)] at hp
          have HP := Lib.hid hp
          clear hp hpre
          go_wp2
          go_ret
          exact ⟨by rw [decide_eq_true HP.out]; rfl, _, rfl⟩
  · have hne : xs ≠ bs := fun e => hlen (by rw [e])
    obtain ⟨A, c, rfl⟩ := ha.slice
    obtain ⟨A', c', rfl⟩ := hb.slice
    rw [nats_length, nats_length]
    have hb : (((xs.length : Nat) : Int) != ((bs.length : Nat) : Int)) = true := by simp; omega
    rw [decide_eq_false hne]
    clear ha hne hl
    generalize xs.length = L at *
    generalize bs.length = L' at *
    go_enter Try.func48, Try.ntmps48
    go_wp2
    go_ret
    exact ⟨rfl, 0, rfl⟩
end Go.Proofs.Ytdcclighccejhaa
