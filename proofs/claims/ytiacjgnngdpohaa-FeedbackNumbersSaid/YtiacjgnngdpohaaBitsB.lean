/- Taking digits: what the loop of a reader answers, and where its place is then. Conditions: as each says. -/
import Derived.Test.YtiacjgnngdpohaaBitsA
import Derived.Test.YtiacjgnngdpohaaBitsM
import Derived.BigRegion
set_option linter.unusedVariables false
namespace Go.Proofs.Ytiacjgnngdpohaa
open Go.RowKit

set_option maxRecDepth 100000 in
set_option maxHeartbeats 1000000 in
theorem next_is (b bx g o L c n p : Nat) (f : Int) (bs : List Nat) (w : World) (hx : Is w bx 110 #[ptr b]) (h : Is w b 127 #[.slice (some ⟨g, o, none⟩) L c, .int .i64 p, .int .i64 f])
    (hg : g ≠ b) (hxb : bx ≠ b) (hL : L = bs.length) (hc : ∀ j (hj : j < bs.length), w.cell? ⟨g, o + j, none⟩ = some (.int .u8 (bs[j] : Int))) (hb : ∀ x ∈ bs, x < 256) (hn : n ≤ 64) (hp : p + n ≤ 8 * L) (hs : 8 * L ≤ 9223372036854775807) :
    Calls Try.prog 77 #[.int .i64 n, ptr bx] w fun e w' => e = .returned (.int .u64 (num bs p n : Nat)) ∧ Is w' b 127 #[.slice (some ⟨g, o, none⟩) L c, .int .i64 ((p + n : Nat) : Int), .int .i64 f] ∧ Only (fun k => k = b) w w' := by
  have HL := Lib.hid hL
  have HC := Lib.hid hc
  have HB := Lib.hid hb
  have HI := Lib.hid h
  have HX := Lib.hid hx
  have hx0 := hx.cell 0
  simp at hx0
  clear hL hc hb h hx
  go_enter Try.func77, Try.ntmps77
  go_wp2
  go_loopw [0, 4] (fun n' s' wr => ∃ m : Nat, m ≤ n ∧ n' = .int .i64 ((n - m : Nat) : Int) ∧ s' = .int .u64 (num bs p m : Nat) ∧ Is wr b 127 #[.slice (some ⟨g, o, none⟩) L c, .int .i64 ((p + m : Nat) : Int), .int .i64 f] ∧ Only (fun k => k = b) w wr) (fun n' _ _ => (intOf n').toNat)
  case atStart => exact ⟨0, by omega, rfl, by rw [num_zero]; rfl, HI.out, Only.refl _ _⟩
  case round =>
    obtain ⟨m, hm, rfl, rfl, hi, ho⟩ := hrel
    by_cases hlt : m < n
    · have hi0 := hi.cell 0
      have hi1 := hi.cell 1
      have hf1 := hi.free 1
      have hxw := (HX.out.only ho hxb).cell 0
      simp at hi0 hi1 hxw
      have hidx : (p + m) / 8 < bs.length := by rw [← HL.out]; omega
      have hcell : wr.cell? ⟨g, o + (p + m) / 8, none⟩ = some (.int .u8 (bs[(p + m) / 8] : Nat)) := (ho.cell (World.block_lt_of_cell? w ⟨g, o + (p + m) / 8, none⟩ (HC.out _ hidx)) hg).trans (HC.out _ hidx)
      have hbyte := HB.out _ (List.getElem_mem hidx)
      have hstep := num_add bs p m
      generalize hcv : bs[(p + m) / 8] = cv at *
      have HV := Lib.hid hcv
      have HS := Lib.hid hstep
      have HJ := Lib.hid hidx
      clear hcv hstep
      have HI2 := Lib.hid hi
      have HO := Lib.hid ho
      clear hi ho
      clear HC HB
      by_cases hk : n - m ≤ 8 - (p + m) % 8
      · have hkk : ((n - m : Nat) : Int) ≤ 8 - ((p : Int) + m) % 8 := by omega
        have a1 : (0 : Int) ≤ ((p : Int) + m) / 8 := by omega
        have a2 : ((p : Int) + m) / 8 < L := by omega
        have a3 : (((p : Int) + m) / 8).toNat = (p + m) / 8 := by omega
        have a4 : (0 : Int) ≤ 8 - ((p : Int) + m) % 8 - ((n - m : Nat) : Int) := by omega
        have a5 : IntKind.i64.wrap (8 - ((p : Int) + m) % 8 - ((n - m : Nat) : Int)) = 8 - ((p : Int) + m) % 8 - ((n - m : Nat) : Int) := IntWalk.i64_in _ (by omega)
        go_wp2
        go_quiet (fail)
        go_wp2
        have hst := HS.out (n - m) HJ.out (by omega)
        rw [HV.out] at hst
        refine ⟨⟨n, Nat.le_refl _, by rw [Nat.sub_self]; rfl, int_congr ?_, ?_, (HO.out.drewN _).set (fun _ => rfl) _⟩, by simp [intOf]; omega⟩
        · rw [take_round _ _ _ _ (num_room bs p m _ (by omega)) hbyte (by omega), ← hst]
          congr 2
          omega
        · have e1 : (p : Int) + m + ((n - m : Nat) : Int) = ((p + n : Nat) : Int) := by omega
          rw [e1]
          exact Is.put (w := wr.drewN _) HI2.out 1 _
      · have hkk : 8 - ((p : Int) + m) % 8 < ((n - m : Nat) : Int) := by omega
        have a1 : (0 : Int) ≤ ((p : Int) + m) / 8 := by omega
        have a2 : ((p : Int) + m) / 8 < L := by omega
        have a3 : (((p : Int) + m) / 8).toNat = (p + m) / 8 := by omega
        have a5 : IntKind.i64.wrap (8 - ((p : Int) + m) % 8 - (8 - ((p : Int) + m) % 8)) = 0 := by
          have e : (8 - ((p : Int) + m) % 8 - (8 - ((p : Int) + m) % 8)) = 0 := by omega
          rw [e]; rfl
        go_wp2
        go_quiet (fail)
        go_wp2
        have hst := HS.out (8 - (p + m) % 8) HJ.out (by omega)
        rw [HV.out, Nat.sub_self] at hst
        refine ⟨⟨m + (8 - (p + m) % 8), by omega, int_congr (by omega), int_congr ?_, ?_, (HO.out.drewN _).set (fun _ => rfl) _⟩, by simp [intOf]; omega⟩
        · rw [take_round0 _ _ _ (num_room bs p m _ (by omega)) hbyte (by omega), ← hst]
        · have e1 : (p : Int) + m + (8 - ((p : Int) + m) % 8) = ((p + (m + (8 - (p + m) % 8)) : Nat) : Int) := by omega
          rw [e1]
          exact Is.put (w := wr.drewN _) HI2.out 1 _
    · go_wp2
      go_ret
      have e : m = n := by omega
      subst e
      exact ⟨rfl, hi, ho⟩

set_option maxRecDepth 100000 in
set_option maxHeartbeats 400000 in
theorem next_none (bx : Nat) (w : World) : Calls Try.prog 77 #[.int .i64 0, ptr bx] w fun e w' => e = .returned (.int .u64 0) ∧ w = w' := by
  go_enter Try.func77, Try.ntmps77
  go_wp2
  go_loopw [0, 4] (fun n s wr => n = .int .i64 0 ∧ s = .int .u64 0 ∧ w = wr) (fun _ _ _ => 0)
  case atStart => exact ⟨rfl, rfl, rfl⟩
  case round =>
    obtain ⟨rfl, rfl, rfl⟩ := hrel
    go_wp2
    go_ret
    exact ⟨rfl, rfl⟩
end Go.Proofs.Ytiacjgnngdpohaa
