/- The reference's Same of packets that are the same; its IsRtcp. Conditions: as each says. -/
import Derived.Test.YtdcclighccejhaaRtpF
import Derived.Test.YtdcclighccejhaaBase
set_option linter.unusedVariables false
namespace Go.Proofs.Ytdcclighccejhaa
open Go.RowKit

/-- A packet's cells. -/
def Pk.lst (p : Pk) (vc ve vp : Value) : Array Value := #[.bool p.marker, .int .u8 p.ty, .int .u16 p.seq, .int .u32 p.time, .int .u32 p.ssrc, vc, .bool p.hasExt, .int .u16 p.profile, ve, vp, .int .u8 p.pad]
theorem rsame_yes (va vb : Value) (xs : List Nat) (w : World) (ha : Src w va xs) (hb : Src w vb xs) (hl : xs.length ≤ 140737488355328) :
    Calls Try.prog 51 #[va, vb] w fun e w' => e = .returned (.bool true) ∧ Only (fun _ => False) w w' := by
  refine (rsame_is va vb xs xs w ha hb hl).mono ?_
  rintro e w' ⟨rfl, n, rfl⟩
  exact ⟨by simp, (Only.refl _ w).drewN n⟩
set_option maxRecDepth 100000 in
set_option maxHeartbeats 2000000 in
theorem rsame_pk (p : Pk) (c1 e1 p1 c2 e2 p2 : Value) (w : World) (hc1 : Rd .u32 w c1 (nats p.csrc)) (hc2 : Rd .u32 w c2 (nats p.csrc)) (he1 : Src w e1 p.ext) (he2 : Src w e2 p.ext) (hp1 : Src w p1 p.pay) (hp2 : Src w p2 p.pay) (hl : p.csrc.length ≤ 1000 ∧ p.ext.length ≤ 1000000 ∧ p.pay.length ≤ 1000000) :
    Calls Try.prog 39 #[.agg (p.lst c1 e1 p1), .agg (p.lst c2 e2 p2)] w fun e w' => e = .returned (.bool true) ∧ Only (fun _ => False) w w' := by
  obtain ⟨mk, ty, sq, tm, ss, cs, hx, pr, ex, py, pd⟩ := p
  simp only at hc1 hc2 he1 he2 hp1 hp2 hl
  obtain ⟨hl1, hl2, hl3⟩ := hl
  have C1 := Lib.hid hc1
  have C2 := Lib.hid hc2
  have E1 := Lib.hid he1
  have E2 := Lib.hid he2
  have P1 := Lib.hid hp1
  have P2 := Lib.hid hp2
  obtain ⟨a1, k1, rfl, -, -⟩ := hc1
  obtain ⟨a2, k2, rfl, -, -⟩ := hc2
  rw [nats_length] at C1 C2 ⊢
  obtain ⟨b1, m1, rfl⟩ := he1.slice
  obtain ⟨b2, m2, rfl⟩ := he2.slice
  obtain ⟨d1, n1, rfl⟩ := hp1.slice
  obtain ⟨d2, n2, rfl⟩ := hp2.slice
  clear he1 he2 hp1 hp2
  obtain ⟨L, hL⟩ : ∃ L, cs.length = L := ⟨_, rfl⟩
  have HL := Lib.hid hL
  rw [hL] at hl1 C1 C2 ⊢
  clear hL
  have HL2 := Lib.hid hl2
  have HL3 := Lib.hid hl3
  clear hl2 hl3
  unfold Pk.lst
  go_enter Try.func39, Try.ntmps39
  obtain ⟨x1, hx1⟩ : ∃ b, w.heap.size = b := ⟨_, rfl⟩
  go_upto_region 1 with (fail)
  obtain ⟨x2, hx2⟩ : ∃ b, x1 + 1 = b := ⟨_, rfl⟩
  generalize hw1 : World.alloc _ _ = w1
  have I1 := Lib.hid (show Is w1 x1 74 #[.bool mk, .int .u8 ty, .int .u16 sq, .int .u32 tm, .int .u32 ss, .slice a1 L k1, .bool hx, .int .u16 pr, .slice b1 ex.length m1, .slice d1 py.length n1, .int .u8 pd] from by rw [← hw1, ← hx1]; exact (Is.made _ _ _).alloc _)
  have I2 := Lib.hid (show Is w1 x2 74 #[.bool mk, .int .u8 ty, .int .u16 sq, .int .u32 tm, .int .u32 ss, .slice a2 L k2, .bool hx, .int .u16 pr, .slice b2 ex.length m2, .slice d2 py.length n2, .int .u8 pd] from by
    rw [← hw1, ← hx2, ← hx1]
    have h := Is.made (w.alloc (.cells #[.bool mk, .int .u8 ty, .int .u16 sq, .int .u32 tm, .int .u32 ss, .slice a1 L k1, .bool hx, .int .u16 pr, .slice b1 ex.length m1, .slice d1 py.length n1, .int .u8 pd] 74)) 74 #[.bool mk, .int .u8 ty, .int .u16 sq, .int .u32 tm, .int .u32 ss, .slice a2 L k2, .bool hx, .int .u16 pr, .slice b2 ex.length m2, .slice d2 py.length n2, .int .u8 pd]
    rw [show ∀ o : Obj, (w.alloc o).heap.size = w.heap.size + 1 from fun o => by simp] at h
    exact h)
  have O1 := Lib.hid (show Only (fun _ => False) w w1 from by rw [← hw1]; exact ((Only.refl _ w).alloc _).alloc _)
  rw [hx2]
  clear hw1 hx1 hx2
  have q5 := I1.out.cell 5
  have r5 := I2.out.cell 5
  simp at q5 r5
  go_wp2
  clear q5 r5
  go_loopw [5] (fun i wr => ∃ k : Nat, k ≤ L ∧ i = .int .i64 k ∧ ∃ n, wr = w1.drewN n) (fun i _ => L - (intOf i).toNat)
  case atStart => exact ⟨0, by omega, rfl, 0, rfl⟩
  case round =>
    obtain ⟨k, hk, rfl, nd, rfl⟩ := hrel
    have q5 := (I1.out.cell 5)
    have r5 := (I2.out.cell 5)
    simp at q5 r5
    by_cases hkl : k < L
    · have hrd : ∀ (A : Option Addr) (c : Nat), Rd .u32 w (.slice A L c) (nats cs) → ∃ g o, A = some ⟨g, o, none⟩ ∧ w1.cell? ⟨g, o + k, none⟩ = some (.int .u32 (cs[k]'(by rw [HL.out]; exact hkl) : Nat)) := by
        intro A c h
        obtain ⟨A', c', e, _, hh⟩ := h
        rw [nats_length] at e
        injection e with e1 _ _
        subst e1
        obtain ⟨g, o, rfl, hc⟩ := hh (by rw [nats_length, HL.out]; omega)
        refine ⟨g, o, rfl, ?_⟩
        have h1 := hc k (by rw [nats_length, HL.out]; exact hkl)
        rw [O1.out.cell (World.block_lt_of_cell? w _ h1) (by simp), h1]
        simp [nats]
      obtain ⟨g1, o1, rfl, qa⟩ := hrd _ _ C1.out
      obtain ⟨g2, o2, rfl, qb⟩ := hrd _ _ C2.out
      generalize cs[k]'(by rw [HL.out]; exact hkl) = y at *
      have hkI : (k : Int) < (L : Int) := by omega
      clear hrd
      go_wp2
      go_quiet (fail)
      go_wp2
      refine ⟨⟨k + 1, by omega, by go_num, _, rfl⟩, by simp [intOf]; omega⟩
    · have hkl : k = L := by omega
      subst hkl
      have q0 := I1.out.cell 0
      have q1 := I1.out.cell 1
      have q2 := I1.out.cell 2
      have q3 := I1.out.cell 3
      have q4 := I1.out.cell 4
      have q6 := I1.out.cell 6
      have q7 := I1.out.cell 7
      have q8 := I1.out.cell 8
      have q9 := I1.out.cell 9
      have q10 := I1.out.cell 10
      have r0 := I2.out.cell 0
      have r1 := I2.out.cell 1
      have r2 := I2.out.cell 2
      have r3 := I2.out.cell 3
      have r4 := I2.out.cell 4
      have r6 := I2.out.cell 6
      have r7 := I2.out.cell 7
      have r8 := I2.out.cell 8
      have r9 := I2.out.cell 9
      have r10 := I2.out.cell 10
      simp at q0 q1 q2 q3 q4 q6 q7 q8 q9 q10 r0 r1 r2 r3 r4 r6 r7 r8 r9 r10
      have EE := Lib.hid (rsame_yes _ _ ex (w1.drewN nd) (E1.out.of_only (O1.out.drewN nd)) (E2.out.of_only (O1.out.drewN nd)) (by have := HL2.out; omega))
      go_wp2_with fail
      refine EE.out.mono ?_
      rintro e w2 ⟨rfl, ho2⟩
      have OW := Lib.hid (only_more (O1.out.drewN nd) ho2)
      have q9 := (I1.out.only (only_more ((Only.refl _ w1).drewN nd) ho2) (by simp)).cell 9
      have q10 := (I1.out.only (only_more ((Only.refl _ w1).drewN nd) ho2) (by simp)).cell 10
      have r9 := (I2.out.only (only_more ((Only.refl _ w1).drewN nd) ho2) (by simp)).cell 9
      have r10 := (I2.out.only (only_more ((Only.refl _ w1).drewN nd) ho2) (by simp)).cell 10
      simp at q9 q10 r9 r10
      have PP := Lib.hid (rsame_yes _ _ py w2 (P1.out.of_only OW.out) (P2.out.of_only OW.out) (by have := HL3.out; omega))
      go_wp2_with fail
      refine PP.out.mono ?_
      rintro e w3 ⟨rfl, ho3⟩
      have OW3 := Lib.hid (only_more OW.out ho3)
      have q10 := (I1.out.only (only_more ((Only.refl _ w1).drewN nd) (only_more ho2 ho3)) (by simp)).cell 10
      have r10 := (I2.out.only (only_more ((Only.refl _ w1).drewN nd) (only_more ho2 ho3)) (by simp)).cell 10
      simp at q10 r10
      clear ho2 ho3
      go_wp2
      go_ret
      exact ⟨rfl, OW3.out⟩
end Go.Proofs.Ytdcclighccejhaa
