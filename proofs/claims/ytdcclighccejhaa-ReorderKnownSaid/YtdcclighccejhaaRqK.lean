/- The reference of layer 10: In, a packet that may come: the walk. Conditions: as it says. -/
import Derived.Test.YtdcclighccejhaaRqGr
set_option linter.unusedVariables false
set_option linter.unusedSimpArgs false
namespace Go.Proofs.Ytdcclighccejhaa
open Go Go.RowKit

set_option maxRecDepth 100000 in
set_option maxHeartbeats 8000000 in
theorem rin_true (POST : Ending → World → Prop) (A0 : Option Addr) (sz : Int) (hold nx n cm L c0 PO J NX : Nat) (R : Nat → List (List Value)) (ws2 : List Wt) (us2 : List V3) (r2 : Rb) (q0 q1 q2 q3 q4 q5 q6 q7 q8 q9 q10 : Value) (w : World)
    (hNN : nx ≤ n) (hPL : PO ≤ L) (hL : L ≤ 299)
    (hR0 : R 0 = []) (hRle : ∀ m, (R m).length ≤ m) (hRX : R (PO + 1) = R PO ++ [[.int .u64 (n : Int), .int .u64 (cm : Int), q0, q1, q2, q3, q4, q5, q6, q7, q8, q9, q10]]) (hX1 : ∀ z ∈ ([.int .u64 (n : Int), .int .u64 (cm : Int), q0, q1, q2, q3, q4, q5, q6, q7, q8, q9, q10] : List Value), z.oneCell' = true)
    (hall : R (L + 1) = wtRows ws2 us2) (hwl : (wtRows ws2 us2).length = L + 1) (hY : ∀ k, k < L → RowAt w A0 L c0 n PO R k)
    (hG : ∀ (w1 : World) (A : Option Addr) (c : Nat), OwnS w1 w.heap.size 87 13 (.slice A (L + 1) c) (wtRows ws2 us2) → Only (fun _ => False) w w1 →
      Calls Try.prog 36 #[.agg #[.int .i64 sz, .int .u64 (hold : Int), .int .u64 (nx : Int), .bool true, .slice A (L + 1) c], .int .i64 0] w1 fun e w' => ∃ A2 c2 Ao no co, e = .returned (.tuple #[.agg #[.int .i64 sz, .int .u64 (hold : Int), .int .u64 (NX : Int), .bool true, .slice A2 (L + 1 - J) c2], .slice Ao no co]) ∧ WentR (.slice A (L + 1) c) r2 us2 J (.slice A2 (L + 1 - J) c2) (.slice Ao no co) w1 w')
    (hP : ∀ (A : Option Addr) (c : Nat) (A2 : Option Addr) (c2 : Nat) (vo : Value) (w' : World), OwnS w' w.heap.size 87 13 (.slice A (L + 1) c) (wtRows ws2 us2) → (∀ W, RdL W (.slice A (L + 1) c) r2.ws us2 → RdL W (.slice A2 (L + 1 - J) c2) (r2.ws.drop J) (us2.drop J)) → OwnS w' w.heap.size 92 14 vo ((items r2.next (r2.ws.take J) (us2.take J)).map It.cls) → Only (fun _ => False) w w' → POST (.returned (.tuple #[.agg #[.int .i64 sz, .int .u64 (hold : Int), .int .u64 (NX : Int), .bool true, .slice A2 (L + 1 - J) c2], vo, .bool true])) w') :
    Calls Try.prog 25 #[.agg #[.int .i64 sz, .int .u64 (hold : Int), .int .u64 (nx : Int), .bool true, .slice A0 L c0], .int .u64 (n : Int), .agg #[q0, q1, q2, q3, q4, q5, q6, q7, q8, q9, q10], .int .u64 (cm : Int)] w POST := by
  have HNN := Lib.hid hNN
  have HLL := Lib.hid hL
  have HR0 := Lib.hid hR0
  have HLE := Lib.hid hRle
  have HRX := Lib.hid hRX
  have HX1 := Lib.hid hX1
  have HALL := Lib.hid hall
  have HWL := Lib.hid hwl
  have HY0 := Lib.hid hY
  have HG := Lib.hid hG
  have HP := Lib.hid hP
  clear hNN hL hR0 hRle hRX hX1 hall hwl hY hG hP
  go_enter Try.func25, Try.ntmps25
  go_upto_region 1 with (fail)
  generalize hw2 : World.alloc (World.alloc (World.alloc _ _) _) _ = w2
  have O2 := Lib.hid (show Only (fun _ => False) w w2 from by rw [← hw2]; exact (((Only.refl _ w).alloc _).alloc _).alloc _)
  have I2 := Lib.hid (show Is w2 w.heap.size 32 #[.int .i64 sz, .int .u64 (hold : Int), .int .u64 (nx : Int), .bool true, .slice A0 L c0] from by rw [← hw2]; exact ((Is.made w _ _).alloc _).alloc _)
  have P2 := Lib.hid (show Is w2 (w.heap.size + 1) 74 #[q0, q1, q2, q3, q4, q5, q6, q7, q8, q9, q10] from by
    rw [← hw2]
    have := (Is.made (w.alloc (.cells #[.int .i64 sz, .int .u64 (hold : Int), .int .u64 (nx : Int), .bool true, .slice A0 L c0] 32)) 74 #[q0, q1, q2, q3, q4, q5, q6, q7, q8, q9, q10])
    rw [World.size_alloc] at this
    exact this.alloc _)
  have J2 := Lib.hid (show Is w2 (w.heap.size + 2) 32 zeroRb from by
    rw [← hw2]
    have := Is.made ((w.alloc (.cells #[.int .i64 sz, .int .u64 (hold : Int), .int .u64 (nx : Int), .bool true, .slice A0 L c0] 32)).alloc (.cells #[q0, q1, q2, q3, q4, q5, q6, q7, q8, q9, q10] 74)) 32 zeroRb
    rw [World.size_alloc, World.size_alloc] at this
    exact this)
  obtain ⟨b4, hb4⟩ : ∃ b, w.heap.size = b := ⟨_, rfl⟩
  obtain ⟨b6, hb6⟩ : ∃ b, w.heap.size + 1 = b := ⟨_, rfl⟩
  obtain ⟨b8, hb8⟩ : ∃ b, w.heap.size + 2 = b := ⟨_, rfl⟩
  have HBB := Lib.hid (show b4 = w.heap.size ∧ b6 = w.heap.size + 1 ∧ b8 = w.heap.size + 2 from ⟨hb4.symm, hb6.symm, hb8.symm⟩)
  rw [hb8] at J2 ⊢
  rw [hb6] at P2 ⊢
  rw [hb4] at I2 ⊢
  clear hw2 hb4 hb6 hb8
  have c13 : w2.cell? ⟨b4, 3, none⟩ = some (.bool true) := I2.out.cell 3
  have c12 : w2.cell? ⟨b4, 2, none⟩ = some (.int .u64 (nx : Int)) := I2.out.cell 2

  have hnlt : ¬ (n : Int) < (nx : Int) := by have := HNN.out; omega
  go_wp2
  clear c13 c12 hnlt

  have HY := Lib.hid (fun k hk => let ⟨yn, ya, y0, y1, y2, y3, y4, y5, y6, y7, y8, y9, y10, g, o, n', c', e, hr, h⟩ := HY0.out k hk; (⟨yn, ya, y0, y1, y2, y3, y4, y5, y6, y7, y8, y9, y10, g, o, n', c', e, range_pure hr O2.out, h⟩ : RowAt w2 A0 L c0 n PO R k))

  go_loopw [11, 12, 13] (fun s11 s12 s13 wr => ∃ k : Nat, k ≤ L ∧ s13 = .int .i64 (k : Int) ∧ s12 = .bool (decide (PO < k)) ∧ OwnS wr w2.heap.size 87 13 s11 (R (inLen PO k)) ∧ Only (fun _ => False) w2 wr) (fun _ _ s13 _ => L - (intOf s13).toNat)
  case atStart => exact ⟨0, by omega, rfl, by rw [show decide (PO < 0) = false from by simp], by rw [show inLen PO 0 = 0 from by unfold inLen; rw [if_neg (by omega)], HR0.out]; exact OwnS.nil _ _ _ _, Only.refl _ w2⟩
  case round =>
    obtain ⟨k, hk, rfl, rfl, hS, ho⟩ := hrel
    obtain ⟨Ar, cr, hsr, -⟩ := hS.slice
    subst hsr
    obtain ⟨Nr, hNr⟩ : ∃ N, (R (inLen PO k)).length = N := ⟨_, rfl⟩
    have HNr := Lib.hid hNr
    rw [hNr] at hS ⊢
    clear hNr
    have Owr := Lib.hid ho
    have Swr := Lib.hid hS
    have Iwr := Lib.hid (I2.out.only ho (by simp))
    have Pwr := Lib.hid (P2.out.only ho (by simp))
    have c4 : wr.cell? ⟨b4, 4, none⟩ = some (.slice A0 L c0) := Iwr.out.cell 4
    clear hS ho
    by_cases hlt : k < L
    · have HKL := Lib.hid (And.intro hlt HLL.out)
      have hltI : (k : Int) < (L : Int) := by omega
      have hL299 := HLL.out
      obtain ⟨yn, ya, y0, y1, y2, y3, y4, y5, y6, y7, y8, y9, y10, g, o, n', c', e, hra, hone, hne, hA, hB, hX, hY⟩ := HY.out k hlt
      injection e with e1 e2 e3
      subst e1
      clear e2 e3
      have RA := Lib.hid hra
      have HY1 := Lib.hid hone
      have cg : wr.cell? ⟨g, o + k * 13, none⟩ = some (.int .u64 (yn : Int)) := (range_pure RA.out Owr.out) 0 _ rfl
      have cg0 : wr.cell? ⟨g, o + k * 13 + 0, none⟩ = some (.int .u64 (yn : Int)) := cg
      have hneI : ¬ (yn : Int) = (n : Int) := by omega
      have HXX := Lib.hid hX
      have HYY := Lib.hid hY
      clear hra hone hX hY
      rcases Nat.lt_trichotomy k PO with hkp | hkp | hkp
      · have hgt : ¬ (n : Int) < (yn : Int) := by have := hA hkp; omega
        have HRow := Lib.hid (HXX.out hkp)
        have hil : inLen PO k = k := by unfold inLen; rw [if_neg (by omega)]
        rw [hil] at Swr
        rw [show decide (PO < k) = false from by simp; omega]
        clear hA hB hil
        go_upto_region 16 with (fail)
        go_wp2_with (first
          | (at_builtin; refine wpList_append_struct _ rfl _ _ sty_rw rfl w2.heap.size _ (R k) rfl (OwnS.only Swr.out ((Only.refl (fun _ => False) _).alloc _) (by simp)) wr.heap.size [.int .u64 (yn : Int), .int .u64 (ya : Int), y0, y1, y2, y3, y4, y5, y6, y7, y8, y9, y10] rfl (Is.made wr _ _) rfl HY1.out (by have := HLE.out (k); have := HKL.out; omega) (by decide) (by simp; have := Owr.out.size; omega) ?_; intro v5 w5 hS5 hO5; rw [← HRow.out] at hS5; obtain ⟨A5, k5, hv5, -⟩ := hS5.slice; subst hv5; have S5 := Lib.hid hS5; have Ow5 := Lib.hid ((Owr.out.alloc _).trans hO5 (fun i hi e => by have := (Swr.out.lt i e).1; omega) : Only (fun _ => False) w2 w5); have I5 := Lib.hid (I2.out.only Ow5.out (by simp)); have P5 := Lib.hid (P2.out.only Ow5.out (by simp)); clear hS5 hO5; have c45 : w5.cell? ⟨b4, 4, none⟩ = some (.slice (some ⟨g, o, none⟩) L c0) := I5.out.cell 4)
          | (refine wpList_load_mid rfl 87 _ rfl g (o + k * 13) rfl [.int .u64 (yn : Int), .int .u64 (ya : Int), y0, y1, y2, y3, y4, y5, y6, y7, y8, y9, y10] _ (range_pure RA.out Owr.out) Try.underlying87 rfl Try.sizeRw ?_))
        obtain ⟨hk1, hk2⟩ := HKL.out
        exact ⟨⟨k + 1, by omega, by go_num, by rw [show decide (PO < k + 1) = false from by simp; omega], by rw [show inLen PO (k + 1) = k + 1 from by unfold inLen; split <;> omega]; exact S5.out, Ow5.out⟩, by simp [intOf]; omega⟩
      · have hgt : (n : Int) < (yn : Int) := by have := hB hkp; omega
        subst hkp
        have HRow := Lib.hid (HYY.out (Nat.le_refl _))
        have hil : inLen k k = k := by unfold inLen; rw [if_neg (by omega)]
        rw [hil] at Swr
        rw [show decide (k < k) = false from by simp]
        clear hA hB hil
        go_upto_region 14 with (fail)
        go_upto_region 15 with (first
          | (at_builtin; refine wpList_append_struct _ rfl _ _ sty_rw rfl w2.heap.size _ (R k) rfl (OwnS.only Swr.out ((Only.refl (fun _ => False) _).alloc _) (by simp)) wr.heap.size [.int .u64 (n : Int), .int .u64 (cm : Int), q0, q1, q2, q3, q4, q5, q6, q7, q8, q9, q10] rfl (Is.made wr _ _) rfl HX1.out (by have := HLE.out (k); have := HKL.out; omega) (by decide) (by simp; have := Owr.out.size; omega) ?_; intro v5 w5 hS5 hO5; rw [← HRX.out] at hS5; obtain ⟨A5, k5, hv5, -⟩ := hS5.slice; subst hv5; have S5 := Lib.hid hS5; have Ow5 := Lib.hid ((Owr.out.alloc _).trans hO5 (fun i hi e => by have := (Swr.out.lt i e).1; omega) : Only (fun _ => False) w2 w5); have I5 := Lib.hid (I2.out.only Ow5.out (by simp)); have P5 := Lib.hid (P2.out.only Ow5.out (by simp)); clear hS5 hO5; have c45 : w5.cell? ⟨b4, 4, none⟩ = some (.slice (some ⟨g, o, none⟩) L c0) := I5.out.cell 4)
          | (refine wpList_load_want rfl _ _ rfl b6 rfl _ #[q0, q1, q2, q3, q4, q5, q6, q7, q8, q9, q10] _ Pwr.out Try.underlying74 rfl Try.sizeRk ?_))
        go_upto_region 16 with (fail)
        go_wp2_with (first
          | (at_builtin; refine wpList_append_struct _ rfl _ _ sty_rw rfl w2.heap.size _ (R (k + 1)) rfl (OwnS.only S5.out ((Only.refl (fun _ => False) _).alloc _) (by simp)) w5.heap.size [.int .u64 (yn : Int), .int .u64 (ya : Int), y0, y1, y2, y3, y4, y5, y6, y7, y8, y9, y10] rfl (Is.made w5 _ _) rfl HY1.out (by have := HLE.out (k + 1); have := HKL.out; omega) (by decide) (by simp; have := Ow5.out.size; omega) ?_; intro v6 w6 hS6 hO6; rw [← HRow.out] at hS6; obtain ⟨A6, k6, hv6, -⟩ := hS6.slice; subst hv6; have S6 := Lib.hid hS6; have Ow6 := Lib.hid ((Ow5.out.alloc _).trans hO6 (fun i hi e => by have := (S5.out.lt i e).1; omega) : Only (fun _ => False) w2 w6); have I6 := Lib.hid (I2.out.only Ow6.out (by simp)); have P6 := Lib.hid (P2.out.only Ow6.out (by simp)); clear hS6 hO6; have c46 : w6.cell? ⟨b4, 4, none⟩ = some (.slice (some ⟨g, o, none⟩) L c0) := I6.out.cell 4)
          | (refine wpList_load_mid rfl 87 _ rfl g (o + k * 13) rfl [.int .u64 (yn : Int), .int .u64 (ya : Int), y0, y1, y2, y3, y4, y5, y6, y7, y8, y9, y10] _ (range_pure RA.out Ow5.out) Try.underlying87 rfl Try.sizeRw ?_))
        obtain ⟨hk1, hk2⟩ := HKL.out
        exact ⟨⟨k + 1, by omega, by go_num, by rw [show decide (k < k + 1) = true from by simp], by rw [show inLen k (k + 1) = k + 1 + 1 from by unfold inLen; split <;> omega]; exact S6.out, Ow6.out⟩, by simp [intOf]; omega⟩
      · have HRow := Lib.hid (HYY.out (by omega))
        have hil : inLen PO k = k + 1 := by unfold inLen; rw [if_pos (by omega)]
        rw [hil] at Swr
        rw [show decide (PO < k) = true from by simp; omega]
        clear hA hB hil
        go_upto_region 16 with (fail)
        go_wp2_with (first
          | (at_builtin; refine wpList_append_struct _ rfl _ _ sty_rw rfl w2.heap.size _ (R (k + 1)) rfl (OwnS.only Swr.out ((Only.refl (fun _ => False) _).alloc _) (by simp)) wr.heap.size [.int .u64 (yn : Int), .int .u64 (ya : Int), y0, y1, y2, y3, y4, y5, y6, y7, y8, y9, y10] rfl (Is.made wr _ _) rfl HY1.out (by have := HLE.out (k + 1); have := HKL.out; omega) (by decide) (by simp; have := Owr.out.size; omega) ?_; intro v5 w5 hS5 hO5; rw [← HRow.out] at hS5; obtain ⟨A5, k5, hv5, -⟩ := hS5.slice; subst hv5; have S5 := Lib.hid hS5; have Ow5 := Lib.hid ((Owr.out.alloc _).trans hO5 (fun i hi e => by have := (Swr.out.lt i e).1; omega) : Only (fun _ => False) w2 w5); have I5 := Lib.hid (I2.out.only Ow5.out (by simp)); have P5 := Lib.hid (P2.out.only Ow5.out (by simp)); clear hS5 hO5; have c45 : w5.cell? ⟨b4, 4, none⟩ = some (.slice (some ⟨g, o, none⟩) L c0) := I5.out.cell 4)
          | (refine wpList_load_mid rfl 87 _ rfl g (o + k * 13) rfl [.int .u64 (yn : Int), .int .u64 (ya : Int), y0, y1, y2, y3, y4, y5, y6, y7, y8, y9, y10] _ (range_pure RA.out Owr.out) Try.underlying87 rfl Try.sizeRw ?_))
        obtain ⟨hk1, hk2⟩ := HKL.out
        exact ⟨⟨k + 1, by omega, by go_num, by rw [show decide (PO < k + 1) = true from by simp; omega], by rw [show inLen PO (k + 1) = k + 1 + 1 from by unfold inLen; split <;> omega]; exact S5.out, Ow5.out⟩, by simp [intOf]; omega⟩
    · obtain rfl : L = k := by omega
      have HKL := Lib.hid (And.intro hPL HLL.out)
      rcases Nat.lt_or_ge PO L with hpk | hpk
      · have hil : inLen PO L = L + 1 := by unfold inLen; rw [if_pos hpk]
        have hN : Nr = L + 1 := by rw [← HNr.out, hil, HALL.out, HWL.out]
        rw [hil, HALL.out] at Swr
        clear HNr
        subst hN
        rw [show decide (PO < L) = true from by simp; omega]
        have SA := Swr
        have OA := Owr
        have IA := Iwr
        have fA := Iwr.out.free 4
        obtain ⟨AA, hAA⟩ : ∃ A, Ar = A := ⟨_, rfl⟩
        obtain ⟨kA, hkA⟩ : ∃ A, cr = A := ⟨_, rfl⟩
        rw [hAA, hkA] at SA ⊢
        clear hil Swr hAA hkA
        go_upto_region 20 with (fail)
        have hne : b8 ≠ b4 := by have := HBB.out; omega
        generalize hw3 : World.setCell wr ⟨b4, 4, none⟩ (.slice AA (L + 1) kA) = w3
        have O3 := Lib.hid (show Only (fun _ => False) w w3 from by rw [← hw3]; exact (O2.out.trans OA.out (fun _ _ e => e)).trans (Only.set (S := fun k => k = b4) (p := ⟨b4, 4, none⟩) (Only.refl _ wr) (fun _ => rfl) (.slice AA (L + 1) kA)) (fun i hi e => by have := HBB.out; omega))
        have I3 := Lib.hid (show Is w3 b4 32 #[.int .i64 sz, .int .u64 (hold : Int), .int .u64 (nx : Int), .bool true, .slice AA (L + 1) kA] from by rw [← hw3]; exact (IA.out.put 4 _))
        have J3 := Lib.hid (show Is w3 b8 32 zeroRb from by rw [← hw3]; exact (J2.out.only OA.out (by simp)).far hne _)
        have S3 := Lib.hid (show OwnS w3 w.heap.size 87 13 (.slice AA (L + 1) kA) (wtRows ws2 us2) from by
          rw [← hw3]
          have s := SA.out.only (Only.set (S := fun k => k = b4) (p := ⟨b4, 4, none⟩) (Only.refl _ _) (fun _ => rfl) (.slice AA (L + 1) kA)) (fun q hq (e : q = b4) => owned_off SA.out.1 IA.out (by decide) (by rw [hq, e]))
          exact ⟨owned_low s.1 O2.out.size, s.2⟩)
        have HC := Lib.hid (HG.out w3 AA kA S3.out O3.out)
        clear hw3
        go_wp2_with (first
          | (refine wpList_load_want (o := ⟨some 82, _, _, _, _, _⟩) rfl _ _ rfl b4 rfl _ #[.int .i64 sz, .int .u64 (hold : Int), .int .u64 (nx : Int), .bool true, .slice AA (L + 1) kA] _ I3.out Try.underlying32 rfl Try.sizeRb ?_)
          | ((with_reducible refine HC.out.mono ?_); rintro e w4 ⟨A2, c2, Ao, no, co, rfl, hW⟩; have W4 := Lib.hid hW; have J4 := Lib.hid (J3.out.only hW.2.2 (by simp)); clear hW)
          | (refine wpList_store_is (o := ⟨none, _, _, _, _, _⟩) rfl 32 _ _ rfl w4.heap.size #[.int .i64 sz, .int .u64 (hold : Int), .int .u64 (NX : Int), .bool true, .slice A2 (L + 1 - J) c2] rfl rfl 32 zeroRb (Is.made w4 _ _) Try.sizeRb rfl (by simp [Value.oneCell']) ?_; intro w5 hi5 ho5; have I5 := Lib.hid hi5; have O45 := Lib.hid (((Only.refl _ w4).alloc _).trans ho5 (fun i hi e => by omega) : Only (fun _ => False) w4 w5); have J5 := Lib.hid (J4.out.only O45.out (by simp)); clear hi5 ho5)
          | (refine wpList_load_want (o := ⟨some 86, _, _, _, _, _⟩) rfl _ _ rfl w4.heap.size rfl _ #[.int .i64 sz, .int .u64 (hold : Int), .int .u64 (NX : Int), .bool true, .slice A2 (L + 1 - J) c2] _ I5.out Try.underlying32 rfl Try.sizeRb ?_)
          | (refine wpList_store_is (o := ⟨none, _, _, _, _, _⟩) rfl 32 _ _ rfl b8 #[.int .i64 sz, .int .u64 (hold : Int), .int .u64 (NX : Int), .bool true, .slice A2 (L + 1 - J) c2] rfl rfl 32 zeroRb J5.out Try.sizeRb rfl (by simp [Value.oneCell']) ?_; intro w8 hi8 ho8))
        refine bodyPost_ret (res_cell2p Try.results25 _ w8 b8 32 #[.int .i64 sz, .int .u64 (hold : Int), .int .u64 (NX : Int), .bool true, .slice A2 (L + 1 - J) c2] _ (.slice Ao no co) (.bool true) rfl rfl rfl hi8 Try.underlying32 rfl Try.sizeRb) rfl ?_
        obtain ⟨q1, q2, q3⟩ := W4.out
        have O8 : Only (fun _ => False) w w8 := ((O3.out.trans q3 (fun _ _ e => e)).trans O45.out (fun _ _ e => e)).trans ho8 (fun i hi e => by have := HBB.out; omega)
        refine HP.out AA kA A2 c2 (.slice Ao no co) w8 ?_ q1 ?_ O8
        · have s5 := (S3.out.only q3 (by simp)).only O45.out (by simp)
          exact s5.only ho8 (fun q hq e => owned_off s5.1 J5.out (by decide) (by rw [hq, e]))
        · have s5 := q2.only O45.out (by simp)
          have s8 := OwnS.only s5 ho8 (fun q hq e => owned_off s5.1 J5.out (by decide) (by rw [hq, e]))
          exact ⟨owned_low s8.1 O3.out.size, s8.2⟩

      · have hil : inLen PO L = PO := by unfold inLen; rw [if_neg (by omega)]; omega
        rw [hil] at Swr
        rw [show decide (PO < L) = false from by simp; omega]
        have hPO : PO + 1 = L + 1 := by omega
        have HPO := Lib.hid hPO
        clear hil hPO
        go_upto_region 19 with (first
          | (at_builtin; refine wpList_append_struct _ rfl _ _ sty_rw rfl w2.heap.size _ (R PO) rfl (OwnS.only Swr.out ((Only.refl (fun _ => False) _).alloc _) (by simp)) wr.heap.size [.int .u64 (n : Int), .int .u64 (cm : Int), q0, q1, q2, q3, q4, q5, q6, q7, q8, q9, q10] rfl (Is.made wr _ _) rfl HX1.out (by have := HLE.out (PO); have := HKL.out; omega) (by decide) (by simp; have := Owr.out.size; omega) ?_; intro v5 w5 hS5 hO5; rw [← HRX.out] at hS5; obtain ⟨A5, k5, hv5, -⟩ := hS5.slice; subst hv5; have S5 := Lib.hid hS5; have Ow5 := Lib.hid ((Owr.out.alloc _).trans hO5 (fun i hi e => by have := (Swr.out.lt i e).1; omega) : Only (fun _ => False) w2 w5); have I5 := Lib.hid (I2.out.only Ow5.out (by simp)); have P5 := Lib.hid (P2.out.only Ow5.out (by simp)); clear hS5 hO5; have c45 : w5.cell? ⟨b4, 4, none⟩ = some (.slice A0 L c0) := I5.out.cell 4)
          | (refine wpList_load_want rfl _ _ rfl b6 rfl _ #[q0, q1, q2, q3, q4, q5, q6, q7, q8, q9, q10] _ Pwr.out Try.underlying74 rfl Try.sizeRk ?_))
        obtain ⟨N5, hN5⟩ : ∃ N, (R (PO + 1)).length = N := ⟨_, rfl⟩
        have hN : N5 = L + 1 := by rw [← hN5, HPO.out, HALL.out, HWL.out]
        rw [hN5] at S5 ⊢
        clear hN5
        subst hN
        rw [HPO.out, HALL.out] at S5
        have SA := S5
        have OA := Ow5
        have IA := I5
        have fA := I5.out.free 4
        obtain ⟨AA, hAA⟩ : ∃ A, A5 = A := ⟨_, rfl⟩
        obtain ⟨kA, hkA⟩ : ∃ A, k5 = A := ⟨_, rfl⟩
        rw [hAA, hkA] at SA ⊢
        clear c4 S5 hAA hkA
        go_upto_region 20 with (fail)
        have hne : b8 ≠ b4 := by have := HBB.out; omega
        generalize hw3 : World.setCell w5 ⟨b4, 4, none⟩ (.slice AA (L + 1) kA) = w3
        have O3 := Lib.hid (show Only (fun _ => False) w w3 from by rw [← hw3]; exact (O2.out.trans OA.out (fun _ _ e => e)).trans (Only.set (S := fun k => k = b4) (p := ⟨b4, 4, none⟩) (Only.refl _ w5) (fun _ => rfl) (.slice AA (L + 1) kA)) (fun i hi e => by have := HBB.out; omega))
        have I3 := Lib.hid (show Is w3 b4 32 #[.int .i64 sz, .int .u64 (hold : Int), .int .u64 (nx : Int), .bool true, .slice AA (L + 1) kA] from by rw [← hw3]; exact (IA.out.put 4 _))
        have J3 := Lib.hid (show Is w3 b8 32 zeroRb from by rw [← hw3]; exact (J2.out.only OA.out (by simp)).far hne _)
        have S3 := Lib.hid (show OwnS w3 w.heap.size 87 13 (.slice AA (L + 1) kA) (wtRows ws2 us2) from by
          rw [← hw3]
          have s := SA.out.only (Only.set (S := fun k => k = b4) (p := ⟨b4, 4, none⟩) (Only.refl _ _) (fun _ => rfl) (.slice AA (L + 1) kA)) (fun q hq (e : q = b4) => owned_off SA.out.1 IA.out (by decide) (by rw [hq, e]))
          exact ⟨owned_low s.1 O2.out.size, s.2⟩)
        have HC := Lib.hid (HG.out w3 AA kA S3.out O3.out)
        clear hw3
        go_wp2_with (first
          | (refine wpList_load_want (o := ⟨some 82, _, _, _, _, _⟩) rfl _ _ rfl b4 rfl _ #[.int .i64 sz, .int .u64 (hold : Int), .int .u64 (nx : Int), .bool true, .slice AA (L + 1) kA] _ I3.out Try.underlying32 rfl Try.sizeRb ?_)
          | ((with_reducible refine HC.out.mono ?_); rintro e w4 ⟨A2, c2, Ao, no, co, rfl, hW⟩; have W4 := Lib.hid hW; have J4 := Lib.hid (J3.out.only hW.2.2 (by simp)); clear hW)
          | (refine wpList_store_is (o := ⟨none, _, _, _, _, _⟩) rfl 32 _ _ rfl w4.heap.size #[.int .i64 sz, .int .u64 (hold : Int), .int .u64 (NX : Int), .bool true, .slice A2 (L + 1 - J) c2] rfl rfl 32 zeroRb (Is.made w4 _ _) Try.sizeRb rfl (by simp [Value.oneCell']) ?_; intro w5 hi5 ho5; have I5 := Lib.hid hi5; have O45 := Lib.hid (((Only.refl _ w4).alloc _).trans ho5 (fun i hi e => by omega) : Only (fun _ => False) w4 w5); have J5 := Lib.hid (J4.out.only O45.out (by simp)); clear hi5 ho5)
          | (refine wpList_load_want (o := ⟨some 86, _, _, _, _, _⟩) rfl _ _ rfl w4.heap.size rfl _ #[.int .i64 sz, .int .u64 (hold : Int), .int .u64 (NX : Int), .bool true, .slice A2 (L + 1 - J) c2] _ I5.out Try.underlying32 rfl Try.sizeRb ?_)
          | (refine wpList_store_is (o := ⟨none, _, _, _, _, _⟩) rfl 32 _ _ rfl b8 #[.int .i64 sz, .int .u64 (hold : Int), .int .u64 (NX : Int), .bool true, .slice A2 (L + 1 - J) c2] rfl rfl 32 zeroRb J5.out Try.sizeRb rfl (by simp [Value.oneCell']) ?_; intro w8 hi8 ho8))
        refine bodyPost_ret (res_cell2p Try.results25 _ w8 b8 32 #[.int .i64 sz, .int .u64 (hold : Int), .int .u64 (NX : Int), .bool true, .slice A2 (L + 1 - J) c2] _ (.slice Ao no co) (.bool true) rfl rfl rfl hi8 Try.underlying32 rfl Try.sizeRb) rfl ?_
        obtain ⟨q1, q2, q3⟩ := W4.out
        have O8 : Only (fun _ => False) w w8 := ((O3.out.trans q3 (fun _ _ e => e)).trans O45.out (fun _ _ e => e)).trans ho8 (fun i hi e => by have := HBB.out; omega)
        refine HP.out AA kA A2 c2 (.slice Ao no co) w8 ?_ q1 ?_ O8
        · have s5 := (S3.out.only q3 (by simp)).only O45.out (by simp)
          exact s5.only ho8 (fun q hq e => owned_off s5.1 J5.out (by decide) (by rw [hq, e]))
        · have s5 := q2.only O45.out (by simp)
          have s8 := OwnS.only s5 ho8 (fun q hq e => owned_off s5.1 J5.out (by decide) (by rw [hq, e]))
          exact ⟨owned_low s8.1 O3.out.size, s8.2⟩

set_option maxRecDepth 100000 in
set_option maxHeartbeats 8000000 in
theorem rin_false (POST : Ending → World → Prop) (A0 : Option Addr) (sz : Int) (hold nx n cm L c0 PO J NX : Nat) (R : Nat → List (List Value)) (ws2 : List Wt) (us2 : List V3) (r2 : Rb) (q0 q1 q2 q3 q4 q5 q6 q7 q8 q9 q10 : Value) (w : World)
    (hNN : True) (hPL : PO ≤ L) (hL : L ≤ 299)
    (hR0 : R 0 = []) (hRle : ∀ m, (R m).length ≤ m) (hRX : R (PO + 1) = R PO ++ [[.int .u64 (n : Int), .int .u64 (cm : Int), q0, q1, q2, q3, q4, q5, q6, q7, q8, q9, q10]]) (hX1 : ∀ z ∈ ([.int .u64 (n : Int), .int .u64 (cm : Int), q0, q1, q2, q3, q4, q5, q6, q7, q8, q9, q10] : List Value), z.oneCell' = true)
    (hall : R (L + 1) = wtRows ws2 us2) (hwl : (wtRows ws2 us2).length = L + 1) (hY : ∀ k, k < L → RowAt w A0 L c0 n PO R k)
    (hG : ∀ (w1 : World) (A : Option Addr) (c : Nat), OwnS w1 w.heap.size 87 13 (.slice A (L + 1) c) (wtRows ws2 us2) → Only (fun _ => False) w w1 →
      Calls Try.prog 36 #[.agg #[.int .i64 sz, .int .u64 (hold : Int), .int .u64 (n : Int), .bool true, .slice A (L + 1) c], .int .i64 0] w1 fun e w' => ∃ A2 c2 Ao no co, e = .returned (.tuple #[.agg #[.int .i64 sz, .int .u64 (hold : Int), .int .u64 (NX : Int), .bool true, .slice A2 (L + 1 - J) c2], .slice Ao no co]) ∧ WentR (.slice A (L + 1) c) r2 us2 J (.slice A2 (L + 1 - J) c2) (.slice Ao no co) w1 w')
    (hP : ∀ (A : Option Addr) (c : Nat) (A2 : Option Addr) (c2 : Nat) (vo : Value) (w' : World), OwnS w' w.heap.size 87 13 (.slice A (L + 1) c) (wtRows ws2 us2) → (∀ W, RdL W (.slice A (L + 1) c) r2.ws us2 → RdL W (.slice A2 (L + 1 - J) c2) (r2.ws.drop J) (us2.drop J)) → OwnS w' w.heap.size 92 14 vo ((items r2.next (r2.ws.take J) (us2.take J)).map It.cls) → Only (fun _ => False) w w' → POST (.returned (.tuple #[.agg #[.int .i64 sz, .int .u64 (hold : Int), .int .u64 (NX : Int), .bool true, .slice A2 (L + 1 - J) c2], vo, .bool true])) w') :
    Calls Try.prog 25 #[.agg #[.int .i64 sz, .int .u64 (hold : Int), .int .u64 (nx : Int), .bool false, .slice A0 L c0], .int .u64 (n : Int), .agg #[q0, q1, q2, q3, q4, q5, q6, q7, q8, q9, q10], .int .u64 (cm : Int)] w POST := by
  have HNN := Lib.hid hNN
  have HLL := Lib.hid hL
  have HR0 := Lib.hid hR0
  have HLE := Lib.hid hRle
  have HRX := Lib.hid hRX
  have HX1 := Lib.hid hX1
  have HALL := Lib.hid hall
  have HWL := Lib.hid hwl
  have HY0 := Lib.hid hY
  have HG := Lib.hid hG
  have HP := Lib.hid hP
  clear hNN hL hR0 hRle hRX hX1 hall hwl hY hG hP
  go_enter Try.func25, Try.ntmps25
  go_upto_region 1 with (fail)
  generalize hw1 : World.alloc (World.alloc (World.alloc _ _) _) _ = w1
  have O1 := Lib.hid (show Only (fun _ => False) w w1 from by rw [← hw1]; exact (((Only.refl _ w).alloc _).alloc _).alloc _)
  have I1 := Lib.hid (show Is w1 w.heap.size 32 #[.int .i64 sz, .int .u64 (hold : Int), .int .u64 (nx : Int), .bool false, .slice A0 L c0] from by rw [← hw1]; exact ((Is.made w _ _).alloc _).alloc _)
  have P1 := Lib.hid (show Is w1 (w.heap.size + 1) 74 #[q0, q1, q2, q3, q4, q5, q6, q7, q8, q9, q10] from by
    rw [← hw1]
    have := (Is.made (w.alloc (.cells #[.int .i64 sz, .int .u64 (hold : Int), .int .u64 (nx : Int), .bool false, .slice A0 L c0] 32)) 74 #[q0, q1, q2, q3, q4, q5, q6, q7, q8, q9, q10])
    rw [World.size_alloc] at this
    exact this.alloc _)
  have J1 := Lib.hid (show Is w1 (w.heap.size + 2) 32 zeroRb from by
    rw [← hw1]
    have := Is.made ((w.alloc (.cells #[.int .i64 sz, .int .u64 (hold : Int), .int .u64 (nx : Int), .bool false, .slice A0 L c0] 32)).alloc (.cells #[q0, q1, q2, q3, q4, q5, q6, q7, q8, q9, q10] 74)) 32 zeroRb
    rw [World.size_alloc, World.size_alloc] at this
    exact this)
  obtain ⟨b4, hb4⟩ : ∃ b, w.heap.size = b := ⟨_, rfl⟩
  obtain ⟨b6, hb6⟩ : ∃ b, w.heap.size + 1 = b := ⟨_, rfl⟩
  obtain ⟨b8, hb8⟩ : ∃ b, w.heap.size + 2 = b := ⟨_, rfl⟩
  have HBB := Lib.hid (show b4 = w.heap.size ∧ b6 = w.heap.size + 1 ∧ b8 = w.heap.size + 2 from ⟨hb4.symm, hb6.symm, hb8.symm⟩)
  rw [hb8] at J1 ⊢
  rw [hb6] at P1 ⊢
  rw [hb4] at I1 ⊢
  clear hw1 hb4 hb6 hb8
  have c13 : w1.cell? ⟨b4, 3, none⟩ = some (.bool false) := I1.out.cell 3
  have c12 : w1.cell? ⟨b4, 2, none⟩ = some (.int .u64 (nx : Int)) := I1.out.cell 2

  have f2 := I1.out.free 2
  have f3 := I1.out.free 3
  have hnlt : ¬ (n : Int) < (n : Int) := by omega
  go_upto_region 4 with (fail)
  generalize hw2 : World.setCell _ _ _ = w2
  have I2 := Lib.hid (show Is w2 b4 32 #[.int .i64 sz, .int .u64 (hold : Int), .int .u64 (n : Int), .bool true, .slice A0 L c0] from by rw [← hw2]; exact ((I1.out.put 2 _).put 3 _))
  have O2 := Lib.hid (show Only (fun _ => False) w w2 from by rw [← hw2]; exact O1.out.trans (Only.set (S := fun k => k = b4) (p := ⟨b4, 3, none⟩) (Only.set (S := fun k => k = b4) (p := ⟨b4, 2, none⟩) (Only.refl _ _) (fun _ => rfl) _) (fun _ => rfl) _) (fun i hi e => by have := HBB.out; omega))
  have P2 := Lib.hid (show Is w2 b6 74 #[q0, q1, q2, q3, q4, q5, q6, q7, q8, q9, q10] from by rw [← hw2]; exact (P1.out.far (show b6 ≠ b4 from by have := HBB.out; omega) _).far (show b6 ≠ b4 from by have := HBB.out; omega) _)
  have J2 := Lib.hid (show Is w2 b8 32 zeroRb from by rw [← hw2]; exact (J1.out.far (show b8 ≠ b4 from by have := HBB.out; omega) _).far (show b8 ≠ b4 from by have := HBB.out; omega) _)
  have c22 : w2.cell? ⟨b4, 2, none⟩ = some (.int .u64 (n : Int)) := I2.out.cell 2
  clear hw2 c13 c12 f2 f3
  go_wp2
  clear c22 hnlt

  have HY := Lib.hid (fun k hk => let ⟨yn, ya, y0, y1, y2, y3, y4, y5, y6, y7, y8, y9, y10, g, o, n', c', e, hr, h⟩ := HY0.out k hk; (⟨yn, ya, y0, y1, y2, y3, y4, y5, y6, y7, y8, y9, y10, g, o, n', c', e, range_pure hr O2.out, h⟩ : RowAt w2 A0 L c0 n PO R k))

  go_loopw [11, 12, 13] (fun s11 s12 s13 wr => ∃ k : Nat, k ≤ L ∧ s13 = .int .i64 (k : Int) ∧ s12 = .bool (decide (PO < k)) ∧ OwnS wr w2.heap.size 87 13 s11 (R (inLen PO k)) ∧ Only (fun _ => False) w2 wr) (fun _ _ s13 _ => L - (intOf s13).toNat)
  case atStart => exact ⟨0, by omega, rfl, by rw [show decide (PO < 0) = false from by simp], by rw [show inLen PO 0 = 0 from by unfold inLen; rw [if_neg (by omega)], HR0.out]; exact OwnS.nil _ _ _ _, Only.refl _ w2⟩
  case round =>
    obtain ⟨k, hk, rfl, rfl, hS, ho⟩ := hrel
    obtain ⟨Ar, cr, hsr, -⟩ := hS.slice
    subst hsr
    obtain ⟨Nr, hNr⟩ : ∃ N, (R (inLen PO k)).length = N := ⟨_, rfl⟩
    have HNr := Lib.hid hNr
    rw [hNr] at hS ⊢
    clear hNr
    have Owr := Lib.hid ho
    have Swr := Lib.hid hS
    have Iwr := Lib.hid (I2.out.only ho (by simp))
    have Pwr := Lib.hid (P2.out.only ho (by simp))
    have c4 : wr.cell? ⟨b4, 4, none⟩ = some (.slice A0 L c0) := Iwr.out.cell 4
    clear hS ho
    by_cases hlt : k < L
    · have HKL := Lib.hid (And.intro hlt HLL.out)
      have hltI : (k : Int) < (L : Int) := by omega
      have hL299 := HLL.out
      obtain ⟨yn, ya, y0, y1, y2, y3, y4, y5, y6, y7, y8, y9, y10, g, o, n', c', e, hra, hone, hne, hA, hB, hX, hY⟩ := HY.out k hlt
      injection e with e1 e2 e3
      subst e1
      clear e2 e3
      have RA := Lib.hid hra
      have HY1 := Lib.hid hone
      have cg : wr.cell? ⟨g, o + k * 13, none⟩ = some (.int .u64 (yn : Int)) := (range_pure RA.out Owr.out) 0 _ rfl
      have cg0 : wr.cell? ⟨g, o + k * 13 + 0, none⟩ = some (.int .u64 (yn : Int)) := cg
      have hneI : ¬ (yn : Int) = (n : Int) := by omega
      have HXX := Lib.hid hX
      have HYY := Lib.hid hY
      clear hra hone hX hY
      rcases Nat.lt_trichotomy k PO with hkp | hkp | hkp
      · have hgt : ¬ (n : Int) < (yn : Int) := by have := hA hkp; omega
        have HRow := Lib.hid (HXX.out hkp)
        have hil : inLen PO k = k := by unfold inLen; rw [if_neg (by omega)]
        rw [hil] at Swr
        rw [show decide (PO < k) = false from by simp; omega]
        clear hA hB hil
        go_upto_region 16 with (fail)
        go_wp2_with (first
          | (at_builtin; refine wpList_append_struct _ rfl _ _ sty_rw rfl w2.heap.size _ (R k) rfl (OwnS.only Swr.out ((Only.refl (fun _ => False) _).alloc _) (by simp)) wr.heap.size [.int .u64 (yn : Int), .int .u64 (ya : Int), y0, y1, y2, y3, y4, y5, y6, y7, y8, y9, y10] rfl (Is.made wr _ _) rfl HY1.out (by have := HLE.out (k); have := HKL.out; omega) (by decide) (by simp; have := Owr.out.size; omega) ?_; intro v5 w5 hS5 hO5; rw [← HRow.out] at hS5; obtain ⟨A5, k5, hv5, -⟩ := hS5.slice; subst hv5; have S5 := Lib.hid hS5; have Ow5 := Lib.hid ((Owr.out.alloc _).trans hO5 (fun i hi e => by have := (Swr.out.lt i e).1; omega) : Only (fun _ => False) w2 w5); have I5 := Lib.hid (I2.out.only Ow5.out (by simp)); have P5 := Lib.hid (P2.out.only Ow5.out (by simp)); clear hS5 hO5; have c45 : w5.cell? ⟨b4, 4, none⟩ = some (.slice (some ⟨g, o, none⟩) L c0) := I5.out.cell 4)
          | (refine wpList_load_mid rfl 87 _ rfl g (o + k * 13) rfl [.int .u64 (yn : Int), .int .u64 (ya : Int), y0, y1, y2, y3, y4, y5, y6, y7, y8, y9, y10] _ (range_pure RA.out Owr.out) Try.underlying87 rfl Try.sizeRw ?_))
        obtain ⟨hk1, hk2⟩ := HKL.out
        exact ⟨⟨k + 1, by omega, by go_num, by rw [show decide (PO < k + 1) = false from by simp; omega], by rw [show inLen PO (k + 1) = k + 1 from by unfold inLen; split <;> omega]; exact S5.out, Ow5.out⟩, by simp [intOf]; omega⟩
      · have hgt : (n : Int) < (yn : Int) := by have := hB hkp; omega
        subst hkp
        have HRow := Lib.hid (HYY.out (Nat.le_refl _))
        have hil : inLen k k = k := by unfold inLen; rw [if_neg (by omega)]
        rw [hil] at Swr
        rw [show decide (k < k) = false from by simp]
        clear hA hB hil
        go_upto_region 14 with (fail)
        go_upto_region 15 with (first
          | (at_builtin; refine wpList_append_struct _ rfl _ _ sty_rw rfl w2.heap.size _ (R k) rfl (OwnS.only Swr.out ((Only.refl (fun _ => False) _).alloc _) (by simp)) wr.heap.size [.int .u64 (n : Int), .int .u64 (cm : Int), q0, q1, q2, q3, q4, q5, q6, q7, q8, q9, q10] rfl (Is.made wr _ _) rfl HX1.out (by have := HLE.out (k); have := HKL.out; omega) (by decide) (by simp; have := Owr.out.size; omega) ?_; intro v5 w5 hS5 hO5; rw [← HRX.out] at hS5; obtain ⟨A5, k5, hv5, -⟩ := hS5.slice; subst hv5; have S5 := Lib.hid hS5; have Ow5 := Lib.hid ((Owr.out.alloc _).trans hO5 (fun i hi e => by have := (Swr.out.lt i e).1; omega) : Only (fun _ => False) w2 w5); have I5 := Lib.hid (I2.out.only Ow5.out (by simp)); have P5 := Lib.hid (P2.out.only Ow5.out (by simp)); clear hS5 hO5; have c45 : w5.cell? ⟨b4, 4, none⟩ = some (.slice (some ⟨g, o, none⟩) L c0) := I5.out.cell 4)
          | (refine wpList_load_want rfl _ _ rfl b6 rfl _ #[q0, q1, q2, q3, q4, q5, q6, q7, q8, q9, q10] _ Pwr.out Try.underlying74 rfl Try.sizeRk ?_))
        go_upto_region 16 with (fail)
        go_wp2_with (first
          | (at_builtin; refine wpList_append_struct _ rfl _ _ sty_rw rfl w2.heap.size _ (R (k + 1)) rfl (OwnS.only S5.out ((Only.refl (fun _ => False) _).alloc _) (by simp)) w5.heap.size [.int .u64 (yn : Int), .int .u64 (ya : Int), y0, y1, y2, y3, y4, y5, y6, y7, y8, y9, y10] rfl (Is.made w5 _ _) rfl HY1.out (by have := HLE.out (k + 1); have := HKL.out; omega) (by decide) (by simp; have := Ow5.out.size; omega) ?_; intro v6 w6 hS6 hO6; rw [← HRow.out] at hS6; obtain ⟨A6, k6, hv6, -⟩ := hS6.slice; subst hv6; have S6 := Lib.hid hS6; have Ow6 := Lib.hid ((Ow5.out.alloc _).trans hO6 (fun i hi e => by have := (S5.out.lt i e).1; omega) : Only (fun _ => False) w2 w6); have I6 := Lib.hid (I2.out.only Ow6.out (by simp)); have P6 := Lib.hid (P2.out.only Ow6.out (by simp)); clear hS6 hO6; have c46 : w6.cell? ⟨b4, 4, none⟩ = some (.slice (some ⟨g, o, none⟩) L c0) := I6.out.cell 4)
          | (refine wpList_load_mid rfl 87 _ rfl g (o + k * 13) rfl [.int .u64 (yn : Int), .int .u64 (ya : Int), y0, y1, y2, y3, y4, y5, y6, y7, y8, y9, y10] _ (range_pure RA.out Ow5.out) Try.underlying87 rfl Try.sizeRw ?_))
        obtain ⟨hk1, hk2⟩ := HKL.out
        exact ⟨⟨k + 1, by omega, by go_num, by rw [show decide (k < k + 1) = true from by simp], by rw [show inLen k (k + 1) = k + 1 + 1 from by unfold inLen; split <;> omega]; exact S6.out, Ow6.out⟩, by simp [intOf]; omega⟩
      · have HRow := Lib.hid (HYY.out (by omega))
        have hil : inLen PO k = k + 1 := by unfold inLen; rw [if_pos (by omega)]
        rw [hil] at Swr
        rw [show decide (PO < k) = true from by simp; omega]
        clear hA hB hil
        go_upto_region 16 with (fail)
        go_wp2_with (first
          | (at_builtin; refine wpList_append_struct _ rfl _ _ sty_rw rfl w2.heap.size _ (R (k + 1)) rfl (OwnS.only Swr.out ((Only.refl (fun _ => False) _).alloc _) (by simp)) wr.heap.size [.int .u64 (yn : Int), .int .u64 (ya : Int), y0, y1, y2, y3, y4, y5, y6, y7, y8, y9, y10] rfl (Is.made wr _ _) rfl HY1.out (by have := HLE.out (k + 1); have := HKL.out; omega) (by decide) (by simp; have := Owr.out.size; omega) ?_; intro v5 w5 hS5 hO5; rw [← HRow.out] at hS5; obtain ⟨A5, k5, hv5, -⟩ := hS5.slice; subst hv5; have S5 := Lib.hid hS5; have Ow5 := Lib.hid ((Owr.out.alloc _).trans hO5 (fun i hi e => by have := (Swr.out.lt i e).1; omega) : Only (fun _ => False) w2 w5); have I5 := Lib.hid (I2.out.only Ow5.out (by simp)); have P5 := Lib.hid (P2.out.only Ow5.out (by simp)); clear hS5 hO5; have c45 : w5.cell? ⟨b4, 4, none⟩ = some (.slice (some ⟨g, o, none⟩) L c0) := I5.out.cell 4)
          | (refine wpList_load_mid rfl 87 _ rfl g (o + k * 13) rfl [.int .u64 (yn : Int), .int .u64 (ya : Int), y0, y1, y2, y3, y4, y5, y6, y7, y8, y9, y10] _ (range_pure RA.out Owr.out) Try.underlying87 rfl Try.sizeRw ?_))
        obtain ⟨hk1, hk2⟩ := HKL.out
        exact ⟨⟨k + 1, by omega, by go_num, by rw [show decide (PO < k + 1) = true from by simp; omega], by rw [show inLen PO (k + 1) = k + 1 + 1 from by unfold inLen; split <;> omega]; exact S5.out, Ow5.out⟩, by simp [intOf]; omega⟩
    · obtain rfl : L = k := by omega
      have HKL := Lib.hid (And.intro hPL HLL.out)
      rcases Nat.lt_or_ge PO L with hpk | hpk
      · have hil : inLen PO L = L + 1 := by unfold inLen; rw [if_pos hpk]
        have hN : Nr = L + 1 := by rw [← HNr.out, hil, HALL.out, HWL.out]
        rw [hil, HALL.out] at Swr
        clear HNr
        subst hN
        rw [show decide (PO < L) = true from by simp; omega]
        have SA := Swr
        have OA := Owr
        have IA := Iwr
        have fA := Iwr.out.free 4
        obtain ⟨AA, hAA⟩ : ∃ A, Ar = A := ⟨_, rfl⟩
        obtain ⟨kA, hkA⟩ : ∃ A, cr = A := ⟨_, rfl⟩
        rw [hAA, hkA] at SA ⊢
        clear hil Swr hAA hkA
        go_upto_region 20 with (fail)
        have hne : b8 ≠ b4 := by have := HBB.out; omega
        generalize hw3 : World.setCell wr ⟨b4, 4, none⟩ (.slice AA (L + 1) kA) = w3
        have O3 := Lib.hid (show Only (fun _ => False) w w3 from by rw [← hw3]; exact (O2.out.trans OA.out (fun _ _ e => e)).trans (Only.set (S := fun k => k = b4) (p := ⟨b4, 4, none⟩) (Only.refl _ wr) (fun _ => rfl) (.slice AA (L + 1) kA)) (fun i hi e => by have := HBB.out; omega))
        have I3 := Lib.hid (show Is w3 b4 32 #[.int .i64 sz, .int .u64 (hold : Int), .int .u64 (n : Int), .bool true, .slice AA (L + 1) kA] from by rw [← hw3]; exact (IA.out.put 4 _))
        have J3 := Lib.hid (show Is w3 b8 32 zeroRb from by rw [← hw3]; exact (J2.out.only OA.out (by simp)).far hne _)
        have S3 := Lib.hid (show OwnS w3 w.heap.size 87 13 (.slice AA (L + 1) kA) (wtRows ws2 us2) from by
          rw [← hw3]
          have s := SA.out.only (Only.set (S := fun k => k = b4) (p := ⟨b4, 4, none⟩) (Only.refl _ _) (fun _ => rfl) (.slice AA (L + 1) kA)) (fun q hq (e : q = b4) => owned_off SA.out.1 IA.out (by decide) (by rw [hq, e]))
          exact ⟨owned_low s.1 O2.out.size, s.2⟩)
        have HC := Lib.hid (HG.out w3 AA kA S3.out O3.out)
        clear hw3
        go_wp2_with (first
          | (refine wpList_load_want (o := ⟨some 82, _, _, _, _, _⟩) rfl _ _ rfl b4 rfl _ #[.int .i64 sz, .int .u64 (hold : Int), .int .u64 (n : Int), .bool true, .slice AA (L + 1) kA] _ I3.out Try.underlying32 rfl Try.sizeRb ?_)
          | ((with_reducible refine HC.out.mono ?_); rintro e w4 ⟨A2, c2, Ao, no, co, rfl, hW⟩; have W4 := Lib.hid hW; have J4 := Lib.hid (J3.out.only hW.2.2 (by simp)); clear hW)
          | (refine wpList_store_is (o := ⟨none, _, _, _, _, _⟩) rfl 32 _ _ rfl w4.heap.size #[.int .i64 sz, .int .u64 (hold : Int), .int .u64 (NX : Int), .bool true, .slice A2 (L + 1 - J) c2] rfl rfl 32 zeroRb (Is.made w4 _ _) Try.sizeRb rfl (by simp [Value.oneCell']) ?_; intro w5 hi5 ho5; have I5 := Lib.hid hi5; have O45 := Lib.hid (((Only.refl _ w4).alloc _).trans ho5 (fun i hi e => by omega) : Only (fun _ => False) w4 w5); have J5 := Lib.hid (J4.out.only O45.out (by simp)); clear hi5 ho5)
          | (refine wpList_load_want (o := ⟨some 86, _, _, _, _, _⟩) rfl _ _ rfl w4.heap.size rfl _ #[.int .i64 sz, .int .u64 (hold : Int), .int .u64 (NX : Int), .bool true, .slice A2 (L + 1 - J) c2] _ I5.out Try.underlying32 rfl Try.sizeRb ?_)
          | (refine wpList_store_is (o := ⟨none, _, _, _, _, _⟩) rfl 32 _ _ rfl b8 #[.int .i64 sz, .int .u64 (hold : Int), .int .u64 (NX : Int), .bool true, .slice A2 (L + 1 - J) c2] rfl rfl 32 zeroRb J5.out Try.sizeRb rfl (by simp [Value.oneCell']) ?_; intro w8 hi8 ho8))
        refine bodyPost_ret (res_cell2p Try.results25 _ w8 b8 32 #[.int .i64 sz, .int .u64 (hold : Int), .int .u64 (NX : Int), .bool true, .slice A2 (L + 1 - J) c2] _ (.slice Ao no co) (.bool true) rfl rfl rfl hi8 Try.underlying32 rfl Try.sizeRb) rfl ?_
        obtain ⟨q1, q2, q3⟩ := W4.out
        have O8 : Only (fun _ => False) w w8 := ((O3.out.trans q3 (fun _ _ e => e)).trans O45.out (fun _ _ e => e)).trans ho8 (fun i hi e => by have := HBB.out; omega)
        refine HP.out AA kA A2 c2 (.slice Ao no co) w8 ?_ q1 ?_ O8
        · have s5 := (S3.out.only q3 (by simp)).only O45.out (by simp)
          exact s5.only ho8 (fun q hq e => owned_off s5.1 J5.out (by decide) (by rw [hq, e]))
        · have s5 := q2.only O45.out (by simp)
          have s8 := OwnS.only s5 ho8 (fun q hq e => owned_off s5.1 J5.out (by decide) (by rw [hq, e]))
          exact ⟨owned_low s8.1 O3.out.size, s8.2⟩

      · have hil : inLen PO L = PO := by unfold inLen; rw [if_neg (by omega)]; omega
        rw [hil] at Swr
        rw [show decide (PO < L) = false from by simp; omega]
        have hPO : PO + 1 = L + 1 := by omega
        have HPO := Lib.hid hPO
        clear hil hPO
        go_upto_region 19 with (first
          | (at_builtin; refine wpList_append_struct _ rfl _ _ sty_rw rfl w2.heap.size _ (R PO) rfl (OwnS.only Swr.out ((Only.refl (fun _ => False) _).alloc _) (by simp)) wr.heap.size [.int .u64 (n : Int), .int .u64 (cm : Int), q0, q1, q2, q3, q4, q5, q6, q7, q8, q9, q10] rfl (Is.made wr _ _) rfl HX1.out (by have := HLE.out (PO); have := HKL.out; omega) (by decide) (by simp; have := Owr.out.size; omega) ?_; intro v5 w5 hS5 hO5; rw [← HRX.out] at hS5; obtain ⟨A5, k5, hv5, -⟩ := hS5.slice; subst hv5; have S5 := Lib.hid hS5; have Ow5 := Lib.hid ((Owr.out.alloc _).trans hO5 (fun i hi e => by have := (Swr.out.lt i e).1; omega) : Only (fun _ => False) w2 w5); have I5 := Lib.hid (I2.out.only Ow5.out (by simp)); have P5 := Lib.hid (P2.out.only Ow5.out (by simp)); clear hS5 hO5; have c45 : w5.cell? ⟨b4, 4, none⟩ = some (.slice A0 L c0) := I5.out.cell 4)
          | (refine wpList_load_want rfl _ _ rfl b6 rfl _ #[q0, q1, q2, q3, q4, q5, q6, q7, q8, q9, q10] _ Pwr.out Try.underlying74 rfl Try.sizeRk ?_))
        obtain ⟨N5, hN5⟩ : ∃ N, (R (PO + 1)).length = N := ⟨_, rfl⟩
        have hN : N5 = L + 1 := by rw [← hN5, HPO.out, HALL.out, HWL.out]
        rw [hN5] at S5 ⊢
        clear hN5
        subst hN
        rw [HPO.out, HALL.out] at S5
        have SA := S5
        have OA := Ow5
        have IA := I5
        have fA := I5.out.free 4
        obtain ⟨AA, hAA⟩ : ∃ A, A5 = A := ⟨_, rfl⟩
        obtain ⟨kA, hkA⟩ : ∃ A, k5 = A := ⟨_, rfl⟩
        rw [hAA, hkA] at SA ⊢
        clear c4 S5 hAA hkA
        go_upto_region 20 with (fail)
        have hne : b8 ≠ b4 := by have := HBB.out; omega
        generalize hw3 : World.setCell w5 ⟨b4, 4, none⟩ (.slice AA (L + 1) kA) = w3
        have O3 := Lib.hid (show Only (fun _ => False) w w3 from by rw [← hw3]; exact (O2.out.trans OA.out (fun _ _ e => e)).trans (Only.set (S := fun k => k = b4) (p := ⟨b4, 4, none⟩) (Only.refl _ w5) (fun _ => rfl) (.slice AA (L + 1) kA)) (fun i hi e => by have := HBB.out; omega))
        have I3 := Lib.hid (show Is w3 b4 32 #[.int .i64 sz, .int .u64 (hold : Int), .int .u64 (n : Int), .bool true, .slice AA (L + 1) kA] from by rw [← hw3]; exact (IA.out.put 4 _))
        have J3 := Lib.hid (show Is w3 b8 32 zeroRb from by rw [← hw3]; exact (J2.out.only OA.out (by simp)).far hne _)
        have S3 := Lib.hid (show OwnS w3 w.heap.size 87 13 (.slice AA (L + 1) kA) (wtRows ws2 us2) from by
          rw [← hw3]
          have s := SA.out.only (Only.set (S := fun k => k = b4) (p := ⟨b4, 4, none⟩) (Only.refl _ _) (fun _ => rfl) (.slice AA (L + 1) kA)) (fun q hq (e : q = b4) => owned_off SA.out.1 IA.out (by decide) (by rw [hq, e]))
          exact ⟨owned_low s.1 O2.out.size, s.2⟩)
        have HC := Lib.hid (HG.out w3 AA kA S3.out O3.out)
        clear hw3
        go_wp2_with (first
          | (refine wpList_load_want (o := ⟨some 82, _, _, _, _, _⟩) rfl _ _ rfl b4 rfl _ #[.int .i64 sz, .int .u64 (hold : Int), .int .u64 (n : Int), .bool true, .slice AA (L + 1) kA] _ I3.out Try.underlying32 rfl Try.sizeRb ?_)
          | ((with_reducible refine HC.out.mono ?_); rintro e w4 ⟨A2, c2, Ao, no, co, rfl, hW⟩; have W4 := Lib.hid hW; have J4 := Lib.hid (J3.out.only hW.2.2 (by simp)); clear hW)
          | (refine wpList_store_is (o := ⟨none, _, _, _, _, _⟩) rfl 32 _ _ rfl w4.heap.size #[.int .i64 sz, .int .u64 (hold : Int), .int .u64 (NX : Int), .bool true, .slice A2 (L + 1 - J) c2] rfl rfl 32 zeroRb (Is.made w4 _ _) Try.sizeRb rfl (by simp [Value.oneCell']) ?_; intro w5 hi5 ho5; have I5 := Lib.hid hi5; have O45 := Lib.hid (((Only.refl _ w4).alloc _).trans ho5 (fun i hi e => by omega) : Only (fun _ => False) w4 w5); have J5 := Lib.hid (J4.out.only O45.out (by simp)); clear hi5 ho5)
          | (refine wpList_load_want (o := ⟨some 86, _, _, _, _, _⟩) rfl _ _ rfl w4.heap.size rfl _ #[.int .i64 sz, .int .u64 (hold : Int), .int .u64 (NX : Int), .bool true, .slice A2 (L + 1 - J) c2] _ I5.out Try.underlying32 rfl Try.sizeRb ?_)
          | (refine wpList_store_is (o := ⟨none, _, _, _, _, _⟩) rfl 32 _ _ rfl b8 #[.int .i64 sz, .int .u64 (hold : Int), .int .u64 (NX : Int), .bool true, .slice A2 (L + 1 - J) c2] rfl rfl 32 zeroRb J5.out Try.sizeRb rfl (by simp [Value.oneCell']) ?_; intro w8 hi8 ho8))
        refine bodyPost_ret (res_cell2p Try.results25 _ w8 b8 32 #[.int .i64 sz, .int .u64 (hold : Int), .int .u64 (NX : Int), .bool true, .slice A2 (L + 1 - J) c2] _ (.slice Ao no co) (.bool true) rfl rfl rfl hi8 Try.underlying32 rfl Try.sizeRb) rfl ?_
        obtain ⟨q1, q2, q3⟩ := W4.out
        have O8 : Only (fun _ => False) w w8 := ((O3.out.trans q3 (fun _ _ e => e)).trans O45.out (fun _ _ e => e)).trans ho8 (fun i hi e => by have := HBB.out; omega)
        refine HP.out AA kA A2 c2 (.slice Ao no co) w8 ?_ q1 ?_ O8
        · have s5 := (S3.out.only q3 (by simp)).only O45.out (by simp)
          exact s5.only ho8 (fun q hq e => owned_off s5.1 J5.out (by decide) (by rw [hq, e]))
        · have s5 := q2.only O45.out (by simp)
          have s8 := OwnS.only s5 ho8 (fun q hq e => owned_off s5.1 J5.out (by decide) (by rw [hq, e]))
          exact ⟨owned_low s8.1 O3.out.size, s8.2⟩
end Go.Proofs.Ytdcclighccejhaa
