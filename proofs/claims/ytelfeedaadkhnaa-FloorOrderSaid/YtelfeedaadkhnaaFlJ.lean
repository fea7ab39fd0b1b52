/- floor: Request, Tick, Holder, Leave. Conditions: as each says. -/
import Derived.Test.YtelfeedaadkhnaaFlI
set_option linter.unusedVariables false
set_option linter.unusedSimpArgs false
namespace Go.Proofs.Ytelfeedaadkhnaa
open Go Go.RowKit

set_option maxRecDepth 100000 in
set_option maxHeartbeats 4000000 in
theorem request_is (B b mb n now : Nat) (m : Fl) (vw vg : Value) (w : World) (h : Flr w B b mb m vw vg) (hn : n < 4294967296) (hg : m.gs.length ≤ 10000) (hwl : m.wt.length ≤ 1000) (hbd : m.bound ≤ 32) :
    Calls Try.prog 25 #[ptr b, .int .u32 (n : Int), .int .u64 (now : Int)] w (DoneT (.int .i64 ((m.request n now).2 : Int)) w B b mb vw vg (m.request n now).1) := by
  have HF := Lib.hid h
  obtain ⟨Aw, cw, rfl, hcw⟩ := h.wr.slice
  rw [rows32_length] at hcw HF ⊢
  obtain ⟨L, hL⟩ : ∃ L, m.wt.length = L := ⟨_, rfl⟩
  have HL := Lib.hid hL
  rw [hL] at hcw HF hwl ⊢
  have hr : m.request n now = if !m.has n then (m, 130) else if m.is n || m.wt.any (fun x => x == n) then (m, 132) else if m.no = 0 then (m.grant n now, 0) else if m.bound ≤ m.wt.length then (m, 131) else ({ m with wt := m.wt ++ [n] }, 0) := rfl
  generalize m.request n now = r at *
  have HR := Lib.hid hr
  clear h hr hL
  go_enter Try.func25, Try.ntmps25
  go_wp2_with fail
  refine (there_is B b mb m _ vg w HF.out).mono ?_
  rintro e w1 ⟨rfl, rfl⟩
  go_wp2_with fail
  refine (fhas_is B b mb n m _ vg _ HF.out hn).mono ?_
  rintro e w1 ⟨rfl, ho⟩
  have HO := Lib.hid ho
  have HF1 := Lib.hid (HF.out.pure ho)
  clear ho
  cases hh : m.has n with
  | false =>
    have HE := Lib.hid (show r = (m, 130) from by rw [HR.out, hh]; rfl)
    clear hh
    go_wp2
    go_ret
    rw [HE.out]
    exact done_pure HF.out HO.out
  | true =>
    rw [hh] at HR
    clear hh
    go_upto_region 5 with (fail)
    cases hi : m.is n with
    | true =>
      have HE := Lib.hid (show r = (m, 132) from by rw [HR.out, hi]; rfl)
      have hmi := fun w1 => mis_is m n w1
      rw [hi] at hmi
      clear hi
      refine frq5t B b mb n m _ vg w1 hmi _ _ _ _ _ _ _ _ _ _ _ _ _ _ _ _ _ _ _ _ _ _ _ _ _ _ _ _ _ _ _ _ _ _ _ _ _ _ _ _ _ _ _ _ _ _ _ _ _ _ _ _ _ _ _ _ _ _ _ _ _ _ _ w1 ⟨HF1.out, Only.refl _ _⟩ ?_
      rintro y17 y18 y19 y20 y21 y22 y23 y24 y25 y26 y27 y28 y29 y30 y31 w2 hG
      have HG := Lib.hid hG
      clear hG hmi
      go_wp2
      go_ret
      rw [HE.out]
      exact done_pure HF.out (HO.out.trans HG.out.pure (fun _ _ e => e))
    | false =>
      rw [hi] at HR
      have hmi := fun w1 => mis_is m n w1
      rw [hi] at hmi
      clear hi
      refine frq5f B b mb n m _ vg w1 hmi (by rw [HL.out]; omega) _ _ _ _ _ _ _ _ _ _ _ _ _ _ _ _ _ _ _ _ _ _ _ _ _ _ _ _ _ _ _ _ _ _ _ _ _ _ _ _ _ _ _ _ _ _ _ _ _ _ _ _ _ _ _ _ _ _ _ _ _ _ _ w1 ⟨HF1.out, Only.refl _ _⟩ ?_
      rintro y17 y18 y19 y20 y21 y22 y23 y24 y25 y26 y27 y28 y29 y30 y31 w2 hG
      have HO2 := Lib.hid (HO.out.trans hG.pure (fun _ _ e => e))
      have HF2 := Lib.hid hG.fl
      clear hG hmi
      cases hq : m.wt.any (fun x => x == n) with
      | true =>
        have HE := Lib.hid (show r = (m, 132) from by rw [HR.out, hq]; rfl)
        clear hq
        go_wp2
        go_ret
        rw [HE.out]
        exact done_pure HF.out HO2.out
      | false =>
        rw [hq] at HR
        clear hq
        go_wp2_with (refine wpList_load_mid rfl 64 _ rfl b 3 rfl _ _ HF2.out.rangeH Try.underlying64 rfl Try.sizeHl ?_)
        refine (somebody_is m.no m.who m.at_ m.heard m.pend _).mono ?_
        rintro e w3 ⟨rfl, ho⟩
        have HO3 := Lib.hid (HO2.out.trans ho (fun _ _ e => e))
        have HF3 := Lib.hid (HF2.out.pure ho)
        clear ho
        by_cases h0 : m.no = 0
        · have HE := Lib.hid (show r = (m.grant n now, 0) from by rw [HR.out]; simp [h0])
          have hd : decide (0 < m.no) = false := by simp [h0]
          rw [hd]
          clear hd h0
          go_wp2_with fail
          refine (grant_is B b mb n now m _ vg _ HF3.out hg).mono ?_
          rintro e w4 ⟨rfl, hT⟩
          have HT := Lib.hid hT
          clear hT
          go_wp2
          go_ret
          rw [HE.out]
          exact done_after HO3.out HT.out
        · have hd : decide (0 < m.no) = true := by simp; omega
          rw [hd]
          clear hd
          have c8 : w3.cell? ⟨b, 8, none⟩ = some (.slice Aw L cw) := HF3.out.cell 8
          have c0 : w3.cell? ⟨b, 0, none⟩ = some (.int .i64 (m.bound : Int)) := HF3.out.cell 0
          clear HF1 HF2
          go_upto_region 10 with (fail)
          go_quiet (fail)
          obtain ⟨bd, hbd2⟩ : ∃ bd, bd = m.bound := ⟨_, rfl⟩
          rw [← hbd2] at c0 ⊢
          by_cases hb : bd ≤ L
          · have HE := Lib.hid (show r = (m, 131) from by rw [HR.out, HL.out]; simp [h0, ← hbd2, hb])
            have hbI : (L : Int) ≥ (bd : Int) := by omega
            clear h0
            go_wp2
            go_ret
            rw [HE.out]
            exact done_pure HF.out (HO3.out.drewN _)
          · have HE := Lib.hid (show r = ({ m with wt := m.wt ++ [n] }, 0) from by rw [HR.out, HL.out]; simp [h0, ← hbd2, hb])
            have hbI : ¬ (L : Int) ≥ (bd : Int) := by omega
            clear h0
            obtain ⟨w4, hw4⟩ : ∃ w4, w4 = w3.drewN nq := ⟨_, rfl⟩
            have HF4 := Lib.hid (show Flr w4 B b mb m (.slice Aw L cw) vg from by rw [hw4]; exact HF3.out.pure ((Only.refl _ _).drewN _))
            have HO4 := Lib.hid (show Only (fun _ => False) w w4 from by rw [hw4]; exact HO3.out.drewN _)
            rw [← hw4]
            clear hw4 HF3 HO3 c8 c0
            have c8 : w4.cell? ⟨b, 8, none⟩ = some (.slice Aw L cw) := HF4.out.cell 8
            go_wp2_with (at_builtin; refine wpList_append_structN _ rfl _ _ sty_32 rfl B (.slice Aw L cw) (rows32 m.wt) rfl (OwnS.only HF4.out.wr ((Only.refl (fun _ => False) _).alloc _) (by simp)) w4.heap.size [.int .u32 (n : Int)] rfl (Is.made _ _ _) rfl (by simp [Value.oneCell']) (by rw [rows32_length, HL.out]; omega) (by decide) (by have := HF4.out.lo.1; have := HF4.out.lt; simp; omega) ?_; intro A5 c5 w5 ho5 hs5 hn5; have hs6 := ((Only.refl (fun k => Value.ownBlock (.slice Aw L cw) = some k) w4).alloc _).trans hs5 (fun _ _ e => e); obtain ⟨cc, cf⟩ := HF4.out.cell8 hs6; have H5 := Lib.hid (And.intro ho5 (And.intro hs6 hn5)); clear ho5 hs5 hn5 hs6)
            go_ret
            rw [HE.out]
            obtain ⟨h1, h2, h3⟩ := H5.out
            rw [show rows32 m.wt ++ [[Value.int .u32 (n : Int)]] = rows32 (m.wt ++ [n]) from by simp [rows32]] at h1
            obtain ⟨r1, r2, r3⟩ := HF4.out.setW h2 h1 (fun k hk => (h3 k hk).imp id (fun e => by simp at e; omega))
            exact ⟨rfl, _, vg, r1, (HO4.out.mono (fun _ _ e => e.elim)).trans r2 (fun _ _ e => e), fun k hk => (r3 k hk).imp id (fun e => Nat.le_trans HO4.out.size e)⟩
end Go.Proofs.Ytelfeedaadkhnaa
