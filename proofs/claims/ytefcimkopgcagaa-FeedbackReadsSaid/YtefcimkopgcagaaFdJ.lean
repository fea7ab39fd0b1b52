/- FeedbackReads' walk. Conditions: as it says. -/
import Derived.Test.YtefcimkopgcagaaFdI
set_option linter.unusedVariables false
set_option linter.unusedSimpArgs false
namespace Go.Proofs.Ytefcimkopgcagaa
open Go.RowKit

theorem rparse_len (kd ct : Nat) (bs : List Nat) (hb : ∀ x ∈ bs, x < 256) (hl : bs.length ≤ 1200) :
    ((rparse kd ct bs).1.pairs.length ≤ 300 ∧ (rparse kd ct bs).1.orders.length ≤ 300 ∧ (rparse kd ct bs).1.srcs.length ≤ 300) ∧ ∀ p ∈ (rparse kd ct bs).1.orders, p.Fit := by
  unfold rparse
  split
  · simp [ms0]
  split
  · simp [ms0]
  split
  · split
    · simp [msAt]; omega
    · simp [ms0]
  split
  · split
    · simp [msAt]
    · simp [ms0]
  split
  · split
    · rename_i hc
      refine ⟨by simp [msAt]; omega, fun p hp => ?_⟩
      obtain ⟨j, hj, rfl⟩ := List.mem_map.1 hp
      rw [List.mem_range] at hj
      refine ⟨four_lt bs _ hb (by omega), ?_⟩
      show bs.getD (8 + 8 * j + 4) 0 < 256
      rw [List.getD_eq_getElem?_getD, List.getElem?_eq_getElem (by omega)]
      exact hb _ (List.getElem_mem (by omega))
    · simp [ms0]
  split
  · simp [msAt]; omega
  · simp [ms0]
theorem own_null {w : World} {B : Nat} {v : Value} {ns : List Nat} (h : OwnS w B 22 1 v (ns.map fun x => [Value.int .u32 (x : Nat)])) : v = .slice none 0 0 ∨ ∃ ad n c, v = .slice (some ad) n c := by
  rcases h.1.2 with ⟨rfl, _⟩ | ⟨g, cap, cur, rfl, _⟩
  · exact .inl rfl
  · exact .inr ⟨_, _, _, rfl⟩
set_option maxRecDepth 100000 in
set_option maxHeartbeats 8000000 in
theorem freads_walk (kd ct pad : Nat) (vb : Value) (bs : List Nat) (w : World) (hs : Src w vb bs) (hb : ∀ x ∈ bs, x < 256) :
    Calls Try.prog 4 #[.agg #[.int .u8 (ct : Nat), .int .u8 (kd : Nat), vb, .int .u8 (pad : Nat)]] w fun e w' => e = .returned (.bool true) ∧ Only (fun _ => False) w w' := by
  obtain ⟨A, c, rfl⟩ := hs.slice
  have HS := Lib.hid hs
  have HB := Lib.hid hb
  obtain ⟨L, hL⟩ : ∃ L, bs.length = L := ⟨_, rfl⟩
  have HL := Lib.hid hL
  have HSL := Lib.hid (show Src w (.slice A L c) bs from by rw [← hL]; exact hs)
  rw [hL]
  clear hs hb hL HS
  obtain ⟨vb, hvb⟩ : ∃ v, Value.slice A L c = v := ⟨_, rfl⟩
  have HVB := Lib.hid hvb
  rw [hvb] at HSL ⊢
  clear hvb
  go_enter Try.func4, Try.ntmps4
  go_upto_region 1 with (fail)
  generalize hw1 : World.alloc w _ = w1
  obtain ⟨pb, hpb⟩ : ∃ k, w.heap.size = k := ⟨_, rfl⟩
  have I1 := Lib.hid (show Is w1 pb 41 #[.int .u8 (ct : Nat), .int .u8 (kd : Nat), vb, .int .u8 (pad : Nat)] from by rw [← hw1, ← hpb]; exact Is.made _ _ _)
  have O1 := Lib.hid (show Only (fun _ => False) w w1 from by rw [← hw1]; exact (Only.refl _ w).alloc _)
  rw [hpb]
  clear hw1 hpb
  have c2 : w1.cell? ⟨pb, 2, none⟩ = some (.slice A L c) := by rw [HVB.out]; exact I1.out.cell 2
  by_cases hbig : 1200 < L
  · have hbi : (1200 : Int) < (L : Int) := by omega
    go_wp2_with fail
    refine (fworks_any _).mono ?_
    rintro e w8 ⟨rfl, ho⟩
    have O8 := Lib.hid (O1.out.trans ho (fun _ _ e => e))
    clear ho
    go_wp2
    go_ret
    exact ⟨rfl, O8.out⟩
  · have hbi : ¬ (1200 : Int) < (L : Int) := by omega
    have HLE := Lib.hid (show bs.length ≤ 1200 from by have := HL.out; omega)
    have HDR := Lib.hid (fun (wx : World) (h : Only (fun _ => False) w wx) => docs_rtcp ⟨ct, kd, pad, bs⟩ vb wx (HSL.out.of_only h) (by have := HLE.out; show bs.length ≤ 1000000; omega))
    go_upto_region 4 with (first
      | (refine wpList_load_want (o := ⟨some 14, _, _, _, _, _⟩) rfl _ _ rfl pb rfl _ _ _ I1.out Try.underlying41 rfl Try.sizeRt ?_)
      | (go_at_call 21; refine (HDR.out _ O1.out).mono ?_; rintro e w2 ⟨A2, cc2, rfl, hu2, ho2⟩; have O2 := Lib.hid (O1.out.trans ho2 (fun _ _ e => e)); have U2 := Lib.hid hu2; have I2 := Lib.hid (I1.out.only ho2 (by simp)); clear ho2 hu2)
      | (refine wpList_store_is rfl 37 _ _ rfl w2.heap.size #[.int .u8 (ct : Nat), .int .u8 (kd : Nat), .slice A2 bs.length cc2, .int .u8 (pad : Nat)] rfl rfl 37 _ (Is.made w2 _ _) Try.sizeRq rfl (by simp [Value.oneCell']) ?_; intro w3 hi3 ho3; have o3 := fb_made ho3; have I3 := Lib.hid (I2.out.only o3 (by simp)); have R3 := Lib.hid hi3; have U3 := Lib.hid (owned_only U2.out o3 (by simp)); have O3 := Lib.hid (O2.out.trans o3 (fun _ _ e => e)); clear hi3 ho3 o3))
    obtain ⟨rb, hrb⟩ : ∃ k, w2.heap.size = k := ⟨_, rfl⟩
    rw [hrb] at R3 ⊢
    clear hrb I1 I2 U2 O1 O2 c2 HDR
    have S3 := Lib.hid (show Src w3 (.slice A2 bs.length cc2) bs from Src.of_own U3.out)
    obtain ⟨v2, hv2⟩ : ∃ v, Value.slice A2 bs.length cc2 = v := ⟨_, rfl⟩
    rw [hv2] at R3 S3
    clear U3 hv2
    have HRP := Lib.hid (fun (wx : World) (h : Only (fun _ => False) w3 wx) => rparse_is kd ct pad v2 bs wx (S3.out.of_only h) HB.out HLE.out)
    have HFP := Lib.hid (fun (wx : World) (h : Only (fun _ => False) w wx) => fparse_is kd ct pad vb bs wx (HSL.out.of_only h) HB.out HLE.out)
    have HLEN := Lib.hid (rparse_len kd ct bs HB.out HLE.out)
    unfold FParsed at HFP
    unfold RParsed at HRP
    generalize rparse kd ct bs = rr at *
    obtain ⟨m, er⟩ := rr
    simp only at HFP HRP HLEN
    go_upto_region 5 with (first
      | (refine wpList_load_want (o := ⟨some 17, _, _, _, _, _⟩) rfl _ _ rfl rb rfl _ _ _ R3.out Try.underlying37 rfl Try.sizeRq ?_)
      | (go_at_call 22; refine (HRP.out _ (Only.refl _ _)).mono ?_; rintro e w4 ⟨p2, o2, s2, rfl, hd4, ho4⟩; have O4 := Lib.hid (O3.out.trans ho4 (fun _ _ e => e)); have P4 := Lib.hid ho4; have D4 := Lib.hid hd4; have I4 := Lib.hid (I3.out.only ho4 (by simp)); have R4 := Lib.hid (R3.out.only ho4 (by simp)); clear ho4 hd4)
      | (refine wpList_store_is rfl 33 _ _ rfl w4.heap.size (m.cls p2 o2 s2) rfl rfl 33 _ (Is.made w4 _ _) Try.sizeRme rfl (Ms.one m (by obtain ⟨x, y, h, -⟩ := D4.out.p; exact ⟨_, _, _, h⟩) (by obtain ⟨x, y, h, -⟩ := D4.out.o; exact ⟨_, _, _, h⟩) (by obtain ⟨x, y, h, -⟩ := D4.out.s; exact ⟨_, _, _, h⟩)) ?_; intro w5 hi5 ho5; have o5 := fb_made ho5; have I5 := Lib.hid (I4.out.only o5 (by simp)); have R5 := Lib.hid (R4.out.only o5 (by simp)); have W5 := Lib.hid hi5; have D5 := Lib.hid (D4.out.only o5); have O5 := Lib.hid (O4.out.trans o5 (fun _ _ e => e)); have P5 := Lib.hid (P4.out.trans o5 (fun _ _ e => e)); clear hi5 ho5 o5))
    obtain ⟨wb, hwb⟩ : ∃ k, w4.heap.size = k := ⟨_, rfl⟩
    rw [hwb] at W5 ⊢
    clear hwb I3 I4 R3 R4 D4 O3 O4 P4 HRP
    have S5 := Lib.hid (S3.out.of_only P5.out)
    clear S3 P5
    go_wp2
    go_loopw [6] (fun i wr => ∃ j : Nat, j ≤ 2 ∧ i = .int .i64 (j : Int) ∧ Only (fun _ => False) w5 wr) (fun i _ => 2 - (intOf i).toNat)
    case atStart => exact ⟨0, by omega, rfl, Only.refl _ _⟩
    case round =>
      obtain ⟨j, hj, rfl, ho⟩ := hrel
      have O6 := Lib.hid ho
      clear ho
      have I6 := Lib.hid (I5.out.only O6.out (by simp))
      by_cases hj2 : j < 2
      · have hji : (j : Int) < 2 := by omega
        have OW := Lib.hid (O5.out.trans O6.out (fun _ _ e => e))
        go_upto_region 9 with (first
          | (refine wpList_load_want (o := ⟨some 26, _, _, _, _, _⟩) rfl _ _ rfl pb rfl _ _ _ I6.out Try.underlying41 rfl Try.sizeRt ?_)
          | (go_at_call 23; refine (HFP.out _ OW.out).mono ?_; rintro e w7 ⟨p1, o1, s1, rfl, hd7, ho7⟩; have O7 := Lib.hid (O6.out.trans ho7 (fun _ _ e => e)); have D7 := Lib.hid hd7; clear ho7 hd7)
          | (refine wpList_store_is rfl 27 _ _ rfl w7.heap.size (m.cls p1 o1 s1) rfl rfl 27 _ (Is.made w7 _ _) Try.sizeMe rfl (Ms.one m (by obtain ⟨x, y, h, -⟩ := D7.out.rd.p; exact ⟨_, _, _, h⟩) (by obtain ⟨x, y, h, -⟩ := D7.out.rd.o; exact ⟨_, _, _, h⟩) (by obtain ⟨x, y, h, -⟩ := D7.out.rd.s; exact ⟨_, _, _, h⟩)) ?_; intro w8 hi8 ho8; have o8 := fb_made ho8; have M8 := Lib.hid hi8; have D8 := Lib.hid (D7.out.only o8); have O8 := Lib.hid (O7.out.trans o8 (fun _ _ e => e)); clear hi8 ho8 o8))
        obtain ⟨mb, hmb⟩ : ∃ k, w7.heap.size = k := ⟨_, rfl⟩
        rw [hmb] at M8 ⊢
        clear hmb D7 O7
        refine fr9 m p1 o1 s1 p2 o2 s2 er mb wb (by have := HLEN.out.1; omega) HLEN.out.2 (own_null D8.out.2.2) _ _ _ _ _ _ _ _ _ _ _ _ _ _ _ _ _ _ _ _ _ _ _ _ _ _ _ _ _ _ _ _ _ _ _ _ _ _ _ _ _ _ _ _ _ _ _ _ _ _ _ _ _ _ _ w8 M8.out (W5.out.only O8.out (by simp)) D8.out.rd (D5.out.only O8.out) ?_
        rintro y30 y31 y32 y33 y34 y35 y36 y37 y38 w9 ho9
        have M9 := Lib.hid (M8.out.only ho9 (by simp))
        have D9 := Lib.hid (D8.out.only ho9)
        have O9 := Lib.hid (O8.out.trans ho9 (fun _ _ e => e))
        have HB6 := Lib.hid (show w5.heap.size ≤ wr.heap.size from O6.out.size)
        clear M8 D8 O8 ho9
        go_wp2_with (first
          | (refine wpList_load_want (o := ⟨some 40, _, _, _, _, _⟩) rfl _ _ rfl mb rfl _ _ _ M9.out Try.underlying27 rfl Try.sizeMe ?_)
          | (go_at_call 24; refine (fspoil_is m p1 o1 s1 wr.heap.size w9 D9.out (by have := HLEN.out.1; omega)).mono ?_; rintro e w10 ⟨rfl, ho10⟩; have O10 := Lib.hid (show Only (fun _ => False) w5 w10 from O9.out.trans ho10 (fun i hi e => by have := HB6.out; omega)); clear ho10))
        exact ⟨⟨j + 1, by omega, by go_num, O10.out⟩, by simp [intOf]; omega⟩
      · obtain rfl : j = 2 := by omega
        clear hj2 hj
        go_upto_region 12 with (fail)
        refine fr12 kd ct pad vb v2 bs pb rb HLE.out _ _ _ _ _ _ _ _ _ _ _ _ _ _ _ _ _ _ _ _ _ _ _ _ _ _ _ _ _ _ _ _ _ _ _ _ _ _ _ _ _ _ _ _ _ _ _ _ _ _ _ _ _ _ _ _ _ wr I6.out (R5.out.only O6.out (by simp)) (HSL.out.of_only (O5.out.trans O6.out (fun _ _ e => e))) (S5.out.of_only O6.out) ?_
        rintro y42 y43 y44 y45 y46 y47 y48 y49 y50 y51 y52 y53 y54 y55 y56 y57 w9 ho9
        have O9 := Lib.hid (O5.out.trans (O6.out.trans ho9 (fun _ _ e => e)) (fun _ _ e => e))
        clear ho9
        go_wp2
        go_ret
        exact ⟨rfl, O9.out⟩
end Go.Proofs.Ytefcimkopgcagaa
