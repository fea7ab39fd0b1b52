/- FeedbackKnown: a message for each sort, with each part another one. Conditions: as each says. -/
import Derived.Test.YtefcimkopgcagaaFeF
import Derived.Test.YtefcimkopgcagaaFbGr
set_option linter.unusedVariables false
set_option linter.unusedSimpArgs false
namespace Go.Proofs.Ytefcimkopgcagaa
open Go.RowKit

theorem own_lit {w : World} {B g : Nat} {T : TypeId} {sz : Nat} {xss : List (List Value)} (h : Is w g T xss.flatten.toArray) (hl : ∀ xs ∈ xss, xs.length = sz) (hB : B ≤ g) (hn : xss.length ≤ 100000) : OwnS w B T sz (.slice (some ⟨g, 0, none⟩) xss.length xss.length) xss := by
  have hf := flat_length xss hl
  refine ⟨⟨hf, .inr ⟨g, xss.length, _, rfl, hB, h, Nat.le_refl _, by unfold maxLen; omega, by simpa using hf, ?_⟩⟩, hl⟩
  show List.take (xss.length * sz) xss.flatten = xss.flatten
  exact List.take_of_length_le (by omega)
/-- A message that lies readable. -/
structure Msg (m : Ms) (vp vo vs : Value) (w : World) : Prop where
  rd : RdM m vp vo vs w
  fit : MFit m
  null : vs = .slice none 0 0 ∨ ∃ ad n c, vs = .slice (some ad) n c
  len : m.pairs.length ≤ 1000 ∧ m.orders.length ≤ 1000 ∧ m.srcs.length ≤ 1000
theorem Msg.only {m : Ms} {vp vo vs : Value} {w w1 : World} (h : Msg m vp vo vs w) (ho : Only (fun _ => False) w w1) : Msg m vp vo vs w1 := ⟨h.rd.only ho, h.fit, h.null, h.len⟩
def GotM (w : World) (e : Ending) (w' : World) : Prop := ∃ m vp vo vs, e = .returned (.agg (m.cls vp vo vs)) ∧ Msg m vp vo vs w' ∧ Only (fun _ => False) w w'
theorem mfit0 (s : Nat) (hs : s < 256) : MFit ⟨s, 2147483648, 5, [], [], 0, 0, []⟩ := ⟨hs, by show 2147483648 < 4294967296; omega, by show 5 < 4294967296; omega, by show 0 < 256; omega, by show 0 < 4294967296; omega, by simp, by simp, by simp⟩
set_option maxRecDepth 100000 in
set_option maxHeartbeats 4000000 in
theorem example_is (s : Nat) (w : World) (hs : s < 256) : Calls Try.prog 40 #[.int .u8 (s : Nat)] w (GotM w) := by
  have HFT := Lib.hid (mfit0 s hs)
  have hcase : s = 1 ∨ s = 3 ∨ s = 4 ∨ (s ≠ 1 ∧ s ≠ 3 ∧ s ≠ 4) := by omega
  go_enter Try.func40, Try.ntmps40
  go_upto_region 2 with (refine wpList_store_is rfl 27 _ _ rfl (w.heap.size + 1) ((⟨s, 2147483648, 5, [], [], 0, 0, []⟩ : Ms).cls (.slice none 0 0) (.slice none 0 0) (.slice none 0 0)) rfl rfl 27 ((⟨0, 0, 0, [], [], 0, 0, []⟩ : Ms).cls (.slice none 0 0) (.slice none 0 0) (.slice none 0 0)) (by have h := Is.made (w.alloc (.cells ((⟨0, 0, 0, [], [], 0, 0, []⟩ : Ms).cls (.slice none 0 0) (.slice none 0 0) (.slice none 0 0)) 27)) 27 ((⟨0, 0, 0, [], [], 0, 0, []⟩ : Ms).cls (.slice none 0 0) (.slice none 0 0) (.slice none 0 0)); rw [World.size_alloc] at h; exact h) Try.sizeMe rfl (by simp [Ms.cls, Value.oneCell']) ?_; intro w3 hi3 ho3)
  obtain ⟨rb, hrb⟩ : ∃ k, w.heap.size = k := ⟨_, rfl⟩
  obtain ⟨mb, hmb⟩ : ∃ k, w.heap.size + 1 = k := ⟨_, rfl⟩
  have O3 := Lib.hid (show Only (fun _ => False) w w3 from (((Only.refl (fun _ => False) w).alloc _).alloc _).trans ho3 (fun i hi e => by omega))
  have R3 := Lib.hid (show Is w3 rb 27 ((⟨0, 0, 0, [], [], 0, 0, []⟩ : Ms).cls (.slice none 0 0) (.slice none 0 0) (.slice none 0 0)) from ((hrb ▸ (Is.made w 27 ((⟨0, 0, 0, [], [], 0, 0, []⟩ : Ms).cls (.slice none 0 0) (.slice none 0 0) (.slice none 0 0)))).alloc _).only ho3 (fun e => by omega))
  rw [hmb] at hi3 ⊢
  rw [hrb]
  have I3 := Lib.hid hi3
  have hwr : w.heap.size ≤ rb := by omega
  have hwm : w.heap.size ≤ mb := by omega
  have hne : rb ≠ mb := by omega
  have hsz : w.heap.size ≤ w3.heap.size := O3.out.size
  clear hi3 ho3 hrb hmb
  obtain ⟨m0, m1, m2, m3, m4, m5, m6, m7⟩ := cls_cells I3.out
  have f3 := I3.out.free 3
  have f4 := I3.out.free 4
  have f5 := I3.out.free 5
  have f6 := I3.out.free 6
  have f7 := I3.out.free 7
  have f3a := fun o => (I3.out.alloc o).free 3
  have f4a := fun o => (I3.out.alloc o).free 4
  have m3a : ∀ o, (w3.alloc o).cell? ⟨mb, 3, none⟩ = some (.slice none 0 0) := fun o => (I3.out.alloc o).cell 3
  have m4a : ∀ o, (w3.alloc o).cell? ⟨mb, 4, none⟩ = some (.slice none 0 0) := fun o => (I3.out.alloc o).cell 4
  rcases hcase with rfl | rfl | rfl | ⟨h1, h3, h4⟩
  · go_upto_region 11 with (fail)
    obtain ⟨g, hg⟩ : ∃ k, w3.heap.size = k := ⟨_, rfl⟩
    rw [hg]
    have IA : Is (w3.alloc (.cells #[.int .u16 3, .int .u16 32769, .int .u16 65535, .int .u16 65535] 82)) g 82 #[.int .u16 3, .int .u16 32769, .int .u16 65535, .int .u16 65535] := by rw [← hg]; exact Is.made w3 _ _
    have hgm : mb ≠ g := by have := I3.out.lt; omega
    have hgr : rb ≠ g := by have := R3.out.lt; omega
    generalize hwx : World.setCell (World.alloc w3 _) _ _ = wx
    have IX : Is wx mb 27 ((⟨1, 2147483648, 5, [⟨3, 32769⟩, ⟨65535, 65535⟩], [], 0, 0, []⟩ : Ms).cls (.slice (some ⟨g, 0, none⟩) 2 2) (.slice none 0 0) (.slice none 0 0)) := by rw [← hwx]; exact (I3.out.alloc _).put 3 _
    have RX : Is wx rb 27 ((⟨0, 0, 0, [], [], 0, 0, []⟩ : Ms).cls (.slice none 0 0) (.slice none 0 0) (.slice none 0 0)) := by rw [← hwx]; exact (R3.out.alloc _).far hne _
    have GX : Is wx g 82 #[.int .u16 3, .int .u16 32769, .int .u16 65535, .int .u16 65535] := by rw [← hwx]; exact IA.far (Ne.symm hgm) _
    have OX : Only (fun _ => False) w wx := by rw [← hwx]; exact (O3.out.alloc _).set (fun h => by simp at h; omega) _
    clear hwx IA
    clear m0 m1 m2 m3 m4 m5 m6 m7 f3 f4 f5 f6 f7 f3a f4a m3a m4a
    go_wp2_with (first
      | (refine wpList_load_want (o := ⟨some 25, _, _, _, _, _⟩) rfl _ _ rfl mb rfl _ _ _ IX Try.underlying27 rfl Try.sizeMe ?_)
      | (refine wpList_store_is rfl 27 _ _ rfl rb ((⟨1, 2147483648, 5, [⟨3, 32769⟩, ⟨65535, 65535⟩], [], 0, 0, []⟩ : Ms).cls (.slice (some ⟨g, 0, none⟩) 2 2) (.slice none 0 0) (.slice none 0 0)) rfl rfl 27 _ RX Try.sizeMe rfl (by simp [Ms.cls, Value.oneCell']) ?_; intro w8 hi8 ho8))
    refine bodyPost_ret (res_alone Try.results40 _ w8 rb 27 _ _ rfl hi8 Try.underlying27 rfl Try.sizeMe) rfl ?_
    have o8 : Only (fun _ => False) w w8 := OX.trans ho8 (fun i hi e => by omega)
    refine ⟨(⟨1, 2147483648, 5, [⟨3, 32769⟩, ⟨65535, 65535⟩], [], 0, 0, []⟩ : Ms), (.slice (some ⟨g, 0, none⟩) 2 2), (.slice none 0 0), (.slice none 0 0), rfl, ⟨?_, ⟨by show 1 < 256; omega, HFT.out.snd, HFT.out.med, HFT.out.exp, HFT.out.mant, by simp [Pr.Fit], by simp, by simp⟩, .inl rfl, by simp⟩, o8⟩
    exact ⟨OwnP.rd (T := 82) (own_lit (B := w.heap.size) (xss := [[Value.int .u16 (3 : Nat), Value.int .u16 (32769 : Nat)], [Value.int .u16 (65535 : Nat), Value.int .u16 (65535 : Nat)]]) (GX.only ho8 (fun e => hgr e.symm)) (by simp) (by omega) (by simp)), RdO.nil _, Rd.nil _ _⟩
  · go_upto_region 11 with (fail)
    obtain ⟨g, hg⟩ : ∃ k, w3.heap.size = k := ⟨_, rfl⟩
    rw [hg]
    have IA : Is (w3.alloc (.cells #[.int .u32 7, .int .u8 255, .int .u32 4294967295, .int .u8 0] 85)) g 85 #[.int .u32 7, .int .u8 255, .int .u32 4294967295, .int .u8 0] := by rw [← hg]; exact Is.made w3 _ _
    have hgm : mb ≠ g := by have := I3.out.lt; omega
    have hgr : rb ≠ g := by have := R3.out.lt; omega
    generalize hwx : World.setCell (World.alloc w3 _) _ _ = wx
    have IX : Is wx mb 27 ((⟨3, 2147483648, 5, [], [⟨7, 255⟩, ⟨4294967295, 0⟩], 0, 0, []⟩ : Ms).cls (.slice none 0 0) (.slice (some ⟨g, 0, none⟩) 2 2) (.slice none 0 0)) := by rw [← hwx]; exact (I3.out.alloc _).put 4 _
    have RX : Is wx rb 27 ((⟨0, 0, 0, [], [], 0, 0, []⟩ : Ms).cls (.slice none 0 0) (.slice none 0 0) (.slice none 0 0)) := by rw [← hwx]; exact (R3.out.alloc _).far hne _
    have GX : Is wx g 85 #[.int .u32 7, .int .u8 255, .int .u32 4294967295, .int .u8 0] := by rw [← hwx]; exact IA.far (Ne.symm hgm) _
    have OX : Only (fun _ => False) w wx := by rw [← hwx]; exact (O3.out.alloc _).set (fun h => by simp at h; omega) _
    clear hwx IA
    clear m0 m1 m2 m3 m4 m5 m6 m7 f3 f4 f5 f6 f7 f3a f4a m3a m4a
    go_wp2_with (first
      | (refine wpList_load_want (o := ⟨some 25, _, _, _, _, _⟩) rfl _ _ rfl mb rfl _ _ _ IX Try.underlying27 rfl Try.sizeMe ?_)
      | (refine wpList_store_is rfl 27 _ _ rfl rb ((⟨3, 2147483648, 5, [], [⟨7, 255⟩, ⟨4294967295, 0⟩], 0, 0, []⟩ : Ms).cls (.slice none 0 0) (.slice (some ⟨g, 0, none⟩) 2 2) (.slice none 0 0)) rfl rfl 27 _ RX Try.sizeMe rfl (by simp [Ms.cls, Value.oneCell']) ?_; intro w8 hi8 ho8))
    refine bodyPost_ret (res_alone Try.results40 _ w8 rb 27 _ _ rfl hi8 Try.underlying27 rfl Try.sizeMe) rfl ?_
    have o8 : Only (fun _ => False) w w8 := OX.trans ho8 (fun i hi e => by omega)
    refine ⟨(⟨3, 2147483648, 5, [], [⟨7, 255⟩, ⟨4294967295, 0⟩], 0, 0, []⟩ : Ms), (.slice none 0 0), (.slice (some ⟨g, 0, none⟩) 2 2), (.slice none 0 0), rfl, ⟨?_, ⟨by show 3 < 256; omega, HFT.out.snd, HFT.out.med, HFT.out.exp, HFT.out.mant, by simp, by simp [Od.Fit], by simp⟩, .inl rfl, by simp⟩, o8⟩
    exact ⟨RdP.nil _, own_rdo (l := [⟨7, 255⟩, ⟨4294967295, 0⟩]) (own_lit (B := w.heap.size) (T := 85) (xss := [[Value.int .u32 (7 : Nat), Value.int .u8 (255 : Nat)], [Value.int .u32 (4294967295 : Nat), Value.int .u8 (0 : Nat)]]) (GX.only ho8 (fun e => hgr e.symm)) (by simp) (by omega) (by simp)), Rd.nil _ _⟩
  · go_upto_region 10 with (fail)
    generalize hw4 : World.setCell (World.setCell w3 _ _) _ _ = w4
    have I4 : Is w4 mb 27 ((⟨4, 2147483648, 5, [], [], 63, 262143, []⟩ : Ms).cls (.slice none 0 0) (.slice none 0 0) (.slice none 0 0)) := by rw [← hw4]; exact (I3.out.put 5 _).put 6 _
    have R4 : Is w4 rb 27 ((⟨0, 0, 0, [], [], 0, 0, []⟩ : Ms).cls (.slice none 0 0) (.slice none 0 0) (.slice none 0 0)) := by rw [← hw4]; exact (R3.out.far hne _).far hne _
    have O4 : Only (fun _ => False) w w4 := by rw [← hw4]; exact (O3.out.set (fun h => by simp at h; omega) _).set (fun h => by simp at h; omega) _
    have n7 := I4.cell 7
    have g7 := fun o => (I4.alloc o).free 7
    have n7a : ∀ o, (w4.alloc o).cell? ⟨mb, 7, none⟩ = some (.slice none 0 0) := fun o => (I4.alloc o).cell 7
    simp [Ms.cls] at n7
    have hsz4 : w.heap.size ≤ w4.heap.size := O4.size
    clear hw4 m0 m1 m2 m3 m4 m5 m6 m7 f3 f4 f5 f6 f7
    have I3 := Lib.hid I4
    have R3 := Lib.hid R4
    have O3 := Lib.hid O4
    go_upto_region 11 with (fail)
    obtain ⟨g, hg⟩ : ∃ k, w4.heap.size = k := ⟨_, rfl⟩
    rw [hg]
    clear I4 R4 O4
    have IA : Is (w4.alloc (.cells #[.int .u32 1, .int .u32 4294967295] 22)) g 22 #[.int .u32 1, .int .u32 4294967295] := by rw [← hg]; exact Is.made w4 _ _
    have hgm : mb ≠ g := by have := I3.out.lt; omega
    have hgr : rb ≠ g := by have := R3.out.lt; omega
    generalize hwx : World.setCell (World.alloc w4 _) _ _ = wx
    have IX : Is wx mb 27 ((⟨4, 2147483648, 5, [], [], 63, 262143, [1, 4294967295]⟩ : Ms).cls (.slice none 0 0) (.slice none 0 0) (.slice (some ⟨g, 0, none⟩) 2 2)) := by rw [← hwx]; exact (I3.out.alloc _).put 7 _
    have RX : Is wx rb 27 ((⟨0, 0, 0, [], [], 0, 0, []⟩ : Ms).cls (.slice none 0 0) (.slice none 0 0) (.slice none 0 0)) := by rw [← hwx]; exact (R3.out.alloc _).far hne _
    have GX : Is wx g 22 #[.int .u32 1, .int .u32 4294967295] := by rw [← hwx]; exact IA.far (Ne.symm hgm) _
    have OX : Only (fun _ => False) w wx := by rw [← hwx]; exact (O3.out.alloc _).set (fun h => by simp at h; omega) _
    clear hwx IA
    clear n7 g7 n7a
    go_wp2_with (first
      | (refine wpList_load_want (o := ⟨some 25, _, _, _, _, _⟩) rfl _ _ rfl mb rfl _ _ _ IX Try.underlying27 rfl Try.sizeMe ?_)
      | (refine wpList_store_is rfl 27 _ _ rfl rb ((⟨4, 2147483648, 5, [], [], 63, 262143, [1, 4294967295]⟩ : Ms).cls (.slice none 0 0) (.slice none 0 0) (.slice (some ⟨g, 0, none⟩) 2 2)) rfl rfl 27 _ RX Try.sizeMe rfl (by simp [Ms.cls, Value.oneCell']) ?_; intro w8 hi8 ho8))
    refine bodyPost_ret (res_alone Try.results40 _ w8 rb 27 _ _ rfl hi8 Try.underlying27 rfl Try.sizeMe) rfl ?_
    have o8 : Only (fun _ => False) w w8 := OX.trans ho8 (fun i hi e => by omega)
    refine ⟨(⟨4, 2147483648, 5, [], [], 63, 262143, [1, 4294967295]⟩ : Ms), (.slice none 0 0), (.slice none 0 0), (.slice (some ⟨g, 0, none⟩) 2 2), rfl, ⟨?_, ⟨by show 4 < 256; omega, HFT.out.snd, HFT.out.med, by show 63 < 256; omega, by show 262143 < 4294967296; omega, by simp, by simp, by simp⟩, .inr ⟨_, _, _, rfl⟩, by simp⟩, o8⟩
    exact ⟨RdP.nil _, RdO.nil _, own32s_rd (own_lit (B := w.heap.size) (xss := [[Value.int .u32 (1 : Nat)], [Value.int .u32 (4294967295 : Nat)]]) (GX.only ho8 (fun e => hgr e.symm)) (by simp) (by omega) (by simp))⟩
  · have z1 : ((s : Int) == 1) = false := by rw [beq_eq_false_iff_ne]; omega
    have z3 : ((s : Int) == 3) = false := by rw [beq_eq_false_iff_ne]; omega
    have z4 : ((s : Int) == 4) = false := by rw [beq_eq_false_iff_ne]; omega
    have IX := I3.out
    have RX := R3.out
    have OX := O3.out
    clear m0 m1 m2 m3 m4 m5 m6 m7 f3 f4 f5 f6 f7 f3a f4a m3a m4a
    go_wp2_with (first
      | (refine wpList_load_want (o := ⟨some 25, _, _, _, _, _⟩) rfl _ _ rfl mb rfl _ _ _ IX Try.underlying27 rfl Try.sizeMe ?_)
      | (refine wpList_store_is rfl 27 _ _ rfl rb ((⟨s, 2147483648, 5, [], [], 0, 0, []⟩ : Ms).cls (.slice none 0 0) (.slice none 0 0) (.slice none 0 0)) rfl rfl 27 _ RX Try.sizeMe rfl (by simp [Ms.cls, Value.oneCell']) ?_; intro w8 hi8 ho8))
    refine bodyPost_ret (res_alone Try.results40 _ w8 rb 27 _ _ rfl hi8 Try.underlying27 rfl Try.sizeMe) rfl ?_
    have o8 : Only (fun _ => False) w w8 := OX.trans ho8 (fun i hi e => by omega)
    refine ⟨(⟨s, 2147483648, 5, [], [], 0, 0, []⟩ : Ms), (.slice none 0 0), (.slice none 0 0), (.slice none 0 0), rfl, ⟨?_, HFT.out, .inl rfl, by simp⟩, o8⟩
    exact ⟨RdP.nil _, RdO.nil _, Rd.nil _ _⟩
end Go.Proofs.Ytefcimkopgcagaa
