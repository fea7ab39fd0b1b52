/- FeedbackKnown: a message with something another one. Conditions: as it says. -/
import Derived.Test.YtefcimkopgcagaaFfA
import Derived.OwnWalk
import Derived.Laws.OwnMore
set_option linter.unusedVariables false
set_option linter.unusedSimpArgs false
namespace Go.Proofs.Ytefcimkopgcagaa
open Go.RowKit

theorem made_rd {w : World} {B n : Nat} {v : Value} (h : w.ownsRow B 22 1 v n (List.replicate (n * 1) (.int .u32 0))) : Rd .u32 w v (nats (List.replicate n 0)) := by
  have hl : (nats (List.replicate n 0)).length = n := by simp [nats]
  rcases h.2 with ⟨rfl, h0⟩ | ⟨g, cap, cur, rfl, hb, hg, hc, hlc, hcl, h7⟩
  · subst h0
    exact Rd.nil _ _
  · refine ⟨_, cap, by rw [hl], by rw [hl]; exact hc, fun hp => ⟨g, 0, rfl, fun j hj => ?_⟩⟩
    rw [hl] at hj
    rw [Nat.zero_add, cell_of_row w g j cur _ (0, 0) hg]
    have h8 : (cur.toList.take (n * 1))[j]? = (List.replicate (n * 1) (Value.int .u32 0))[j]? := by rw [h7]
    rw [List.getElem?_take, if_pos (by omega), List.getElem?_replicate, if_pos (by omega)] at h8
    rw [← Array.getElem?_toList, h8]
    simp [nats]
set_option maxRecDepth 100000 in
set_option maxHeartbeats 8000000 in
theorem odd_is (m : Ms) (vp vo vs : Value) (k : Nat) (w : World) (hm : Msg m vp vo vs w) (hk : k < 11) : Calls Try.prog 39 #[.agg (m.cls vp vo vs), .int .i64 (k : Nat)] w (GotM w) := by
  have HM := Lib.hid hm
  have hcase : k = 0 ∨ k = 1 ∨ k = 2 ∨ k = 3 ∨ k = 4 ∨ k = 5 ∨ k = 6 ∨ k = 7 ∨ k = 8 ∨ k = 9 ∨ k = 10 := by omega
  obtain ⟨P1, d1, rfl, -, -⟩ := hm.rd.p
  obtain ⟨O1, e1, rfl, -, -⟩ := hm.rd.o
  obtain ⟨S1, n1, rfl, -, -⟩ := hm.rd.s
  obtain ⟨vp, hvp⟩ : ∃ v, Value.slice P1 m.pairs.length d1 = v := ⟨_, rfl⟩
  obtain ⟨vo, hvo⟩ : ∃ v, Value.slice O1 m.orders.length e1 = v := ⟨_, rfl⟩
  obtain ⟨vs, hvs⟩ : ∃ v, Value.slice S1 (nats m.srcs).length n1 = v := ⟨_, rfl⟩
  have H1 := Lib.hid (show ∀ m' : Ms, (m'.cls vp vo vs).all (·.oneCell') = true ∧ (m'.cls (.slice none 0 0) vo vs).all (·.oneCell') = true ∧ (m'.cls vp (.slice none 0 0) vs).all (·.oneCell') = true from fun m' => by rw [← hvp, ← hvo, ← hvs]; simp [Ms.cls, Value.oneCell'])
  have H2 := Lib.hid (show ∀ (m' : Ms) (A : Option Addr) (n c : Nat), (m'.cls (.slice A n c) vo vs).all (·.oneCell') = true ∧ (m'.cls vp (.slice A n c) vs).all (·.oneCell') = true ∧ (m'.cls vp vo (.slice A n c)).all (·.oneCell') = true from fun m' A n c => by rw [← hvp, ← hvo, ← hvs]; simp [Ms.cls, Value.oneCell'])
  rw [hvp, hvo, hvs] at HM
  rw [hvp, hvo, hvs]
  clear hm hvp hvo hvs hk
  obtain ⟨i0, hi, hz0, hz1, hz2⟩ := info_parts Try.infoU32
  obtain ⟨msort, msnd, mmed, mprs, mods, mexp, mmant, msrcs⟩ := m
  go_enter Try.func39, Try.ntmps39
  go_upto_region 1 with (fail)
  generalize hw2 : World.alloc (World.alloc w _) _ = w3
  obtain ⟨mb, hmb⟩ : ∃ k, w.heap.size = k := ⟨_, rfl⟩
  obtain ⟨rb, hrb⟩ : ∃ k, w.heap.size + 1 = k := ⟨_, rfl⟩
  have I3 := Lib.hid (show Is w3 mb 27 ((⟨msort, msnd, mmed, mprs, mods, mexp, mmant, msrcs⟩ : Ms).cls vp vo vs) from by rw [← hw2, ← hmb]; exact (Is.made w _ _).alloc _)
  have R3 := Lib.hid (show Is w3 rb 27 ((⟨0, 0, 0, [], [], 0, 0, []⟩ : Ms).cls (.slice none 0 0) (.slice none 0 0) (.slice none 0 0)) from by
    have e : (w.alloc (.cells ((⟨msort, msnd, mmed, mprs, mods, mexp, mmant, msrcs⟩ : Ms).cls vp vo vs) 27)).heap.size = w.heap.size + 1 := by simp
    rw [← hw2, ← hrb, ← e]
    exact Is.made _ _ _)
  have O3 := Lib.hid (show Only (fun _ => False) w w3 from by rw [← hw2]; exact ((Only.refl _ w).alloc _).alloc _)
  rw [hrb, hmb]
  have hwr : w.heap.size ≤ rb := by omega
  have hwm : w.heap.size ≤ mb := by omega
  have hne : rb ≠ mb := by omega
  have hsz : w.heap.size ≤ w3.heap.size := O3.out.size
  clear hw2 hrb hmb
  rcases hcase with rfl | rfl | rfl | rfl | rfl | rfl | rfl | rfl | rfl | rfl | rfl
  · have cf := I3.out.cell 3
    have ff := I3.out.free 3
    simp [Ms.cls] at cf
    go_upto_region 22 with (fail)
    generalize hwx : World.setCell w3 _ _ = wx
    have IX : Is wx mb 27 ((⟨msort, msnd, mmed, [], mods, mexp, mmant, msrcs⟩ : Ms).cls (.slice none 0 0) vo vs) := by rw [← hwx]; exact I3.out.put 3 _
    have RX : Is wx rb 27 ((⟨0, 0, 0, [], [], 0, 0, []⟩ : Ms).cls (.slice none 0 0) (.slice none 0 0) (.slice none 0 0)) := by rw [← hwx]; exact R3.out.far hne _
    have OX : Only (fun _ => False) w wx := by rw [← hwx]; exact O3.out.set (fun h => by simp at h; omega) _
    clear hwx cf ff
    go_wp2_with (first
      | (refine wpList_load_want (o := ⟨some 45, _, _, _, _, _⟩) rfl _ _ rfl mb rfl _ _ _ IX Try.underlying27 rfl Try.sizeMe ?_)
      | (refine wpList_store_is rfl 27 _ _ rfl rb ((⟨msort, msnd, mmed, [], mods, mexp, mmant, msrcs⟩ : Ms).cls (.slice none 0 0) vo vs) rfl rfl 27 _ RX Try.sizeMe rfl ((H1.out _).2.1) ?_; intro w8 hi8 ho8))
    refine bodyPost_ret (res_alone Try.results39 _ w8 rb 27 _ _ rfl hi8 Try.underlying27 rfl Try.sizeMe) rfl ?_
    have o8 : Only (fun _ => False) w w8 := OX.trans ho8 (fun i hi e => by omega)
    have hf := HM.out.fit
    have hrd := HM.out.rd.only o8
    exact ⟨(⟨msort, msnd, mmed, [], mods, mexp, mmant, msrcs⟩ : Ms), (.slice none 0 0), vo, vs, rfl, ⟨⟨RdP.nil _, hrd.o, hrd.s⟩, ⟨hf.sort, hf.snd, hf.med, hf.exp, hf.mant, by simp, hf.orders, hf.srcs⟩, HM.out.null, by have := HM.out.len; simp at *; omega⟩, o8⟩
  · have cf := I3.out.cell 4
    have ff := I3.out.free 4
    simp [Ms.cls] at cf
    go_upto_region 22 with (fail)
    generalize hwx : World.setCell w3 _ _ = wx
    have IX : Is wx mb 27 ((⟨msort, msnd, mmed, mprs, [], mexp, mmant, msrcs⟩ : Ms).cls vp (.slice none 0 0) vs) := by rw [← hwx]; exact I3.out.put 4 _
    have RX : Is wx rb 27 ((⟨0, 0, 0, [], [], 0, 0, []⟩ : Ms).cls (.slice none 0 0) (.slice none 0 0) (.slice none 0 0)) := by rw [← hwx]; exact R3.out.far hne _
    have OX : Only (fun _ => False) w wx := by rw [← hwx]; exact O3.out.set (fun h => by simp at h; omega) _
    clear hwx cf ff
    go_wp2_with (first
      | (refine wpList_load_want (o := ⟨some 45, _, _, _, _, _⟩) rfl _ _ rfl mb rfl _ _ _ IX Try.underlying27 rfl Try.sizeMe ?_)
      | (refine wpList_store_is rfl 27 _ _ rfl rb ((⟨msort, msnd, mmed, mprs, [], mexp, mmant, msrcs⟩ : Ms).cls vp (.slice none 0 0) vs) rfl rfl 27 _ RX Try.sizeMe rfl ((H1.out _).2.2) ?_; intro w8 hi8 ho8))
    refine bodyPost_ret (res_alone Try.results39 _ w8 rb 27 _ _ rfl hi8 Try.underlying27 rfl Try.sizeMe) rfl ?_
    have o8 : Only (fun _ => False) w w8 := OX.trans ho8 (fun i hi e => by omega)
    have hf := HM.out.fit
    have hrd := HM.out.rd.only o8
    exact ⟨(⟨msort, msnd, mmed, mprs, [], mexp, mmant, msrcs⟩ : Ms), vp, (.slice none 0 0), vs, rfl, ⟨⟨hrd.p, RdO.nil _, hrd.s⟩, ⟨hf.sort, hf.snd, hf.med, hf.exp, hf.mant, hf.pairs, by simp, hf.srcs⟩, HM.out.null, by have := HM.out.len; simp at *; omega⟩, o8⟩
  · have ff := fun o => (I3.out.alloc o).free 3
    have cf := fun o => (I3.out.alloc o).cell 3
    simp [Ms.cls] at cf
    go_upto_region 22 with (fail)
    obtain ⟨g, hg⟩ : ∃ k, w3.heap.size = k := ⟨_, rfl⟩
    rw [hg]
    have IA : Is (w3.alloc (.cells #[.int .u16 1, .int .u16 0] 82)) g 82 #[.int .u16 1, .int .u16 0] := by rw [← hg]; exact Is.made w3 _ _
    have hgm : mb ≠ g := by have := I3.out.lt; omega
    have hgr : rb ≠ g := by have := R3.out.lt; omega
    generalize hwx : World.setCell (World.alloc w3 _) _ _ = wx
    have IX : Is wx mb 27 ((⟨msort, msnd, mmed, [⟨1, 0⟩], mods, mexp, mmant, msrcs⟩ : Ms).cls (.slice (some ⟨g, 0, none⟩) 1 1) vo vs) := by rw [← hwx]; exact (I3.out.alloc _).put 3 _
    have RX : Is wx rb 27 ((⟨0, 0, 0, [], [], 0, 0, []⟩ : Ms).cls (.slice none 0 0) (.slice none 0 0) (.slice none 0 0)) := by rw [← hwx]; exact (R3.out.alloc _).far hne _
    have GX : Is wx g 82 #[.int .u16 1, .int .u16 0] := by rw [← hwx]; exact IA.far (Ne.symm hgm) _
    have OX : Only (fun _ => False) w wx := by rw [← hwx]; exact (O3.out.alloc _).set (fun h => by simp at h; omega) _
    clear hwx IA ff cf
    go_wp2_with (first
      | (refine wpList_load_want (o := ⟨some 45, _, _, _, _, _⟩) rfl _ _ rfl mb rfl _ _ _ IX Try.underlying27 rfl Try.sizeMe ?_)
      | (refine wpList_store_is rfl 27 _ _ rfl rb ((⟨msort, msnd, mmed, [⟨1, 0⟩], mods, mexp, mmant, msrcs⟩ : Ms).cls (.slice (some ⟨g, 0, none⟩) 1 1) vo vs) rfl rfl 27 _ RX Try.sizeMe rfl ((H2.out _ _ _ _).1) ?_; intro w8 hi8 ho8))
    refine bodyPost_ret (res_alone Try.results39 _ w8 rb 27 _ _ rfl hi8 Try.underlying27 rfl Try.sizeMe) rfl ?_
    have o8 : Only (fun _ => False) w w8 := OX.trans ho8 (fun i hi e => by omega)
    have hf := HM.out.fit
    have hrd := HM.out.rd.only o8
    exact ⟨(⟨msort, msnd, mmed, [⟨1, 0⟩], mods, mexp, mmant, msrcs⟩ : Ms), (.slice (some ⟨g, 0, none⟩) 1 1), vo, vs, rfl, ⟨⟨OwnP.rd (T := 82) (l := [⟨1, 0⟩]) (own_lit (B := w.heap.size) (xss := [[Value.int .u16 (1 : Nat), Value.int .u16 (0 : Nat)]]) (GX.only ho8 (fun e => hgr e.symm)) (by simp) (by omega) (by simp)), hrd.o, hrd.s⟩, ⟨hf.sort, hf.snd, hf.med, hf.exp, hf.mant, by simp [Pr.Fit], hf.orders, hf.srcs⟩, HM.out.null, by have := HM.out.len; simp at *; omega⟩, o8⟩
  · have ff := fun o => (I3.out.alloc o).free 4
    have cf := fun o => (I3.out.alloc o).cell 4
    simp [Ms.cls] at cf
    go_upto_region 22 with (fail)
    obtain ⟨g, hg⟩ : ∃ k, w3.heap.size = k := ⟨_, rfl⟩
    rw [hg]
    have IA : Is (w3.alloc (.cells #[.int .u32 0, .int .u8 1] 85)) g 85 #[.int .u32 0, .int .u8 1] := by rw [← hg]; exact Is.made w3 _ _
    have hgm : mb ≠ g := by have := I3.out.lt; omega
    have hgr : rb ≠ g := by have := R3.out.lt; omega
    generalize hwx : World.setCell (World.alloc w3 _) _ _ = wx
    have IX : Is wx mb 27 ((⟨msort, msnd, mmed, mprs, [⟨0, 1⟩], mexp, mmant, msrcs⟩ : Ms).cls vp (.slice (some ⟨g, 0, none⟩) 1 1) vs) := by rw [← hwx]; exact (I3.out.alloc _).put 4 _
    have RX : Is wx rb 27 ((⟨0, 0, 0, [], [], 0, 0, []⟩ : Ms).cls (.slice none 0 0) (.slice none 0 0) (.slice none 0 0)) := by rw [← hwx]; exact (R3.out.alloc _).far hne _
    have GX : Is wx g 85 #[.int .u32 0, .int .u8 1] := by rw [← hwx]; exact IA.far (Ne.symm hgm) _
    have OX : Only (fun _ => False) w wx := by rw [← hwx]; exact (O3.out.alloc _).set (fun h => by simp at h; omega) _
    clear hwx IA ff cf
    go_wp2_with (first
      | (refine wpList_load_want (o := ⟨some 45, _, _, _, _, _⟩) rfl _ _ rfl mb rfl _ _ _ IX Try.underlying27 rfl Try.sizeMe ?_)
      | (refine wpList_store_is rfl 27 _ _ rfl rb ((⟨msort, msnd, mmed, mprs, [⟨0, 1⟩], mexp, mmant, msrcs⟩ : Ms).cls vp (.slice (some ⟨g, 0, none⟩) 1 1) vs) rfl rfl 27 _ RX Try.sizeMe rfl ((H2.out _ _ _ _).2.1) ?_; intro w8 hi8 ho8))
    refine bodyPost_ret (res_alone Try.results39 _ w8 rb 27 _ _ rfl hi8 Try.underlying27 rfl Try.sizeMe) rfl ?_
    have o8 : Only (fun _ => False) w w8 := OX.trans ho8 (fun i hi e => by omega)
    have hf := HM.out.fit
    have hrd := HM.out.rd.only o8
    exact ⟨(⟨msort, msnd, mmed, mprs, [⟨0, 1⟩], mexp, mmant, msrcs⟩ : Ms), vp, (.slice (some ⟨g, 0, none⟩) 1 1), vs, rfl, ⟨⟨hrd.p, own_rdo (l := [⟨0, 1⟩]) (own_lit (B := w.heap.size) (T := 85) (xss := [[Value.int .u32 (0 : Nat), Value.int .u8 (1 : Nat)]]) (GX.only ho8 (fun e => hgr e.symm)) (by simp) (by omega) (by simp)), hrd.s⟩, ⟨hf.sort, hf.snd, hf.med, hf.exp, hf.mant, hf.pairs, by simp [Od.Fit], hf.srcs⟩, HM.out.null, by have := HM.out.len; simp at *; omega⟩, o8⟩
  · have cf := I3.out.cell 5
    have ff := I3.out.free 5
    simp [Ms.cls] at cf
    go_upto_region 22 with (fail)
    generalize hwx : World.setCell w3 _ _ = wx
    have IX : Is wx mb 27 ((⟨msort, msnd, mmed, mprs, mods, 64, mmant, msrcs⟩ : Ms).cls vp vo vs) := by rw [← hwx]; exact I3.out.put 5 _
    have RX : Is wx rb 27 ((⟨0, 0, 0, [], [], 0, 0, []⟩ : Ms).cls (.slice none 0 0) (.slice none 0 0) (.slice none 0 0)) := by rw [← hwx]; exact R3.out.far hne _
    have OX : Only (fun _ => False) w wx := by rw [← hwx]; exact O3.out.set (fun h => by simp at h; omega) _
    clear hwx cf ff
    go_wp2_with (first
      | (refine wpList_load_want (o := ⟨some 45, _, _, _, _, _⟩) rfl _ _ rfl mb rfl _ _ _ IX Try.underlying27 rfl Try.sizeMe ?_)
      | (refine wpList_store_is rfl 27 _ _ rfl rb ((⟨msort, msnd, mmed, mprs, mods, 64, mmant, msrcs⟩ : Ms).cls vp vo vs) rfl rfl 27 _ RX Try.sizeMe rfl ((H1.out _).1) ?_; intro w8 hi8 ho8))
    refine bodyPost_ret (res_alone Try.results39 _ w8 rb 27 _ _ rfl hi8 Try.underlying27 rfl Try.sizeMe) rfl ?_
    have o8 : Only (fun _ => False) w w8 := OX.trans ho8 (fun i hi e => by omega)
    have hf := HM.out.fit
    have hrd := HM.out.rd.only o8
    exact ⟨(⟨msort, msnd, mmed, mprs, mods, 64, mmant, msrcs⟩ : Ms), vp, vo, vs, rfl, ⟨⟨hrd.p, hrd.o, hrd.s⟩, ⟨hf.sort, hf.snd, hf.med, by show 64 < 256; omega, hf.mant, hf.pairs, hf.orders, hf.srcs⟩, HM.out.null, HM.out.len⟩, o8⟩
  · have cf := I3.out.cell 6
    have ff := I3.out.free 6
    simp [Ms.cls] at cf
    go_upto_region 22 with (fail)
    generalize hwx : World.setCell w3 _ _ = wx
    have IX : Is wx mb 27 ((⟨msort, msnd, mmed, mprs, mods, mexp, 262144, msrcs⟩ : Ms).cls vp vo vs) := by rw [← hwx]; exact I3.out.put 6 _
    have RX : Is wx rb 27 ((⟨0, 0, 0, [], [], 0, 0, []⟩ : Ms).cls (.slice none 0 0) (.slice none 0 0) (.slice none 0 0)) := by rw [← hwx]; exact R3.out.far hne _
    have OX : Only (fun _ => False) w wx := by rw [← hwx]; exact O3.out.set (fun h => by simp at h; omega) _
    clear hwx cf ff
    go_wp2_with (first
      | (refine wpList_load_want (o := ⟨some 45, _, _, _, _, _⟩) rfl _ _ rfl mb rfl _ _ _ IX Try.underlying27 rfl Try.sizeMe ?_)
      | (refine wpList_store_is rfl 27 _ _ rfl rb ((⟨msort, msnd, mmed, mprs, mods, mexp, 262144, msrcs⟩ : Ms).cls vp vo vs) rfl rfl 27 _ RX Try.sizeMe rfl ((H1.out _).1) ?_; intro w8 hi8 ho8))
    refine bodyPost_ret (res_alone Try.results39 _ w8 rb 27 _ _ rfl hi8 Try.underlying27 rfl Try.sizeMe) rfl ?_
    have o8 : Only (fun _ => False) w w8 := OX.trans ho8 (fun i hi e => by omega)
    have hf := HM.out.fit
    have hrd := HM.out.rd.only o8
    exact ⟨(⟨msort, msnd, mmed, mprs, mods, mexp, 262144, msrcs⟩ : Ms), vp, vo, vs, rfl, ⟨⟨hrd.p, hrd.o, hrd.s⟩, ⟨hf.sort, hf.snd, hf.med, hf.exp, by show 262144 < 4294967296; omega, hf.pairs, hf.orders, hf.srcs⟩, HM.out.null, HM.out.len⟩, o8⟩
  · go_upto_region 22 with (refine wpList_make_full _ rfl _ _ 25 rfl w.heap.size 22 i0 (.int .u32 0) 1 Try.underlying25 hi hz0 hz1 .i64 .i64 255 255 255 rfl rfl rfl rfl (by rw [hz2]; decide) (by unfold maxLen; omega) hsz ?_; intro w4 hown hg4; have o34 : Only (fun _ => False) w3 w4 := (Only.refl _ w3).grown hg4 (fun i e => by cases e); have I4 := Lib.hid (I3.out.only o34 (by simp)); have R4 := Lib.hid (R3.out.only o34 (by simp)); have O4 := Lib.hid (O3.out.trans o34 (fun _ _ e => e)); have GG := Lib.hid (made_rd (n := 255) (by rw [← toList_madeCells_one]; exact hown)); have cf : w4.cell? ⟨mb, 7, none⟩ = some vs := I4.out.cell 7; have ff := I4.out.free 7; clear hown hg4 o34)
    obtain ⟨g, hg⟩ : ∃ k, w3.heap.size = k := ⟨_, rfl⟩
    rw [hg] at GG ⊢
    generalize hwx : World.setCell w4 _ _ = wx
    have IX : Is wx mb 27 ((⟨msort, msnd, mmed, mprs, mods, mexp, mmant, (List.replicate 255 0)⟩ : Ms).cls vp vo (.slice (some ⟨g, 0, none⟩) 255 255)) := by rw [← hwx]; exact I4.out.put 7 _
    have RX : Is wx rb 27 ((⟨0, 0, 0, [], [], 0, 0, []⟩ : Ms).cls (.slice none 0 0) (.slice none 0 0) (.slice none 0 0)) := by rw [← hwx]; exact R4.out.far hne _
    have GX : Rd .u32 wx (.slice (some ⟨g, 0, none⟩) 255 255) (nats (List.replicate 255 0)) := by rw [← hwx]; exact (GG.out).only (Only.set (S := fun k => k = mb) (p := ⟨mb, 7, none⟩) (Only.refl _ w4) (fun _ => rfl) _) (fun b hb e => by simp [Value.ownBlock] at hb; have := I3.out.lt; omega)
    have OX : Only (fun _ => False) w wx := by rw [← hwx]; exact O4.out.set (fun h => by simp at h; omega) _
    clear hwx cf ff
    go_wp2_with (first
      | (refine wpList_load_want (o := ⟨some 45, _, _, _, _, _⟩) rfl _ _ rfl mb rfl _ _ _ IX Try.underlying27 rfl Try.sizeMe ?_)
      | (refine wpList_store_is rfl 27 _ _ rfl rb ((⟨msort, msnd, mmed, mprs, mods, mexp, mmant, (List.replicate 255 0)⟩ : Ms).cls vp vo (.slice (some ⟨g, 0, none⟩) 255 255)) rfl rfl 27 _ RX Try.sizeMe rfl ((H2.out _ _ _ _).2.2) ?_; intro w8 hi8 ho8))
    refine bodyPost_ret (res_alone Try.results39 _ w8 rb 27 _ _ rfl hi8 Try.underlying27 rfl Try.sizeMe) rfl ?_
    have o8 : Only (fun _ => False) w w8 := OX.trans ho8 (fun i hi e => by omega)
    have hf := HM.out.fit
    have hrd := HM.out.rd.only o8
    exact ⟨(⟨msort, msnd, mmed, mprs, mods, mexp, mmant, (List.replicate 255 0)⟩ : Ms), vp, vo, (.slice (some ⟨g, 0, none⟩) 255 255), rfl, ⟨⟨hrd.p, hrd.o, GX.only ho8 (fun b hb e => by simp [Value.ownBlock] at hb; have := R3.out.lt; omega)⟩, ⟨hf.sort, hf.snd, hf.med, hf.exp, hf.mant, hf.pairs, hf.orders, fun x hx => by rw [List.eq_of_mem_replicate hx]; omega⟩, .inr ⟨_, _, _, rfl⟩, by have := HM.out.len; simp at *; omega⟩, o8⟩
  · go_upto_region 22 with (refine wpList_make_full _ rfl _ _ 25 rfl w.heap.size 22 i0 (.int .u32 0) 1 Try.underlying25 hi hz0 hz1 .i64 .i64 256 256 256 rfl rfl rfl rfl (by rw [hz2]; decide) (by unfold maxLen; omega) hsz ?_; intro w4 hown hg4; have o34 : Only (fun _ => False) w3 w4 := (Only.refl _ w3).grown hg4 (fun i e => by cases e); have I4 := Lib.hid (I3.out.only o34 (by simp)); have R4 := Lib.hid (R3.out.only o34 (by simp)); have O4 := Lib.hid (O3.out.trans o34 (fun _ _ e => e)); have GG := Lib.hid (made_rd (n := 256) (by rw [← toList_madeCells_one]; exact hown)); have cf : w4.cell? ⟨mb, 7, none⟩ = some vs := I4.out.cell 7; have ff := I4.out.free 7; clear hown hg4 o34)
    obtain ⟨g, hg⟩ : ∃ k, w3.heap.size = k := ⟨_, rfl⟩
    rw [hg] at GG ⊢
    generalize hwx : World.setCell w4 _ _ = wx
    have IX : Is wx mb 27 ((⟨msort, msnd, mmed, mprs, mods, mexp, mmant, (List.replicate 256 0)⟩ : Ms).cls vp vo (.slice (some ⟨g, 0, none⟩) 256 256)) := by rw [← hwx]; exact I4.out.put 7 _
    have RX : Is wx rb 27 ((⟨0, 0, 0, [], [], 0, 0, []⟩ : Ms).cls (.slice none 0 0) (.slice none 0 0) (.slice none 0 0)) := by rw [← hwx]; exact R4.out.far hne _
    have GX : Rd .u32 wx (.slice (some ⟨g, 0, none⟩) 256 256) (nats (List.replicate 256 0)) := by rw [← hwx]; exact (GG.out).only (Only.set (S := fun k => k = mb) (p := ⟨mb, 7, none⟩) (Only.refl _ w4) (fun _ => rfl) _) (fun b hb e => by simp [Value.ownBlock] at hb; have := I3.out.lt; omega)
    have OX : Only (fun _ => False) w wx := by rw [← hwx]; exact O4.out.set (fun h => by simp at h; omega) _
    clear hwx cf ff
    go_wp2_with (first
      | (refine wpList_load_want (o := ⟨some 45, _, _, _, _, _⟩) rfl _ _ rfl mb rfl _ _ _ IX Try.underlying27 rfl Try.sizeMe ?_)
      | (refine wpList_store_is rfl 27 _ _ rfl rb ((⟨msort, msnd, mmed, mprs, mods, mexp, mmant, (List.replicate 256 0)⟩ : Ms).cls vp vo (.slice (some ⟨g, 0, none⟩) 256 256)) rfl rfl 27 _ RX Try.sizeMe rfl ((H2.out _ _ _ _).2.2) ?_; intro w8 hi8 ho8))
    refine bodyPost_ret (res_alone Try.results39 _ w8 rb 27 _ _ rfl hi8 Try.underlying27 rfl Try.sizeMe) rfl ?_
    have o8 : Only (fun _ => False) w w8 := OX.trans ho8 (fun i hi e => by omega)
    have hf := HM.out.fit
    have hrd := HM.out.rd.only o8
    exact ⟨(⟨msort, msnd, mmed, mprs, mods, mexp, mmant, (List.replicate 256 0)⟩ : Ms), vp, vo, (.slice (some ⟨g, 0, none⟩) 256 256), rfl, ⟨⟨hrd.p, hrd.o, GX.only ho8 (fun b hb e => by simp [Value.ownBlock] at hb; have := R3.out.lt; omega)⟩, ⟨hf.sort, hf.snd, hf.med, hf.exp, hf.mant, hf.pairs, hf.orders, fun x hx => by rw [List.eq_of_mem_replicate hx]; omega⟩, .inr ⟨_, _, _, rfl⟩, by have := HM.out.len; simp at *; omega⟩, o8⟩
  · have cf := I3.out.cell 0
    have ff := I3.out.free 0
    simp [Ms.cls] at cf
    have z8 : IntKind.u8.wrap ((msort : Int) + 1) = (((msort + 1) % 256 : Nat) : Int) := by rw [IntKind.wrap_u8]; omega
    obtain ⟨q8, hq8⟩ : ∃ q, (msort + 1) % 256 = q := ⟨_, rfl⟩
    rw [hq8] at z8
    go_upto_region 22 with (fail)
    generalize hwx : World.setCell w3 _ _ = wx
    have IX : Is wx mb 27 ((⟨q8, msnd, mmed, mprs, mods, mexp, mmant, msrcs⟩ : Ms).cls vp vo vs) := by rw [← hwx]; exact I3.out.put 0 _
    have RX : Is wx rb 27 ((⟨0, 0, 0, [], [], 0, 0, []⟩ : Ms).cls (.slice none 0 0) (.slice none 0 0) (.slice none 0 0)) := by rw [← hwx]; exact R3.out.far hne _
    have OX : Only (fun _ => False) w wx := by rw [← hwx]; exact O3.out.set (fun h => by simp at h; omega) _
    clear hwx cf ff
    go_wp2_with (first
      | (refine wpList_load_want (o := ⟨some 45, _, _, _, _, _⟩) rfl _ _ rfl mb rfl _ _ _ IX Try.underlying27 rfl Try.sizeMe ?_)
      | (refine wpList_store_is rfl 27 _ _ rfl rb ((⟨q8, msnd, mmed, mprs, mods, mexp, mmant, msrcs⟩ : Ms).cls vp vo vs) rfl rfl 27 _ RX Try.sizeMe rfl ((H1.out _).1) ?_; intro w8 hi8 ho8))
    refine bodyPost_ret (res_alone Try.results39 _ w8 rb 27 _ _ rfl hi8 Try.underlying27 rfl Try.sizeMe) rfl ?_
    have o8 : Only (fun _ => False) w w8 := OX.trans ho8 (fun i hi e => by omega)
    have hf := HM.out.fit
    have hrd := HM.out.rd.only o8
    exact ⟨(⟨q8, msnd, mmed, mprs, mods, mexp, mmant, msrcs⟩ : Ms), vp, vo, vs, rfl, ⟨⟨hrd.p, hrd.o, hrd.s⟩, ⟨by show q8 < 256; omega, hf.snd, hf.med, hf.exp, hf.mant, hf.pairs, hf.orders, hf.srcs⟩, HM.out.null, HM.out.len⟩, o8⟩
  · have cf := I3.out.cell 5
    have ff := I3.out.free 5
    simp [Ms.cls] at cf
    go_upto_region 22 with (fail)
    generalize hwx : World.setCell w3 _ _ = wx
    have IX : Is wx mb 27 ((⟨msort, msnd, mmed, mprs, mods, 47, mmant, msrcs⟩ : Ms).cls vp vo vs) := by rw [← hwx]; exact I3.out.put 5 _
    have RX : Is wx rb 27 ((⟨0, 0, 0, [], [], 0, 0, []⟩ : Ms).cls (.slice none 0 0) (.slice none 0 0) (.slice none 0 0)) := by rw [← hwx]; exact R3.out.far hne _
    have OX : Only (fun _ => False) w wx := by rw [← hwx]; exact O3.out.set (fun h => by simp at h; omega) _
    clear hwx cf ff
    go_wp2_with (first
      | (refine wpList_load_want (o := ⟨some 45, _, _, _, _, _⟩) rfl _ _ rfl mb rfl _ _ _ IX Try.underlying27 rfl Try.sizeMe ?_)
      | (refine wpList_store_is rfl 27 _ _ rfl rb ((⟨msort, msnd, mmed, mprs, mods, 47, mmant, msrcs⟩ : Ms).cls vp vo vs) rfl rfl 27 _ RX Try.sizeMe rfl ((H1.out _).1) ?_; intro w8 hi8 ho8))
    refine bodyPost_ret (res_alone Try.results39 _ w8 rb 27 _ _ rfl hi8 Try.underlying27 rfl Try.sizeMe) rfl ?_
    have o8 : Only (fun _ => False) w w8 := OX.trans ho8 (fun i hi e => by omega)
    have hf := HM.out.fit
    have hrd := HM.out.rd.only o8
    exact ⟨(⟨msort, msnd, mmed, mprs, mods, 47, mmant, msrcs⟩ : Ms), vp, vo, vs, rfl, ⟨⟨hrd.p, hrd.o, hrd.s⟩, ⟨hf.sort, hf.snd, hf.med, by show 47 < 256; omega, hf.mant, hf.pairs, hf.orders, hf.srcs⟩, HM.out.null, HM.out.len⟩, o8⟩
  · have IX := I3.out
    have RX := R3.out
    have OX := O3.out
    go_wp2_with (first
      | (refine wpList_load_want (o := ⟨some 45, _, _, _, _, _⟩) rfl _ _ rfl mb rfl _ _ _ IX Try.underlying27 rfl Try.sizeMe ?_)
      | (refine wpList_store_is rfl 27 _ _ rfl rb ((⟨msort, msnd, mmed, mprs, mods, mexp, mmant, msrcs⟩ : Ms).cls vp vo vs) rfl rfl 27 _ RX Try.sizeMe rfl ((H1.out _).1) ?_; intro w8 hi8 ho8))
    refine bodyPost_ret (res_alone Try.results39 _ w8 rb 27 _ _ rfl hi8 Try.underlying27 rfl Try.sizeMe) rfl ?_
    have o8 : Only (fun _ => False) w w8 := OX.trans ho8 (fun i hi e => by omega)
    have hf := HM.out.fit
    have hrd := HM.out.rd.only o8
    exact ⟨(⟨msort, msnd, mmed, mprs, mods, mexp, mmant, msrcs⟩ : Ms), vp, vo, vs, rfl, ⟨hrd, hf, HM.out.null, HM.out.len⟩, o8⟩
end Go.Proofs.Ytefcimkopgcagaa
