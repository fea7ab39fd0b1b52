/- FeedbackPuts' walk. Conditions: as each says. -/
import Derived.Test.YtefcimkopgcagaaFcP
import Derived.Test.YtefcimkopgcagaaFmGr
import Derived.Test.YtefcimkopgcagaaBase
set_option linter.unusedVariables false
set_option linter.unusedSimpArgs false
namespace Go.Proofs.Ytefcimkopgcagaa
open Go.RowKit

theorem own_base7 {w : World} {B n sz : Nat} {T : TypeId} {v : Value} {xs : List Value} (h : w.ownsRow B T sz v n xs) {k : Nat} (hk : v.ownBlock = some k) : B ≤ k := by
  rcases h.2 with ⟨rfl, _⟩ | ⟨g, cap, cur, rfl, hb, _⟩
  · simp [Value.ownBlock] at hk
  · simp only [Value.ownBlock, Option.some.injEq] at hk
    omega
theorem few_len {m : Ms} (h : fewMs m = true) : m.pairs.length ≤ 300 ∧ m.orders.length ≤ 300 ∧ m.srcs.length ≤ 300 := by
  unfold fewMs at h
  simp only [Bool.and_eq_true, decide_eq_true_eq] at h
  exact h
theorem cls_one {m : Ms} {p o s : Value} {w : World} (h : RdM m p o s w) : (m.cls p o s).all (·.oneCell') = true := by
  obtain ⟨P1, d1, rfl, -, -⟩ := h.p
  obtain ⟨O1, e1, rfl, -, -⟩ := h.o
  obtain ⟨S1, f1, rfl, -, -⟩ := h.s
  simp [Ms.cls, Value.oneCell']
set_option maxRecDepth 100000 in
set_option maxHeartbeats 8000000 in
theorem fputs_walk (m k : Ms) (p1 o1 s1 p2 o2 s2 : Value) (w : World) (h1 : RdM m p1 o1 s1 w) (h2 : RdM k p2 o2 s2 w) (hfm : MFit m) (hfk : MFit k) (hn1 : s1 = .slice none 0 0 ∨ ∃ ad n c, s1 = .slice (some ad) n c) (hn2 : s2 = .slice none 0 0 ∨ ∃ ad n c, s2 = .slice (some ad) n c) :
    Calls Try.prog 3 #[.agg (m.cls p1 o1 s1), .agg (k.cls p2 o2 s2)] w fun e w' => e = .returned (.bool true) ∧ Only (fun _ => False) w w' := by
  have D1 := Lib.hid h1
  have D2 := Lib.hid h2
  clear h1 h2
  have HFW := Lib.hid (fun (wx : World) (h : Only (fun _ => False) w wx) => ffew_is m p1 o1 s1 wx (D1.out.only h))
  have HFW2 := Lib.hid (fun (wx : World) (h : Only (fun _ => False) w wx) => ffew_is k p2 o2 s2 wx (D2.out.only h))
  go_enter Try.func3, Try.ntmps3
  go_upto_region 1 with (fail)
  obtain ⟨a, ha⟩ : ∃ p, w.heap.size = p := ⟨_, rfl⟩
  obtain ⟨b, hb⟩ : ∃ q, w.heap.size + 1 = q := ⟨_, rfl⟩
  generalize hw2 : World.alloc (World.alloc w _) _ = w2
  have IA := Lib.hid (show Is w2 a 27 (m.cls p1 o1 s1) from by rw [← hw2, ← ha]; exact (Is.made w _ _).alloc _)
  have IB := Lib.hid (show Is w2 b 27 (k.cls p2 o2 s2) from by
    have e : (w.alloc (.cells (m.cls p1 o1 s1) 27)).heap.size = w.heap.size + 1 := by simp
    rw [← hw2, ← hb, ← e]
    exact Is.made _ _ _)
  have O2 := Lib.hid (show Only (fun _ => False) w w2 from by rw [← hw2]; exact ((Only.refl _ w).alloc _).alloc _)
  rw [hb, ha]
  clear hw2 ha hb
  go_wp2_with (refine wpList_load_want (o := ⟨some 11, _, _, _, _, _⟩) rfl _ _ rfl a rfl _ _ _ IA.out Try.underlying27 rfl Try.sizeMe ?_)
  refine (HFW.out _ O2.out).mono ?_
  rintro e w3 ⟨rfl, ho⟩
  have IA3 := Lib.hid (IA.out.only ho (by simp))
  have IB3 := Lib.hid (IB.out.only ho (by simp))
  have O3 := Lib.hid (O2.out.trans ho (fun _ _ e => e))
  clear ho IA IB O2 HFW
  obtain ⟨f1, hf1⟩ : ∃ x, fewMs m = x := ⟨_, rfl⟩
  rw [hf1]
  have HF1 := Lib.hid hf1
  clear hf1
  cases f1
  · have zf : False ∨ True := .inr trivial
    clear zf
    go_wp2_with fail
    refine (fworks_any _).mono ?_
    rintro e w8 ⟨rfl, ho⟩
    have O8 := Lib.hid (O3.out.trans ho (fun _ _ e => e))
    clear ho
    go_wp2
    go_ret
    exact ⟨rfl, O8.out⟩
  go_wp2_with (refine wpList_load_want (o := ⟨some 15, _, _, _, _, _⟩) rfl _ _ rfl b rfl _ _ _ IB3.out Try.underlying27 rfl Try.sizeMe ?_)
  refine (HFW2.out _ O3.out).mono ?_
  rintro e w4 ⟨rfl, ho⟩
  have IA4 := Lib.hid (IA3.out.only ho (by simp))
  have IB4 := Lib.hid (IB3.out.only ho (by simp))
  have O4 := Lib.hid (O3.out.trans ho (fun _ _ e => e))
  clear ho IA3 IB3 O3 HFW2
  obtain ⟨f2, hf2⟩ : ∃ x, fewMs k = x := ⟨_, rfl⟩
  rw [hf2]
  have HF2 := Lib.hid hf2
  clear hf2
  cases f2
  · go_wp2_with fail
    refine (fworks_any _).mono ?_
    rintro e w8 ⟨rfl, ho⟩
    have O8 := Lib.hid (O4.out.trans ho (fun _ _ e => e))
    clear ho
    go_wp2
    go_ret
    exact ⟨rfl, O8.out⟩
  have HL1 := Lib.hid (few_len HF1.out)
  have HL2 := Lib.hid (few_len HF2.out)
  clear HF1 HF2
  have HRF := Lib.hid (fun (wx : World) (h : Only (fun _ => False) w wx) => fref_is m p1 o1 s1 wx (D1.out.only h) hn1 (by have := HL1.out; omega) hfm.orders)
  go_wp2_with (refine wpList_load_want (o := ⟨some 20, _, _, _, _, _⟩) rfl _ _ rfl a rfl _ _ _ IA4.out Try.underlying27 rfl Try.sizeMe ?_)
  refine (HRF.out _ O4.out).mono ?_
  rintro e w5 ⟨p3, o3, s3, rfl, hd, ho⟩
  have IA5 := Lib.hid (IA4.out.only ho (by simp))
  have IB5 := Lib.hid (IB4.out.only ho (by simp))
  have O5 := Lib.hid (O4.out.trans ho (fun _ _ e => e))
  have D5 := Lib.hid hd
  clear ho hd IA4 IB4 O4 HRF
  have HW5 := Lib.hid O5.out.size
  go_upto_region 4 with (refine wpList_store_is rfl 33 _ _ rfl w5.heap.size (m.cls p3 o3 s3) rfl rfl 33 _ (Is.made w5 _ _) Try.sizeRme rfl (cls_one D5.out) ?_; intro w6 hi6 ho6)
  obtain ⟨r, hr⟩ : ∃ p, w5.heap.size = p := ⟨_, rfl⟩
  rw [hr] at hi6
  have IR := Lib.hid hi6
  have o56 : Only (fun _ => False) w5 w6 := ((Only.refl (fun _ => False) w5).alloc _).trans ho6 (fun i hi e => by omega)
  have IA6 := Lib.hid (IA5.out.only o56 (by simp))
  have IB6 := Lib.hid (IB5.out.only o56 (by simp))
  have D6 := Lib.hid (D5.out.only o56)
  have O6 := Lib.hid (O5.out.trans o56 (fun _ _ e => e))
  rw [hr]
  clear hr o56 hi6 ho6 IA5 IB5 D5 O5 HW5
  have HRP := Lib.hid (rput_any m p3 o3 s3 w6 D6.out (by have := HL1.out; omega) hfm)
  have HFP := Lib.hid (fun (wx : World) (h : Only (fun _ => False) w wx) => fput_any m p1 o1 s1 wx (D1.out.only h) (by have := HL1.out; omega) hfm)
  have HBL := Lib.hid (bodyB_len m HL1.out)
  generalize msPk m = pk at *
  generalize erOf m = er at *
  go_wp2_with (refine wpList_load_want (o := ⟨some 23, _, _, _, _, _⟩) rfl _ _ rfl r rfl _ _ _ IR.out Try.underlying33 rfl Try.sizeRme ?_)
  refine HRP.out.mono ?_
  rintro e w7 ⟨B, u, rfl, hu, ho⟩
  obtain ⟨A7, c7, rfl, -⟩ := own_slice hu
  have U7 := Lib.hid hu
  have IA7 := Lib.hid (IA6.out.only ho (by simp))
  have IB7 := Lib.hid (IB6.out.only ho (by simp))
  have IR7 := Lib.hid (IR.out.only ho (by simp))
  have D7 := Lib.hid (D6.out.only ho)
  have O7 := Lib.hid (O6.out.trans ho (fun _ _ e => e))
  clear hu ho HRP IA6 IB6 IR D6 O6
  go_upto_region 5 with (fail)
  obtain ⟨g6, hg6⟩ : ∃ p, w7.heap.size = p := ⟨_, rfl⟩
  generalize hw8 : World.alloc w7 _ = w8
  have I6 := Lib.hid (show Is w8 g6 37 (pkC pk (.slice A7 pk.body.length c7)) from by rw [← hw8, ← hg6]; exact Is.made w7 _ _)
  have o78 : Only (fun _ => False) w7 w8 := by rw [← hw8]; exact (Only.refl _ w7).alloc _
  have IA8 := Lib.hid (IA7.out.only o78 (by simp))
  have IB8 := Lib.hid (IB7.out.only o78 (by simp))
  have IR8 := Lib.hid (IR7.out.only o78 (by simp))
  have D8 := Lib.hid (D7.out.only o78)
  have U8 := Lib.hid (owned_only U7.out o78 (by simp))
  have O8 := Lib.hid (O7.out.trans o78 (fun _ _ e => e))
  rw [hg6]
  clear hw8 hg6 o78 IA7 IB7 IR7 D7 U7 O7
  go_wp2
  go_loopw [8] (fun i wr => ∃ j : Nat, j ≤ 2 ∧ i = .int .i64 (j : Int) ∧ Only (fun _ => False) w8 wr) (fun i _ => 2 - (intOf i).toNat)
  case atStart => exact ⟨0, by omega, rfl, Only.refl _ _⟩
  case round =>
    obtain ⟨j, hj, rfl, ho⟩ := hrel
    have O9 := Lib.hid ho
    clear ho
    by_cases hj2 : j < 2
    · have zj : (j : Int) < 2 := by omega
      have IA9 := Lib.hid (IA8.out.only O9.out (by simp))
      have OW := Lib.hid (O8.out.trans O9.out (fun _ _ e => e))
      go_wp2_with (refine wpList_load_want (o := ⟨some 32, _, _, _, _, _⟩) rfl _ _ rfl a rfl _ _ _ IA9.out Try.underlying27 rfl Try.sizeMe ?_)
      refine (HFP.out _ OW.out).mono ?_
      rintro e w10 ⟨u, rfl, hu, ho⟩
      obtain ⟨A10, c10, rfl, -⟩ := own_slice hu
      have HU := Lib.hid hu
      have O10 := Lib.hid (O9.out.trans ho (fun _ _ e => e))
      have HSZ := Lib.hid (show w8.heap.size ≤ wr.heap.size from O9.out.size)
      clear hu ho IA9
      go_upto_region 9 with (fail)
      obtain ⟨g9, hg9⟩ : ∃ p, w10.heap.size = p := ⟨_, rfl⟩
      generalize hw11 : World.alloc w10 _ = w11
      have I11 := Lib.hid (show Is w11 g9 41 (pkC pk (.slice A10 pk.body.length c10)) from by rw [← hw11, ← hg9]; exact Is.made w10 _ _)
      have o11 : Only (fun _ => False) w10 w11 := by rw [← hw11]; exact (Only.refl _ w10).alloc _
      have HU11 := Lib.hid (owned_only HU.out o11 (by simp))
      have O11 := Lib.hid (O10.out.trans o11 (fun _ _ e => e))
      rw [hg9]
      clear hw11 hg9 o11 HU O10 O9
      have I611 := Lib.hid (I6.out.only O11.out (by simp))
      go_wp2_with (first | (refine wpList_load_want (o := ⟨some 40, _, _, _, _, _⟩) rfl _ _ rfl g9 rfl _ _ _ I11.out Try.underlying41 rfl Try.sizeRt ?_) | (refine wpList_load_want (o := ⟨some 42, _, _, _, _, _⟩) rfl _ _ rfl g6 rfl _ _ _ (Is.alloc I611.out _) Try.underlying37 rfl Try.sizeRq ?_))
      obtain ⟨ga, hga⟩ : ∃ p, w11.heap.size = p := ⟨_, rfl⟩
      obtain ⟨gb, hgb⟩ : ∃ p, w11.heap.size + 1 = p := ⟨_, rfl⟩
      generalize hw12 : World.alloc (World.alloc w11 _) _ = w12
      have KA : Is w12 ga 41 (pkC pk (.slice A10 pk.body.length c10)) := by rw [← hw12, ← hga]; exact (Is.made w11 _ _).alloc _
      have KB : Is w12 gb 37 (pkC pk (.slice A7 pk.body.length c7)) := by
        have e : (w11.alloc (.cells (pkC pk (.slice A10 pk.body.length c10)) 41)).heap.size = w11.heap.size + 1 := by simp
        rw [← hw12, ← hgb, ← e]
        exact Is.made _ _ _
      have o12 : Only (fun _ => False) w11 w12 := by rw [← hw12]; exact ((Only.refl _ w11).alloc _).alloc _
      have SA : Src w12 (.slice A10 pk.body.length c10) pk.body := Src.of_own (owned_only HU11.out o12 (by simp))
      have SB : Src w12 (.slice A7 pk.body.length c7) pk.body := Src.of_own (owned_only U8.out (O11.out.trans o12 (fun _ _ e => e)) (by simp))
      have I12 := Lib.hid (I11.out.only o12 (by simp))
      have HU12 := Lib.hid (owned_only HU11.out o12 (by simp))
      have O12 := Lib.hid (O11.out.trans o12 (fun _ _ e => e))
      have HDS := Lib.hid (docs_same _ _ [pk] w12 (rdk_one KA SA) (rdk_one KB SB) (by simp) (fun q hq => (show q = pk from (by simpa using hq)) ▸ Nat.le_trans HBL.out (by decide)))
      rw [hgb, hga]
      clear hw12 hga hgb KA KB o12 SA SB HU11 O11 I11 I611
      refine HDS.out.mono ?_
      rintro e w13 ⟨rfl, ho⟩
      have c13 := (I12.out.only ho (by simp)).cell 2
      simp at c13
      have HU13 := Lib.hid (owned_only HU12.out ho (by simp))
      have O13 := Lib.hid (O12.out.trans ho (fun _ _ e => e))
      clear ho HDS I12 HU12 O12
      go_wp2_with fail
      refine (spoil_own _ _ _ _ _ HU13.out (by have := HBL.out; omega)).mono ?_
      rintro e w14 ⟨rfl, ho, -⟩
      have O14 := Lib.hid (show Only (fun _ => False) w8 w14 from O13.out.trans ho (fun i hi e => by have h1 := own_base7 HU13.out e; have h2 := HSZ.out; omega))
      clear ho HU13 O13 c13
      go_wp2
      exact ⟨⟨j + 1, by omega, by go_num, O14.out⟩, by simp [intOf]; omega⟩
    · obtain rfl : j = 2 := by omega
      clear hj2 hj
      have OW := Lib.hid (O8.out.trans O9.out (fun _ _ e => e))
      go_upto_region 12 with (fail)
      refine fputs12 m k p1 o1 s1 p2 o2 s2 p3 o3 s3 a b r HL1.out HL2.out hfm hfk hn1 hn2 _ _ _ _ _ _ _ _ _ _ _ _ _ _ _ _ _ _ _ _ _ _ _ _ _ _ _ _ _ _ _ _ _ _ _ _ _ _ _ _ _ _ _ _ _ _ _ _ _ _ _ _ _ _ _ _ _ _ _ _ _ _ _ _ _ _ _ _ _ _ _ _ _ _ _ _ _ _ _ _ _ _ _ _ wr (IA8.out.only O9.out (by simp)) (IB8.out.only O9.out (by simp)) (IR8.out.only O9.out (by simp)) (D1.out.only OW.out) (D2.out.only OW.out) (D8.out.only O9.out) ?_
      rintro y50 y51 y52 y53 y54 y55 y56 y57 y58 y59 y60 y61 y62 y63 y64 y65 y66 y67 y68 y69 y70 y71 y72 y73 y74 y75 y76 y77 y78 y79 y80 y81 y82 y83 y84 y85 w15 ho
      have O15 := Lib.hid (OW.out.trans ho (fun _ _ e => e))
      clear ho
      go_wp2
      go_ret
      exact ⟨rfl, O15.out⟩
end Go.Proofs.Ytefcimkopgcagaa
