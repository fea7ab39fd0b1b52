/- floor: Tick, Holder, Leave; a floor that is not there. Conditions: as each says. -/
import Derived.Test.YtelfeedaadkhnaaFlJ
set_option linter.unusedVariables false
set_option linter.unusedSimpArgs false
namespace Go.Proofs.Ytelfeedaadkhnaa
open Go Go.RowKit

set_option maxRecDepth 100000 in
set_option maxHeartbeats 4000000 in
theorem tick_is (B b mb now : Nat) (m : Fl) (vw vg : Value) (w : World) (h : Flr w B b mb m vw vg) (hg : m.gs.length ≤ 10000) (hwl : m.wt.length ≤ 1000) (h1 : m.heard < 18446744073709551616) (h2 : now < 18446744073709551616) :
    Calls Try.prog 21 #[ptr b, .int .u64 (now : Int)] w (DoneT (.bool (m.tick now).2) w B b mb vw vg (m.tick now).1) := by
  have HF := Lib.hid h
  have hr : m.tick now = if m.silent now then (m.end_ now, true) else (m, false) := rfl
  generalize m.tick now = r at *
  have HR := Lib.hid hr
  have hms := fun w1 => msilent_is m now w1 h1 h2
  clear h hr h1 h2
  go_enter Try.func21, Try.ntmps21
  go_upto_region 1 with (fail)
  refine ftk1 B b mb now m vw vg w (m.silent now) hms _ _ _ _ _ _ _ _ _ _ _ _ _ _ _ _ _ _ _ _ _ _ _ w ⟨HF.out, Only.refl _ _⟩ ?_
  rintro y5 y6 y7 y8 y9 y10 y11 y12 y13 y14 y15 y16 y17 y18 y19 w2 hG
  have HO2 := Lib.hid hG.pure
  have HF2 := Lib.hid hG.fl
  clear hG hms
  cases hs : m.silent now with
  | false =>
    have HE := Lib.hid (show r = (m, false) from by rw [HR.out, hs]; rfl)
    clear hs
    go_wp2
    go_ret
    rw [HE.out]
    exact done_pure HF.out HO2.out
  | true =>
    have HE := Lib.hid (show r = (m.end_ now, true) from by rw [HR.out, hs]; rfl)
    clear hs
    go_wp2_with fail
    refine (end_is B b mb now m vw vg _ HF2.out hg hwl).mono ?_
    rintro e w4 ⟨rfl, hT⟩
    have HT := Lib.hid hT
    clear hT
    go_wp2
    go_ret
    rw [HE.out]
    exact done_after HO2.out HT.out
/-- A grant, as a value. -/
abbrev gV (no who at_ : Nat) : Value := .agg #[.int .u64 (no : Int), .int .u32 (who : Int), .int .u64 (at_ : Int)]
set_option maxRecDepth 100000 in
set_option maxHeartbeats 4000000 in
theorem holder_is (B b mb : Nat) (m : Fl) (vw vg : Value) (w : World) (h : Flr w B b mb m vw vg) :
    Calls Try.prog 15 #[ptr b] w (SaysF (.tuple #[gV m.no m.who m.at_, .bool (decide (0 < m.no))]) w) := by
  have HF := Lib.hid h
  clear h
  go_enter Try.func15, Try.ntmps15
  go_wp2_with fail
  have ho := (Only.refl (fun _ => False) w).alloc (.cells zeroGr 48)
  have hz := Is.made w 48 zeroGr
  refine (there_is B b mb m vw vg _ (HF.out.pure ho)).mono ?_
  rintro e w1 ⟨rfl, rfl⟩
  go_upto_region 3 with (fail)
  refine fho3 B b mb w.heap.size m vw vg (w.alloc (.cells zeroGr 48)) _ _ _ _ _ _ _ _ _ _ _ _ _ _ _ _ _ _ ⟨⟨HF.out.pure ho, Only.refl _ _⟩, hz⟩ ?_
  rintro y8 y9 y10 y11 y12 y13 y14 y15 y16 y17 w2 hG
  obtain ⟨w3, h3, hI, h4⟩ := hG
  have HO := Lib.hid (show Only (fun _ => False) w w2 from (ho.trans h3.fw.pure (fun _ _ e => e)).trans h4 (fun i hi e => by omega))
  have HI := Lib.hid hI
  clear hI h3 h4 hz ho
  go_wp2
  refine bodyPost_ret (results_is Try.results15 _ w2 w.heap.size 48 _ _ (.bool (decide (0 < m.no))) rfl rfl HI.out Try.underlying48 rfl Try.sizeGr) rfl ?_
  exact ⟨rfl, HO.out⟩
set_option maxRecDepth 100000 in
set_option maxHeartbeats 4000000 in
theorem leave_is (B b mb n now : Nat) (m : Fl) (vw vg : Value) (w : World) (h : Flr w B b mb m vw vg) (hn : n < 4294967296) (hg : m.gs.length ≤ 10000) (hwl : m.wt.length ≤ 1000) :
    Calls Try.prog 35 #[ptr b, .int .u32 (n : Int), .int .u64 (now : Int)] w (DoneT (.int .i64 ((m.leave n now).2 : Int)) w B b mb vw vg (m.leave n now).1) := by
  have HF := Lib.hid h
  have hr : m.leave n now = if m.has n then (if m.is n then ((m.gone n).end_ now, 0) else (m.gone n, 0)) else (m, 130) := rfl
  generalize m.leave n now = r at *
  have HR := Lib.hid hr
  clear h hr
  go_enter Try.func35, Try.ntmps35
  go_wp2_with fail
  refine (there_is B b mb m vw vg w HF.out).mono ?_
  rintro e w1 ⟨rfl, rfl⟩
  go_wp2_with fail
  refine (fhas_is B b mb n m vw vg _ HF.out hn).mono ?_
  rintro e w1 ⟨rfl, ho⟩
  have HO := Lib.hid ho
  have HF1 := Lib.hid (HF.out.pure ho)
  clear ho
  cases hh : m.has n with
  | false =>
    have HE := Lib.hid (show r = (m, 130) from by rw [HR.out, hh]; rfl)
    clear hh
    go_wp2
    go_ret
    rw [HE.out]
    exact done_pure HF.out HO.out
  | true =>
    rw [hh] at HR
    clear hh
    have c2 : w1.cell? ⟨b, 2, none⟩ = some (.map (some mb)) := HF1.out.cell 2
    have hap : (msV m.ms).filter (fun x => x.1 != n) = msV (m.ms.filter fun x => x.1 != n) := by
      unfold msV
      rw [List.filter_map]
      rfl
    have HA := Lib.hid hap
    clear hap
    go_upto_region 6 with (at_delete; refine wpList_mdel rfl _ _ 62 30 rfl 83 Try.underlying62 Try.underlying30 rfl HF1.out.mp rfl (wf32 hn) ?_; intro w2 hm2 ho2; rw [HA.out] at hm2; have HF2 := Lib.hid (HF1.out.setM hm2 ho2); replace ho2 := Lib.hid ho2; clear hm2)
    refine flv6 B b mb n { m with ms := m.ms.filter fun x => x.1 != n } vw vg w2 (show m.wt.length ≤ 1000000 by omega) _ _ _ _ _ _ _ _ _ _ _ _ _ _ _ _ _ _ _ _ _ _ _ _ _ _ _ _ _ _ _ _ _ _ _ _ _ _ _ w2 ⟨HF2.out, Only.refl _ _⟩ ?_
    rintro y21 y22 y23 y24 y25 y26 y27 y28 y29 y30 w3 hG
    obtain ⟨A', c', w4, w5, rfl, h4, h5, h6, h7⟩ := hG
    obtain ⟨s1, s2, s3⟩ := h4.fl.setW h6 h5 (fun k hk => .inl (by rw [← h7]; exact hk))
    have HF3 := Lib.hid (show Flr _ B b mb (m.gone n) _ vg from s1)
    have HO3 := Lib.hid (show Only (Foot b mb vw vg) w (w5.setCell ⟨b, 8, none⟩ (.slice A' (m.wt.filter fun x => x != n).length c')) from (((HO.out.mono (fun _ _ e => e.elim)).trans (ho2.out.mono (T := Foot b mb vw vg) (fun _ _ e => .inr (.inl e))) (fun _ _ e => e)).trans h4.pure (fun _ _ e => e.elim)).trans s2 (fun _ _ e => e))
    have HN3 := Lib.hid (show ∀ k, Foot b mb (.slice A' (m.wt.filter fun x => x != n).length c') vg k → Foot b mb vw vg k ∨ w.heap.size ≤ k from fun k hk => (s3 k hk).imp id (fun e => Nat.le_trans (Nat.le_trans HO.out.size (Nat.le_trans ho2.out.size h4.pure.size)) e))
    generalize w5.setCell ⟨b, 8, none⟩ (.slice A' (m.wt.filter fun x => x != n).length c') = w6 at *
    have hgg : (m.gone n).gs.length ≤ 10000 := hg
    have hgw : (m.gone n).wt.length ≤ 1000 := Nat.le_trans (List.length_filter_le _ _) hwl
    have hgi : (m.gone n).is n = m.is n := rfl
    clear s1 s2 s3 h4 h5 h6 h7 c2 HF1
    go_wp2_with (refine wpList_load_mid rfl 64 _ rfl b 3 rfl _ _ HF3.out.rangeH Try.underlying64 rfl Try.sizeHl ?_)
    refine (mis_is (m.gone n) n _).mono ?_
    rw [hgi]
    rintro e w7 ⟨rfl, ho⟩
    have HO4 := Lib.hid (HO3.out.trans ho (fun _ _ e => e.elim))
    have HF4 := Lib.hid (HF3.out.pure ho)
    clear ho hgi
    cases hi : m.is n with
    | false =>
      have HE := Lib.hid (show r = (m.gone n, 0) from by rw [HR.out, hi]; rfl)
      clear hi
      go_wp2
      go_ret
      rw [HE.out]
      exact ⟨rfl, _, vg, HF4.out, HO4.out, HN3.out⟩
    | true =>
      have HE := Lib.hid (show r = ((m.gone n).end_ now, 0) from by rw [HR.out, hi]; rfl)
      clear hi
      go_wp2_with fail
      refine (end_is B b mb now (m.gone n) _ vg _ HF4.out hgg hgw).mono ?_
      rintro e w8 ⟨rfl, hT⟩
      have HT := Lib.hid hT
      clear hT
      go_wp2
      go_ret
      rw [HE.out]
      exact ⟨rfl, Turned.trans HO4.out HN3.out HT.out⟩
end Go.Proofs.Ytelfeedaadkhnaa
