/- FeedbackBack's walk. Conditions: as it says. -/
import Derived.Test.YtefcimkopgcagaaFeG
import Derived.Test.YtefcimkopgcagaaFeH
import Derived.Test.YtefcimkopgcagaaFeI
import Derived.Test.YtefcimkopgcagaaFeJ
set_option linter.unusedVariables false
set_option linter.unusedSimpArgs false
namespace Go.Proofs.Ytefcimkopgcagaa
open Go.RowKit

theorem few_len7 {m : Ms} (h : fewMs m = true) : m.pairs.length ≤ 300 ∧ m.orders.length ≤ 300 ∧ m.srcs.length ≤ 300 := by
  unfold fewMs at h
  simp only [Bool.and_eq_true, decide_eq_true_eq] at h
  exact h
theorem own_null7 {w : World} {B : Nat} {v : Value} {ns : List Nat} (h : OwnS w B 22 1 v (ns.map fun x => [Value.int .u32 (x : Nat)])) : v = .slice none 0 0 ∨ ∃ ad n c, v = .slice (some ad) n c := by
  rcases h.1.2 with ⟨rfl, _⟩ | ⟨g, cap, cur, rfl, _⟩
  · exact .inl rfl
  · exact .inr ⟨_, _, _, rfl⟩
set_option maxRecDepth 100000 in
set_option maxHeartbeats 16000000 in
theorem fback_walk (m : Ms) (p1 o1 s1 : Value) (kd ct pad r : Nat) (vb vn : Value) (bs ns : List Nat) (w : World) (h1 : RdM m p1 o1 s1 w) (hfm : MFit m) (hs : Src w vb bs) (hb : ∀ x ∈ bs, x < 256) (hn : Rd .u16 w vn (nats ns)) (hnb : ∀ n ∈ ns, n < 65536) (hr : r < 18446744073709551616) :
    Calls Try.prog 6 #[.agg (m.cls p1 o1 s1), .agg #[.int .u8 (ct : Nat), .int .u8 (kd : Nat), vb, .int .u8 (pad : Nat)], vn, .int .u64 (r : Nat)] w fun e w' => e = .returned (.bool true) ∧ Only (fun _ => False) w w' := by
  obtain ⟨A, c, rfl⟩ := hs.slice
  have hnc := hn
  obtain ⟨An, cn, rfl, -, -⟩ := hnc
  have HN := Lib.hid hn
  have HS := Lib.hid hs
  have HB := Lib.hid hb
  have HNB := Lib.hid hnb
  have HFM := Lib.hid hfm
  have HRR := Lib.hid hr
  have D1 := Lib.hid h1
  obtain ⟨L, hL⟩ : ∃ L, bs.length = L := ⟨_, rfl⟩
  have HL := Lib.hid hL
  obtain ⟨K, hK⟩ : ∃ K, ns.length = K := ⟨_, rfl⟩
  have HK := Lib.hid hK
  rw [nats_length, hK] at HN ⊢
  rw [hL] at HS ⊢
  clear hn hs hb hnb hfm hr h1 hL hK
  have HFW := Lib.hid (fun (wx : World) (h : Only (fun _ => False) w wx) => ffew_is m p1 o1 s1 wx (D1.out.only h))
  go_enter Try.func6, Try.ntmps6
  go_upto_region 1 with (fail)
  obtain ⟨ma, hma⟩ : ∃ p, w.heap.size = p := ⟨_, rfl⟩
  obtain ⟨pb, hpb⟩ : ∃ q, w.heap.size + 1 = q := ⟨_, rfl⟩
  generalize hw2 : World.alloc (World.alloc w _) _ = w2
  have IA := Lib.hid (show Is w2 ma 27 (m.cls p1 o1 s1) from by rw [← hw2, ← hma]; exact (Is.made w _ _).alloc _)
  have IB := Lib.hid (show Is w2 pb 41 #[.int .u8 (ct : Nat), .int .u8 (kd : Nat), .slice A L c, .int .u8 (pad : Nat)] from by
    have e : (w.alloc (.cells (m.cls p1 o1 s1) 27)).heap.size = w.heap.size + 1 := by simp
    rw [← hw2, ← hpb, ← e]
    exact Is.made _ _ _)
  have O2 := Lib.hid (show Only (fun _ => False) w w2 from by rw [← hw2]; exact ((Only.refl _ w).alloc _).alloc _)
  rw [hpb, hma]
  clear hw2 hma hpb
  go_wp2_with (refine wpList_load_want (o := ⟨some 27, _, _, _, _, _⟩) rfl _ _ rfl ma rfl _ _ _ IA.out Try.underlying27 rfl Try.sizeMe ?_)
  refine (HFW.out _ O2.out).mono ?_
  rintro e w3 ⟨rfl, ho⟩
  have IA3 := Lib.hid (IA.out.only ho (by simp))
  have IB3 := Lib.hid (IB.out.only ho (by simp))
  have O3 := Lib.hid (O2.out.trans ho (fun _ _ e => e))
  clear ho IA IB O2 HFW
  obtain ⟨f1, hf1⟩ : ∃ x, fewMs m = x := ⟨_, rfl⟩
  rw [hf1]
  have HF1 := Lib.hid hf1
  clear hf1
  cases f1
  · have zf : False ∨ True := .inr trivial
    clear zf
    go_wp2_with fail
    refine (fworks_any _).mono ?_
    rintro e w8 ⟨rfl, ho⟩
    have O8 := Lib.hid (O3.out.trans ho (fun _ _ e => e))
    clear ho
    go_wp2
    go_ret
    exact ⟨rfl, O8.out⟩
  have HLM := Lib.hid (few_len7 HF1.out)
  have c2 : w3.cell? ⟨pb, 2, none⟩ = some (.slice A L c) := IB3.out.cell 2
  clear HF1
  by_cases hbig : 1200 < L
  · have hbi : (1200 : Int) < (L : Int) := by omega
    go_wp2_with fail
    refine (fworks_any _).mono ?_
    rintro e w8 ⟨rfl, ho⟩
    have O8 := Lib.hid (O3.out.trans ho (fun _ _ e => e))
    clear ho
    go_wp2
    go_ret
    exact ⟨rfl, O8.out⟩
  have hbi : ¬ (1200 : Int) < (L : Int) := by omega
  by_cases hbig2 : 100 < K
  · have hbj : (100 : Int) < (K : Int) := by omega
    go_wp2_with fail
    refine (fworks_any _).mono ?_
    rintro e w8 ⟨rfl, ho⟩
    have O8 := Lib.hid (O3.out.trans ho (fun _ _ e => e))
    clear ho
    go_wp2
    go_ret
    exact ⟨rfl, O8.out⟩
  have hbj : ¬ (100 : Int) < (K : Int) := by omega
  have HLB := Lib.hid (show bs.length ≤ 1200 from by have := HL.out; omega)
  have HKB := Lib.hid (show K ≤ 100 from by omega)
  go_upto_region 3 with (fail)
  clear hbig hbig2 hbi hbj c2
  have HPUT := Lib.hid (fun (wx : World) (h : Only (fun _ => False) w wx) => fput_any m p1 o1 s1 wx (D1.out.only h) (by have := HLM.out; omega) HFM.out)
  go_upto_region 4 with (first
    | (refine wpList_load_want (o := ⟨some 43, _, _, _, _, _⟩) rfl _ _ rfl ma rfl _ _ _ IA3.out Try.underlying27 rfl Try.sizeMe ?_)
    | (go_at_call 12; refine (HPUT.out _ O3.out).mono ?_; rintro e w4 ⟨u, rfl, hu4, ho4⟩; have O4 := Lib.hid (O3.out.trans ho4 (fun _ _ e => e)); have U4 := Lib.hid hu4; have IA4 := Lib.hid (IA3.out.only ho4 (by simp)); have IB4 := Lib.hid (IB3.out.only ho4 (by simp)); have UE := Lib.hid (own_slice hu4); clear ho4 hu4)
    | (refine wpList_store_is rfl 41 _ _ rfl w4.heap.size (pkC (msPk m) u) rfl rfl 41 _ (Is.made w4 _ _) Try.sizeRt rfl (by obtain ⟨x, y, h, -⟩ := UE.out; rw [h]; simp [Value.oneCell']) ?_; intro w5 hi5 ho5; have o5 := fb_made ho5; have IA5 := Lib.hid (IA4.out.only o5 (by simp)); have IB5 := Lib.hid (IB4.out.only o5 (by simp)); have X5 := Lib.hid hi5; have U5 := Lib.hid (owned_only U4.out o5 (by simp)); have O5 := Lib.hid (O4.out.trans o5 (fun _ _ e => e)); clear hi5 ho5 o5))
  obtain ⟨xb, hxb⟩ : ∃ k, w4.heap.size = k := ⟨_, rfl⟩
  rw [hxb] at X5 ⊢
  clear hxb U4 UE IA3 IA4 IB3 IB4 O3 O4 HPUT
  obtain ⟨er, her⟩ : ∃ x, erOf m = x := ⟨_, rfl⟩
  have HER := Lib.hid her
  rw [her]
  clear her
  refine fb4 m p1 o1 s1 u ma xb er HER.out.symm HLM.out HFM.out _ _ _ _ _ _ _ _ _ _ _ _ _ _ _ _ _ _ _ _ _ _ _ _ _ _ _ _ _ _ _ _ _ _ _ _ _ _ _ _ _ _ _ _ _ _ _ _ _ _ _ _ _ _ _ _ _ _ _ _ _ _ _ _ _ _ _ _ _ _ _ _ _ _ _ _ _ _ _ _ _ _ _ _ _ _ _ _ _ _ _ _ _ _ _ _ _ _ _ _ _ _ _ _ _ _ _ _ _ _ _ _ _ _ _ _ _ _ _ _ _ _ _ _ _ _ _ _ _ _ _ _ _ _ _ _ _ _ _ _ _ _ _ _ _ _ _ _ _ _ _ _ _ _ _ _ _ _ _ _ _ _ _ _ _ _ _ _ _ _ _ _ _ _ _ _ _ _ _ _ _ _ _ _ _ _ _ _ _ _ _ _ _ _ _ _ _ _ _ _ _ _ _ _ w5 IA5.out X5.out (D1.out.only O5.out) (Src.of_own U5.out) (by assumption) ?_
  rintro y11 y12 y47 y48 y49 y50 y51 y52 y53 y54 y55 y56 y57 y58 y59 y60 y61 y62 y63 y64 y65 y66 y67 y68 y69 y70 y71 w6 hcut
  have O6 := Lib.hid (O5.out.trans hcut (fun _ _ e => e))
  have IB6 := Lib.hid (IB5.out.only hcut (by simp))
  clear hcut IA5 IB5 X5 U5 O5 HER
  have HFP := Lib.hid (fun (wx : World) (h : Only (fun _ => False) w wx) => fparse_is kd ct pad (.slice A L c) bs wx (HS.out.of_only h) HB.out (Nat.le_trans HLB.out (by decide)))
  unfold FParsed at HFP
  obtain ⟨rr, hrr⟩ : ∃ x, rparse kd ct bs = x := ⟨_, rfl⟩
  have HRQ := Lib.hid hrr
  rw [hrr] at HFP
  clear hrr
  obtain ⟨y, fe⟩ := rr
  simp only at HFP
  go_upto_region 9 with (first
    | (refine wpList_load_want (o := ⟨some 73, _, _, _, _, _⟩) rfl _ _ rfl pb rfl _ _ _ IB6.out Try.underlying41 rfl Try.sizeRt ?_)
    | (go_at_call 23; refine (HFP.out _ O6.out).mono ?_; rintro e w7 ⟨p2, o2, s2, rfl, hd7, ho7⟩; have O7 := Lib.hid (O6.out.trans ho7 (fun _ _ e => e)); have D7 := Lib.hid hd7; have IB7 := Lib.hid (IB6.out.only ho7 (by simp)); clear ho7 hd7)
    | (refine wpList_store_is rfl 27 _ _ rfl w7.heap.size (y.cls p2 o2 s2) rfl rfl 27 _ (Is.made w7 _ _) Try.sizeMe rfl (Ms.one y (by obtain ⟨x, y, h, -⟩ := D7.out.rd.p; exact ⟨_, _, _, h⟩) (by obtain ⟨x, y, h, -⟩ := D7.out.rd.o; exact ⟨_, _, _, h⟩) (by obtain ⟨x, y, h, -⟩ := D7.out.rd.s; exact ⟨_, _, _, h⟩)) ?_; intro w8 hi8 ho8; have o8 := fb_made ho8; have Y8 := Lib.hid hi8; have D8 := Lib.hid (D7.out.only o8); have IB8 := Lib.hid (IB7.out.only o8 (by simp)); have O8 := Lib.hid (O7.out.trans o8 (fun _ _ e => e)); clear hi8 ho8 o8))
  obtain ⟨yb, hyb⟩ : ∃ k, w7.heap.size = k := ⟨_, rfl⟩
  rw [hyb] at Y8 ⊢
  clear hyb D7 IB6 IB7 O6 O7 HFP
  refine fb9 y p2 o2 s2 A kd ct pad L c pb yb fe bs HB.out HLB.out HL.out HRQ.out _ _ _ _ _ _ _ _ _ _ _ _ _ _ _ _ _ _ _ _ _ _ _ _ _ _ _ _ _ _ _ _ _ _ _ _ _ _ _ _ _ _ _ _ _ _ _ _ _ _ _ _ _ _ _ _ _ _ _ _ _ _ _ _ _ _ _ _ _ _ _ _ _ _ _ _ _ _ _ _ _ _ _ _ _ _ _ _ _ _ _ _ _ _ _ _ _ _ _ _ _ _ _ _ _ _ _ _ _ _ _ _ _ _ _ _ _ _ _ _ _ _ _ _ _ _ _ _ _ _ _ _ _ _ _ _ _ _ _ _ _ _ _ _ _ _ _ _ _ _ _ _ _ _ _ _ _ _ _ _ _ _ _ _ _ _ _ _ _ _ _ _ _ _ _ _ _ _ _ _ _ _ _ _ _ _ _ _ _ _ _ _ _ _ _ _ _ _ _ _ _ _ _ _ w8 IB8.out Y8.out D8.out.rd (HS.out.of_only O8.out) (by assumption) ?_
  rintro y15 y16 y17 y18 y77 y78 y79 y80 y81 y82 y83 y84 y85 y86 y87 y88 y89 y90 y91 y92 y93 y94 y95 y96 y97 y98 y99 y100 y101 y102 y103 y104 y105 y106 y107 y108 y109 y110 y111 y112 y113 y114 y115 y116 y117 y118 y119 y120 y121 y122 y123 y124 y125 y126 y127 y128 y129 y130 y131 y132 y133 y134 y135 y136 y137 y138 y139 y140 y141 w9 hcut
  have O9 := Lib.hid (O8.out.trans hcut (fun _ _ e => e))
  clear hcut Y8 D8 IB8 O8 HRQ
  have HPS := Lib.hid (fun (wx : World) (h : Only (fun _ => False) w wx) => fpairs_is (.slice An K cn) ns wx (HN.out.only h (by simp)) (by have := HKB.out; have := HK.out; omega) HNB.out)
  have HPL := Lib.hid (pairs_len ns)
  have HPF := Lib.hid (pairs_fit ns HNB.out)
  have HNP := Lib.hid (nums_pairs ns HNB.out)
  generalize pairsOf ns = ps at *
  go_upto_region 16 with (first
    | (go_at_call 34; refine (HPS.out _ O9.out).mono ?_; rintro e w10 ⟨vl, rfl, hw10, ho10⟩; have O10 := Lib.hid (O9.out.trans ho10 (fun _ _ e => e)); have W10 := Lib.hid hw10.rd; obtain ⟨Al, cl, rfl, -⟩ := OwnP.slice hw10; clear hw10 ho10)
    | (go_at_call 31; refine (numbers_is _ ps w10 W10.out (by have := HPL.out; have := HKB.out; have := HK.out; omega) HPF.out).mono ?_; rintro e w11 ⟨va, rfl, hw11, ho11⟩; have O11 := Lib.hid (O10.out.trans ho11 (fun _ _ e => e)); have W11 := Lib.hid hw11.rd; obtain ⟨Aa, ca, rfl, -⟩ := OwnN.slice hw11; clear hw11 ho11))
  have hpl : ¬ ((K : Nat) : Int) < ((ps.length : Nat) : Int) := by have := HPL.out; have := HK.out; omega
  have HLA := Lib.hid (show (numsOf ps).length ≤ 1700 from by have := numsOf_len ps; have := HPL.out; have := HKB.out; have := HK.out; omega)
  generalize numsOf ps = al at *
  obtain ⟨M, hM⟩ : ∃ M, al.length = M := ⟨_, rfl⟩
  have HM := Lib.hid hM
  rw [hM] at W11 HLA ⊢
  clear hM HPF HPS
  generalize ps.length = Pn at *
  have HN11 := Lib.hid (HN.out.only O11.out (by simp))
  clear W10 O10 HPL
  go_upto_region 18 with (fail)
  clear hpl
  refine fb18 An K cn (.slice Aa M ca) ns al HK.out (by have := HKB.out; omega) _ _ _ _ _ _ _ _ _ _ _ _ _ _ _ _ _ _ _ _ _ _ _ _ _ _ _ _ _ _ _ _ _ _ _ _ _ _ _ _ _ _ _ _ _ _ _ _ _ _ _ _ _ _ _ _ _ _ _ _ _ _ _ _ _ _ _ _ _ _ _ _ _ _ _ _ _ _ _ _ _ _ _ _ _ _ _ _ _ _ _ _ _ _ _ _ _ _ _ _ _ _ _ _ _ _ _ _ _ _ _ _ _ _ _ _ _ _ _ _ _ _ _ _ _ _ _ _ _ _ _ _ _ _ _ _ _ _ _ _ _ _ _ _ _ _ _ _ _ _ _ _ _ _ _ _ _ _ _ _ _ _ _ _ _ _ _ _ _ _ _ _ _ _ _ _ _ _ _ _ _ _ _ _ _ _ _ _ _ _ _ _ _ _ _ _ _ _ _ _ _ _ _ _ _ w11 HN11.out (fun x hx => by
    have := has_is (.slice Aa M ca) al x w11 W11.out (by have := HLA.out; have := HM.out; omega)
    rwa [decide_eq_true ((HNP.out x).2 hx)] at this) (by assumption) ?_
  rintro y8 y21 y151 y152 y153 y154 y155 y156 y157 y158 y159 y160 y161 y162 y163 w12 rfl
  go_upto_region 23 with (fail)
  refine fb23 Aa M ca (.slice An K cn) al ns HM.out (by have := HLA.out; omega) _ _ _ _ _ _ _ _ _ _ _ _ _ _ _ _ _ _ _ _ _ _ _ _ _ _ _ _ _ _ _ _ _ _ _ _ _ _ _ _ _ _ _ _ _ _ _ _ _ _ _ _ _ _ _ _ _ _ _ _ _ _ _ _ _ _ _ _ _ _ _ _ _ _ _ _ _ _ _ _ _ _ _ _ _ _ _ _ _ _ _ _ _ _ _ _ _ _ _ _ _ _ _ _ _ _ _ _ _ _ _ _ _ _ _ _ _ _ _ _ _ _ _ _ _ _ _ _ _ _ _ _ _ _ _ _ _ _ _ _ _ _ _ _ _ _ _ _ _ _ _ _ _ _ _ _ _ _ _ _ _ _ _ _ _ _ _ _ _ _ _ _ _ _ _ _ _ _ _ _ _ _ _ _ _ _ _ _ _ _ _ _ _ _ _ _ _ _ _ _ _ _ _ _ _ w12 W11.out (fun x hx => by
    have := has_is (.slice An K cn) ns x w12 HN11.out (by have := HKB.out; have := HK.out; omega)
    rwa [decide_eq_true ((HNP.out x).1 hx)] at this) (by assumption) ?_
  rintro y8 y22 y164 y165 y166 y167 y168 y169 y170 y171 y172 y173 y174 y175 y176 w13 rfl
  go_upto_region 28 with (fail)
  refine fb28 r HRR.out _ _ _ _ _ _ _ _ _ _ _ _ _ _ _ _ _ _ _ _ _ _ _ _ _ _ _ _ _ _ _ _ _ _ _ _ _ _ _ _ _ _ _ _ _ _ _ _ _ _ _ _ _ _ _ _ _ _ _ _ _ _ _ _ _ _ _ _ _ _ _ _ _ _ _ _ _ _ _ _ _ _ _ _ _ _ _ _ _ _ _ _ _ _ _ _ _ _ _ _ _ _ _ _ _ _ _ _ _ _ _ _ _ _ _ _ _ _ _ _ _ _ _ _ _ _ _ _ _ _ _ _ _ _ _ _ _ _ _ _ _ _ _ _ _ _ _ _ _ _ _ _ _ _ _ _ _ _ _ _ _ _ _ _ _ _ _ _ _ _ _ _ _ _ _ _ _ _ _ _ _ _ _ _ _ _ _ _ _ _ _ _ _ _ _ _ _ _ _ _ _ _ _ _ _ _ w13 (by assumption) ?_
  rintro y23 y24 y25 y26 y177 y178 y179 y180 y181 y182 y183 y184 y185 y186 y187 y188 y189 y190 y191 y192 y193 y194 y195 y196 y197 y198 y199 y200 y201 y202 y203 y204 w14 ho14
  have O14 := Lib.hid (O11.out.trans ho14 (fun _ _ e => e))
  clear ho14
  go_ret
  exact ⟨rfl, O14.out⟩
end Go.Proofs.Ytefcimkopgcagaa
