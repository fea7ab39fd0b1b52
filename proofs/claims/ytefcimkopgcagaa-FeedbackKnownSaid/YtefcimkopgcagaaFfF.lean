/- FeedbackKnown: the loop over a body's cuts. Conditions: as each says. -/
import Derived.Test.YtefcimkopgcagaaFfE
set_option linter.unusedVariables false
set_option linter.unusedSimpArgs false
namespace Go.Proofs.Ytefcimkopgcagaa
open Go.RowKit

theorem fn_end (k K : Nat) (w0 w : World) (h : k < K) (ho : Only (fun _ => False) w0 w) : (∃ j : Nat, Value.int .i64 ((k : Int) + 1) = .int .i64 (j : Int) ∧ j ≤ K ∧ Only (fun _ => False) w0 w) ∧ K - (intOf (Value.int .i64 ((k : Int) + 1))).toNat < K - (intOf (Value.int .i64 (k : Int))).toNat :=
  ⟨⟨k + 1, rfl, by omega, ho⟩, by simp [intOf]; omega⟩
noncomputable def fn11_a : Code := match Try.f7.body.bind (codeIf 11) with | some (.seq a _) => a | _ => .skip
noncomputable def fn11_b : Code := match Try.f7.body.bind (codeIf 11) with | some (.seq _ b) => b | _ => .skip
set_option maxRecDepth 100000 in
set_option maxHeartbeats 8000000 in
theorem fn11 (s ct kd L c xb B : Nat) (A : Option Addr) (bs : List Nat) (hs : s < 256) (hL : bs.length = L) (hl : L ≤ 90000) (hb : ∀ x ∈ bs, x < 256) (u0 u2 u3 u5 u6 u7 u8 u9 u10 u11 u12 u13 u14 u15 u16 u17 u18 u19 u20 u21 u22 u23 u24 u25 u26 u27 u28 u29 u30 u31 u32 u33 u34 u35 u36 u37 u38 u39 u40 u41 u42 u43 u44 u45 u46 u47 u48 u49 u50 u51 u52 u53 u54 u55 u56 u57 u58 u59 u60 u61 u62 u63 u64 u65 u66 u67 u68 u69 u70 u71 u72 u73 u74 u75 u76 u77 u78 u79 u80 u81 u82 u83 u84 u85 u86 u87 u88 u89 u90 u91 u92 u93 u94 u95 u96 u97 u98 u99 u100 u101 u102 u103 u104 u105 u106 u107 u108 u109 u110 u111 u112 u113 u114 u115 u116 u117 u118 u119 u120 u121 u122 u123 u124 u125 u126 u127 u128 u129 u130 u131 u132 u133 u134 u135 u136 u137 u138 u139 u140 u141 u142 u143 u144 u145 u146 u147 u148 u149 u150 u151 u152 u153 u154 u155 u156 u157 u158 u159 u160 u161 u162 u163 u164 u165 u166 u167 u168 u169 u170 u171 u172 u173 u174 u175 u176 u177 u178 u179 u180 u181 u182 u183 u184 u185 u186 u187 u188 u189 u190 u191 u192 u193 u194 : Value) (Q : Exit → Act → World → Prop) (K9 : Act → World → Prop) (w0 : World) (hX : Is w0 xb 37 #[.int .u8 (ct : Nat), .int .u8 (kd : Nat), .slice A L c, .int .u8 (0 : Nat)]) (hU0 : w0.ownsRow B 5 1 (.slice A L c) L (cellsOf bs)) (hK9 : ∀ a w, Code.wp Try.prog fn11_b Q a w → K9 a w)
    (hend : ∀ (y0 y6 y7 y8 y9 y45 y46 y47 y48 y49 y50 y51 y52 y53 y54 y55 y56 y57 y58 y59 y60 y61 y62 y63 y64 y65 y66 y67 y68 y69 y70 y71 y72 y73 y74 y75 y76 y77 y78 y79 y80 y81 y82 y83 y84 y85 y86 y87 y88 y89 y90 y91 y92 y93 y94 y95 y96 y97 y98 y99 y100 y101 y102 y103 y104 y105 y106 y107 y108 y109 y110 y111 y112 y113 y114 y115 y116 y117 y118 y119 y120 y121 y122 y123 y124 : Value) (w' : World), Only (fun _ => False) w0 w' → Q .normal ⟨(List.toArray (y0::.int .u8 (s : Nat)::u2::u3::.pointer (some ⟨xb, 0, none⟩)::u5::y6::y7::y8::y9::u10::u11::u12::u13::u14::u15::u16::u17::u18::u19::u20::u21::u22::u23::u24::u25::u26::u27::u28::u29::u30::u31::u32::u33::u34::u35::u36::u37::u38::u39::u40::u41::u42::u43::u44::y45::y46::y47::y48::y49::y50::y51::y52::y53::y54::y55::y56::y57::y58::y59::y60::y61::y62::y63::y64::y65::y66::y67::y68::y69::y70::y71::y72::y73::y74::y75::y76::y77::y78::y79::y80::y81::y82::y83::y84::y85::y86::y87::y88::y89::y90::y91::y92::y93::y94::y95::y96::y97::y98::y99::y100::y101::y102::y103::y104::y105::y106::y107::y108::y109::y110::y111::y112::y113::y114::y115::y116::y117::y118::y119::y120::y121::y122::y123::y124::u125::u126::u127::u128::u129::u130::u131::u132::u133::u134::u135::u136::u137::u138::u139::u140::u141::u142::u143::u144::u145::u146::u147::u148::u149::u150::u151::u152::u153::u154::u155::u156::u157::u158::u159::u160::u161::u162::u163::u164::u165::u166::u167::u168::u169::u170::u171::u172::u173::u174::u175::u176::u177::u178::u179::u180::u181::u182::u183::u184::u185::u186::u187::u188::u189::u190::u191::u192::u193::u194::[])), []⟩ w') :
    Code.wp Try.prog fn11_a (Exit.then K9 Q) ⟨(List.toArray (u0::.int .u8 (s : Nat)::u2::u3::.pointer (some ⟨xb, 0, none⟩)::u5::u6::u7::u8::u9::u10::u11::u12::u13::u14::u15::u16::u17::u18::u19::u20::u21::u22::u23::u24::u25::u26::u27::u28::u29::u30::u31::u32::u33::u34::u35::u36::u37::u38::u39::u40::u41::u42::u43::u44::u45::u46::u47::u48::u49::u50::u51::u52::u53::u54::u55::u56::u57::u58::u59::u60::u61::u62::u63::u64::u65::u66::u67::u68::u69::u70::u71::u72::u73::u74::u75::u76::u77::u78::u79::u80::u81::u82::u83::u84::u85::u86::u87::u88::u89::u90::u91::u92::u93::u94::u95::u96::u97::u98::u99::u100::u101::u102::u103::u104::u105::u106::u107::u108::u109::u110::u111::u112::u113::u114::u115::u116::u117::u118::u119::u120::u121::u122::u123::u124::u125::u126::u127::u128::u129::u130::u131::u132::u133::u134::u135::u136::u137::u138::u139::u140::u141::u142::u143::u144::u145::u146::u147::u148::u149::u150::u151::u152::u153::u154::u155::u156::u157::u158::u159::u160::u161::u162::u163::u164::u165::u166::u167::u168::u169::u170::u171::u172::u173::u174::u175::u176::u177::u178::u179::u180::u181::u182::u183::u184::u185::u186::u187::u188::u189::u190::u191::u192::u193::u194::[])), []⟩ w0 := by
  conv => arg 2; whnf
  conv at hK9 => intro a w; arg 1; arg 2; whnf
  have HEND := Lib.hid hend
  have HX := Lib.hid hX
  have HU := Lib.hid hU0
  have HL := Lib.hid hL
  have HLL := Lib.hid hl
  have HB := Lib.hid hb
  have HS := Lib.hid hs
  clear hend hX hU0 hL hb hs
  go_wp2
  go_loopw [6] (fun i wr => ∃ k : Nat, i = .int .i64 (k : Int) ∧ k ≤ L + 1 ∧ Only (fun _ => False) w0 wr) (fun i _ => L + 1 - (intOf i).toNat)
  case atStart => exact ⟨0, rfl, by omega, Only.refl _ _⟩
  case round =>
    obtain ⟨k, rfl, hk, ho⟩ := hrel
    have O0 := Lib.hid ho
    have X0 := Lib.hid (HX.out.only ho (by simp))
    have U0 := Lib.hid (owned_only HU.out ho (by simp))
    clear ho
    have c2 := X0.out.cell 2
    simp at c2
    have hwk : wrap64 ((k : Int) + 1) = (k : Int) + 1 := IntWalk.wrap64_in _ (by omega)
    by_cases hkK : k ≤ L
    · have hkI : (k : Int) ≤ (L : Int) := by omega
      have hkI2 : ¬ (L : Int) < (k : Int) := by omega
      go_upto_region 14 with (fail)
      clear hkI hkI2 hwk
      refine fn14 ct kd L c k xb B A bs hkK HL.out (by have := HLL.out; omega) _ _ _ _ _ _ _ _ _ _ _ _ _ _ _ _ _ _ _ _ _ _ _ _ _ _ _ _ _ _ _ _ _ _ _ _ _ _ _ _ _ _ _ _ _ _ _ _ _ _ _ _ _ _ _ _ _ _ _ _ _ _ _ _ _ _ _ _ _ _ _ _ _ _ _ _ _ _ _ _ _ _ _ _ _ _ _ _ _ _ _ _ _ _ _ _ _ _ _ _ _ _ _ _ _ _ _ _ _ _ _ _ _ _ _ _ _ _ _ _ _ _ _ _ _ _ _ _ _ _ _ _ _ _ _ _ _ _ _ _ _ _ _ _ _ _ _ _ _ _ _ _ _ _ _ _ _ _ _ _ _ _ _ _ _ _ _ _ _ _ _ _ _ _ _ _ _ _ _ _ _ _ _ _ _ _ _ _ _ _ _ _ _ _ wr X0.out U0.out ?_
      rintro y7 y52 y53 y54 y55 y56 y57 y58 y59 y60 w1 ⟨pb, rfl, -, hP, ho1⟩
      have P1 := Lib.hid hP
      have O1 := Lib.hid ho1
      have SP := Lib.hid (src_pre U0.out HL.out hkK)
      clear hP ho1
      go_upto_region 15 with (fail)
      refine fn15 ct kd L c k xb B A bs hkK HL.out (by have := HLL.out; omega) _ _ _ _ _ _ _ _ _ _ _ _ _ _ _ _ _ _ _ _ _ _ _ _ _ _ _ _ _ _ _ _ _ _ _ _ _ _ _ _ _ _ _ _ _ _ _ _ _ _ _ _ _ _ _ _ _ _ _ _ _ _ _ _ _ _ _ _ _ _ _ _ _ _ _ _ _ _ _ _ _ _ _ _ _ _ _ _ _ _ _ _ _ _ _ _ _ _ _ _ _ _ _ _ _ _ _ _ _ _ _ _ _ _ _ _ _ _ _ _ _ _ _ _ _ _ _ _ _ _ _ _ _ _ _ _ _ _ _ _ _ _ _ _ _ _ _ _ _ _ _ _ _ _ _ _ _ _ _ _ _ _ _ _ _ _ _ _ _ _ _ _ _ _ _ _ _ _ _ _ _ _ _ _ _ _ _ _ _ _ _ _ _ _ w1 (X0.out.only O1.out (by simp)) (owned_only U0.out O1.out (by simp)) ?_
      rintro y8 y61 y62 y63 y64 y65 y66 y67 y68 y69 y70 y71 y72 y73 w2 ⟨qb, A2, c2', rfl, hQ, hsq, ho2⟩
      have Q2 := Lib.hid hQ
      have SQ := Lib.hid hsq
      have O2 := Lib.hid (O1.out.trans ho2 (fun _ _ e => e))
      have P2 := Lib.hid (P1.out.only ho2 (by simp))
      clear hQ hsq ho2 P1 O1
      go_upto_region 16 with (fail)
      refine fn16 s ct kd pb qb _ _ (bs.take k) (bs ++ bs.take k) HS.out (fun x hx => HB.out x (List.mem_of_mem_take hx)) (fun x hx => (List.mem_append.1 hx).elim (HB.out x) (fun h => HB.out x (List.mem_of_mem_take h))) _ _ _ _ _ _ _ _ _ _ _ _ _ _ _ _ _ _ _ _ _ _ _ _ _ _ _ _ _ _ _ _ _ _ _ _ _ _ _ _ _ _ _ _ _ _ _ _ _ _ _ _ _ _ _ _ _ _ _ _ _ _ _ _ _ _ _ _ _ _ _ _ _ _ _ _ _ _ _ _ _ _ _ _ _ _ _ _ _ _ _ _ _ _ _ _ _ _ _ _ _ _ _ _ _ _ _ _ _ _ _ _ _ _ _ _ _ _ _ _ _ _ _ _ _ _ _ _ _ _ _ _ _ _ _ _ _ _ _ _ _ _ _ _ _ _ _ _ _ _ _ _ _ _ _ _ _ _ _ _ _ _ _ _ _ _ _ _ _ _ _ _ _ _ _ _ _ _ _ _ _ _ _ _ _ _ _ _ _ _ _ _ _ w2 P2.out Q2.out (SP.out.of_only O2.out) SQ.out ?_
      rintro y74 y75 y76 y77 y78 y79 y80 y81 y82 y83 y84 y85 y86 y87 y88 y89 y90 y91 y92 y93 w3 ho3
      have O3 := Lib.hid (O2.out.trans ho3 (fun _ _ e => e))
      clear ho3 P2 Q2 SP SQ O2 c2
      have X3 := Lib.hid (X0.out.only O3.out (by simp))
      have U3 := Lib.hid (owned_only U0.out O3.out (by simp))
      have OW3 := Lib.hid (O0.out.trans O3.out (fun _ _ e => e))
      clear X0 U0 O0 O3
      have c2 := X3.out.cell 2
      simp at c2
      have hwk : wrap64 ((k : Int) + 1) = (k : Int) + 1 := IntWalk.wrap64_in _ (by omega)
      by_cases hkL : k < L
      · have hkJ : (k : Int) < (L : Int) := by omega
        go_upto_region 19 with (fail)
        clear hkJ hwk c2
        obtain ⟨n2, hn2⟩ : ∃ x, x = k % 2 := ⟨_, rfl⟩
        obtain ⟨cc, hcc⟩ : ∃ x, x = (ct + n2) % 256 := ⟨_, rfl⟩
        refine fn19 ct kd L c k xb B n2 cc hn2 hcc A bs hkK HL.out (by have := HLL.out; omega) _ _ _ _ _ _ _ _ _ _ _ _ _ _ _ _ _ _ _ _ _ _ _ _ _ _ _ _ _ _ _ _ _ _ _ _ _ _ _ _ _ _ _ _ _ _ _ _ _ _ _ _ _ _ _ _ _ _ _ _ _ _ _ _ _ _ _ _ _ _ _ _ _ _ _ _ _ _ _ _ _ _ _ _ _ _ _ _ _ _ _ _ _ _ _ _ _ _ _ _ _ _ _ _ _ _ _ _ _ _ _ _ _ _ _ _ _ _ _ _ _ _ _ _ _ _ _ _ _ _ _ _ _ _ _ _ _ _ _ _ _ _ _ _ _ _ _ _ _ _ _ _ _ _ _ _ _ _ _ _ _ _ _ _ _ _ _ _ _ _ _ _ _ _ _ _ _ _ _ _ _ _ _ _ _ _ _ _ _ _ _ _ _ _ w3 X3.out U3.out ?_
        rintro y9 y100 y101 y102 y103 y104 y105 y106 y107 y108 y109 y110 y111 w4 ⟨rb, A3, cv, rfl, hge, hR, hown, ho4⟩
        obtain ⟨g, cap, e, hgB, hglt⟩ := hown.form (by omega)
        injection e with e1 e2 e3
        subst e1 e3
        have hkb : k < bs.length := by rw [HL.out]; exact hkL
        have hbk := HB.out _ (List.getElem_mem hkb)
        have hq := u8_xor_nat bs[k] 1 hbk (by omega)
        have hql : bs[k] ^^^ 1 < 256 := Nat.xor_lt_two_pow (n := 8) (by omega) (by omega)
        have hc : w4.cell? ⟨g, k, none⟩ = some (.int .u8 (bs[k] : Nat)) := by
          rw [hown.cellAt k (by omega), cellsOf_get bs k hkb]
        have hfr := hown.frozenAt k
        have R4 := Lib.hid hR
        have W4 := Lib.hid hown
        have O4 := Lib.hid (OW3.out.trans ho4 (fun _ _ e => e))
        have HGB := Lib.hid (show w0.heap.size ≤ g from Nat.le_trans OW3.out.size hgB)
        have HQL := Lib.hid hql
        obtain ⟨b, hb⟩ : ∃ x, bs[k] = x := ⟨_, rfl⟩
        obtain ⟨q, hqq⟩ : ∃ x, b ^^^ 1 = x := ⟨_, rfl⟩
        rw [hb] at hq hc HQL
        rw [hqq] at hq HQL
        clear hR hown ho4 hge hgB hglt hbk hql X3 U3 hn2 hcc e2 hb hqq
        go_upto_region 20 with (fail)
        refine fn20 cc kd g L cv k rb b q hkL (by have := HLL.out; omega) (by simpa using hq) _ _ _ _ _ _ _ _ _ _ _ _ _ _ _ _ _ _ _ _ _ _ _ _ _ _ _ _ _ _ _ _ _ _ _ _ _ _ _ _ _ _ _ _ _ _ _ _ _ _ _ _ _ _ _ _ _ _ _ _ _ _ _ _ _ _ _ _ _ _ _ _ _ _ _ _ _ _ _ _ _ _ _ _ _ _ _ _ _ _ _ _ _ _ _ _ _ _ _ _ _ _ _ _ _ _ _ _ _ _ _ _ _ _ _ _ _ _ _ _ _ _ _ _ _ _ _ _ _ _ _ _ _ _ _ _ _ _ _ _ _ _ _ _ _ _ _ _ _ _ _ _ _ _ _ _ _ _ _ _ _ _ _ _ _ _ _ _ _ _ _ _ _ _ _ _ _ _ _ _ _ _ _ _ _ _ _ _ _ _ _ _ _ _ w4 R4.out hc hfr ?_
        rintro y112 y113 y114 y115 y116 y117 y118 y119 y120 y121 w6 ⟨w5, ho5, rfl⟩
        clear hc hfr hq
        have W5 := Lib.hid (owned_only W4.out ho5 (by simp))
        obtain ⟨hs6, -⟩ := W5.out.stored k (.int .u8 (q : Nat))
        rw [← cellsOf_set] at hs6
        have R5 := Lib.hid (R4.out.only ho5 (by simp))
        have S6 := Lib.hid (show Src (w5.setCell ⟨g, k, none⟩ (.int .u8 (q : Nat))) (.slice (some ⟨g, 0, none⟩) L cv) (bs.set k q) from Src.of_own (by rw [List.length_set, HL.out]; exact hs6))
        have hgr : rb ≠ g := fun e => owned_off W5.out R5.out (by decide) (by rw [← e]; rfl)
        have R6 := Lib.hid (show Is (w5.setCell ⟨g, k, none⟩ (.int .u8 (q : Nat))) rb 41 #[.int .u8 (cc : Nat), .int .u8 (kd : Nat), .slice (some ⟨g, 0, none⟩) L cv, .int .u8 (0 : Nat)] from R5.out.far hgr _)
        have O6 := Lib.hid (show Only (fun _ => False) w0 (w5.setCell ⟨g, k, none⟩ (.int .u8 (q : Nat))) from (O4.out.trans ho5 (fun _ _ e => e)).set (fun h => by have := HGB.out; have h9 : g < w0.heap.size := h; omega) _)
        generalize w5.setCell ⟨g, k, none⟩ (.int .u8 (q : Nat)) = w6 at *
        clear ho5 hs6 hgr W5 R5 W4 R4 O4 OW3
        have HF := Lib.hid (freads_walk kd cc 0 _ (bs.set k q) w6 S6.out (fun x hx => by
          rcases List.mem_or_eq_of_mem_set hx with h | rfl
          · exact HB.out x h
          · exact HQL.out))
        have hwk : wrap64 ((k : Int) + 1) = (k : Int) + 1 := IntWalk.wrap64_in _ (by omega)
        go_wp2_with (first
          | (refine wpList_load_want (o := ⟨some 122, _, _, _, _, _⟩) rfl _ _ rfl rb rfl _ _ _ R6.out Try.underlying41 rfl Try.sizeRt ?_)
          | (go_at_call 4; refine HF.out.mono ?_; rintro e w7 ⟨rfl, ho7⟩; have O7 := Lib.hid (O6.out.trans ho7 (fun _ _ e => e)); clear ho7))
        exact fn_end k (L + 1) w0 w7 (by omega) O7.out
      · have hkJ : ¬ (k : Int) < (L : Int) := by omega
        go_wp2
        exact fn_end k (L + 1) w0 w3 (by omega) OW3.out
    · have hkI : ¬ (k : Int) ≤ (L : Int) := by omega
      have hkI2 : (L : Int) < (k : Int) := by omega
      clear hkK hk hwk
      go_wp2_with fail
      exact HEND.out _ _ _ _ _ _ _ _ _ _ _ _ _ _ _ _ _ _ _ _ _ _ _ _ _ _ _ _ _ _ _ _ _ _ _ _ _ _ _ _ _ _ _ _ _ _ _ _ _ _ _ _ _ _ _ _ _ _ _ _ _ _ _ _ _ _ _ _ _ _ _ _ _ _ _ _ _ _ _ _ _ _ _ _ _ _ O0.out
end Go.Proofs.Ytefcimkopgcagaa
