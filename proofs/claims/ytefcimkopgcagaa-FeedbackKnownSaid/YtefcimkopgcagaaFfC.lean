/- FeedbackKnown's first inner loop. Conditions: as each says. -/
import Derived.Test.YtefcimkopgcagaaFfB
import Derived.Test.YtefcimkopgcagaaFcQ
import Derived.Test.YtefcimkopgcagaaFiGr
import Derived.Test.YtefcimkopgcagaaFbP
import Derived.Test.YtefcimkopgcagaaBase
set_option linter.unusedVariables false
set_option linter.unusedSimpArgs false
namespace Go.Proofs.Ytefcimkopgcagaa
open Go.RowKit

def fn8_A : List (List Nat) := ([]::[]::[1]::[0, 2, 1]::[3, 0, 2, 1]::[4, 3, 0, 2, 1]::[5, 4, 3, 0, 2, 1]::[5, 4, 3, 0, 2, 1]::[5, 4, 3, 0, 2, 1]::[8, 5, 4, 3, 0, 2, 1]::(6::7::9::5::4::3::0::2::1::8::[])::(10::5::6::7::9::4::3::0::2::1::8::[])::(5::11::4::3::0::2::1::10::6::7::9::8::[])::[])
def fn8_kill : List (List Nat) := ([]::[]::[]::[]::[]::[]::[]::[]::[]::[]::[]::[]::[]::[])
def fn8_uses : List (List Nat) := ([]::[]::[]::[2]::[]::[]::[]::[]::[]::[]::[]::[]::[]::[])
noncomputable def fn8_code : Code := ((Try.f7.body.bind (codeRegion 8)).getD .skip)
set_option maxRecDepth 100000 in
set_option maxHeartbeats 4000000 in
theorem fn8_in (s k mb : Nat) (m : Ms) (p1 o1 s1 : Value) (hs : s < 256) (hk : k < 100) (u0 u4 u5 u6 u7 u8 u9 u10 u11 u12 u13 u14 u15 u16 u17 u18 u19 u20 u21 u22 u23 u24 u25 u26 u27 u28 u29 u30 u31 u32 u33 u34 u35 u36 u37 u38 u39 u40 u41 u42 u43 u44 u45 u46 u47 u48 u49 u50 u51 u52 u53 u54 u55 u56 u57 u58 u59 u60 u61 u62 u63 u64 u65 u66 u67 u68 u69 u70 u71 u72 u73 u74 u75 u76 u77 u78 u79 u80 u81 u82 u83 u84 u85 u86 u87 u88 u89 u90 u91 u92 u93 u94 u95 u96 u97 u98 u99 u100 u101 u102 u103 u104 u105 u106 u107 u108 u109 u110 u111 u112 u113 u114 u115 u116 u117 u118 u119 u120 u121 u122 u123 u124 u125 u126 u127 u128 u129 u130 u131 u132 u133 u134 u135 u136 u137 u138 u139 u140 u141 u142 u143 u144 u145 u146 u147 u148 u149 u150 u151 u152 u153 u154 u155 u156 u157 u158 u159 u160 u161 u162 u163 u164 u165 u166 u167 u168 u169 u170 u171 u172 u173 u174 u175 u176 u177 u178 u179 u180 u181 u182 u183 u184 u185 u186 u187 u188 u189 u190 u191 u192 u193 u194 : Value) (w0 : World) (hM : Is w0 mb 27 (m.cls p1 o1 s1)) (hD : Msg m p1 o1 s1 w0) :
    Code.wp Try.prog fn8_code (fun e a w' => ∃ y25 y26 y27 y28 y29 y30 y31 y32 y33 y34 y35 y36 : Value, a = ⟨(List.toArray (u0::.int .u8 (s : Nat)::.int .i64 (k : Nat)::.pointer (some ⟨mb, 0, none⟩)::u4::u5::u6::u7::u8::u9::u10::u11::u12::u13::u14::u15::u16::u17::u18::u19::u20::u21::u22::u23::u24::y25::y26::y27::y28::y29::y30::y31::y32::y33::y34::y35::y36::.bool false::u38::u39::u40::u41::u42::u43::u44::u45::u46::u47::u48::u49::u50::u51::u52::u53::u54::u55::u56::u57::u58::u59::u60::u61::u62::u63::u64::u65::u66::u67::u68::u69::u70::u71::u72::u73::u74::u75::u76::u77::u78::u79::u80::u81::u82::u83::u84::u85::u86::u87::u88::u89::u90::u91::u92::u93::u94::u95::u96::u97::u98::u99::u100::u101::u102::u103::u104::u105::u106::u107::u108::u109::u110::u111::u112::u113::u114::u115::u116::u117::u118::u119::u120::u121::u122::u123::u124::u125::u126::u127::u128::u129::u130::u131::u132::u133::u134::u135::u136::u137::u138::u139::u140::u141::u142::u143::u144::u145::u146::u147::u148::u149::u150::u151::u152::u153::u154::u155::u156::u157::u158::u159::u160::u161::u162::u163::u164::u165::u166::u167::u168::u169::u170::u171::u172::u173::u174::u175::u176::u177::u178::u179::u180::u181::u182::u183::u184::u185::u186::u187::u188::u189::u190::u191::u192::u193::u194::[])), []⟩ ∧ e = .normal ∧ Only (fun _ => False) w0 w') ⟨(List.toArray (u0::.int .u8 (s : Nat)::.int .i64 (k : Nat)::.pointer (some ⟨mb, 0, none⟩)::u4::u5::u6::u7::u8::u9::u10::u11::u12::u13::u14::u15::u16::u17::u18::u19::u20::u21::u22::u23::u24::u25::u26::u27::u28::u29::u30::u31::u32::u33::u34::u35::u36::u37::u38::u39::u40::u41::u42::u43::u44::u45::u46::u47::u48::u49::u50::u51::u52::u53::u54::u55::u56::u57::u58::u59::u60::u61::u62::u63::u64::u65::u66::u67::u68::u69::u70::u71::u72::u73::u74::u75::u76::u77::u78::u79::u80::u81::u82::u83::u84::u85::u86::u87::u88::u89::u90::u91::u92::u93::u94::u95::u96::u97::u98::u99::u100::u101::u102::u103::u104::u105::u106::u107::u108::u109::u110::u111::u112::u113::u114::u115::u116::u117::u118::u119::u120::u121::u122::u123::u124::u125::u126::u127::u128::u129::u130::u131::u132::u133::u134::u135::u136::u137::u138::u139::u140::u141::u142::u143::u144::u145::u146::u147::u148::u149::u150::u151::u152::u153::u154::u155::u156::u157::u158::u159::u160::u161::u162::u163::u164::u165::u166::u167::u168::u169::u170::u171::u172::u173::u174::u175::u176::u177::u178::u179::u180::u181::u182::u183::u184::u185::u186::u187::u188::u189::u190::u191::u192::u193::u194::[])), []⟩ w0 := by
  conv => arg 2; whnf
  have HEX := Lib.hid (fun (wx : World) (h : Only (fun _ => False) w0 wx) => example_is s wx hs)
  have HPU := Lib.hid (fun (wx : World) (h : Only (fun _ => False) w0 wx) (m' : Ms) (vp vo vs : Value) (hd : Msg m' vp vo vs wx) => fputs_walk m m' p1 o1 s1 vp vo vs wx (hD.rd.only h) hd.rd hD.fit hd.fit hD.null hd.null)
  have HBK := Lib.hid (fun (wx : World) (h : Only (fun _ => False) w0 wx) => fback_walk m p1 o1 s1 206 4 0 k (.slice none 0 0) (.slice none 0 0) [] [] wx (hD.rd.only h) hD.fit (.inl ⟨rfl, rfl⟩) (by simp) (Rd.nil _ _) (by simp) (by omega))
  have e1 : IntKind.u64.wrap (k : Int) = (k : Int) := by rw [IntKind.wrap_u64]; omega
  unfold GotM at HEX
  clear hD hs hk
  refine wp_region_posts fn8_A [2, 3, 10] [2] fn8_kill fn8_uses [] [] [] []
      (some ?v0::some ?v1::none::some (.bool true)::some ?v4::some ?v5::some ?v6::some ?v7::some ?v8::some ?v9::some (.bool true)::some ?v11::some ?v12::[])
      ?T (fun wx => Only (fun _ => False) w0 wx) ?W ?E (by kernel_rfl) (by kernel_rfl) (by kernel_rfl) (fun x => ?hT) ?hF ?hini (Reg.all_ops ?runs) ?pres ?fin
  case W => exact fun j x wz => match j with | 2 => ∃ m vp vo vs, x 2 = .agg (m.cls vp vo vs) ∧ Msg m vp vo vs wz | _ => True
  case E => exact fun _ wx wy => Only (fun _ => False) wx wy
  case hT =>
    simp only [Reg.fillV, Act.put, List.setIfInBounds_toArray, List.set_cons_zero, List.set_cons_succ]
    rfl
  case runs =>
    refine And.intro ?_ ?_
    · refine Reg.ob_pure (fun _ => rfl) rfl rfl rfl rfl (fun x w1 hF => ?_)
      obtain ⟨m0, m1, m2, m3, m4, m5, m6, m7⟩ := cls_cells (hM.only hF (by simp))
      go_simp
      with_reducible rfl
    refine And.intro ?_ ?_
    · refine Reg.ob_pure (fun _ => rfl) rfl rfl rfl rfl (fun x w1 hF => ?_)
      go_simp
      with_reducible rfl
    refine And.intro ?_ ?_
    · refine Reg.ob_some (fun _ => rfl) rfl (fun x w1 hF hU K hK => ?_)
      have hF := hF rfl
      go_simp
      refine (HEX.out w1 hF).mono ?_
      rintro e w5 ⟨m', vp, vo, vs, rfl, hd, ho⟩
      exact hK _ w5 (fun _ _ _ => hF.trans ho (fun _ _ e => e)) ho ⟨m', vp, vo, vs, rfl, hd⟩
    refine And.intro ?_ ?_
    · refine Reg.ob_known (fun _ => rfl) rfl rfl (fun x w1 hF hU K hK => ?_)
      have hF := hF rfl
      obtain ⟨⟨m', vp, vo, vs, hx, hd⟩, -⟩ := hU
      have hx : x 2 = .agg (m'.cls vp vo vs) := hx
      revert hK
      simp only [Nat.reduceAdd, hx]
      intro hK
      go_simp
      refine (HPU.out w1 hF m' vp vo vs hd).mono ?_
      rintro e w5 ⟨rfl, ho⟩
      exact hK _ (fun _ _ _ => hF.trans ho (fun _ _ e => e)) ho
    refine And.intro ?_ ?_
    · refine Reg.ob_pure (fun _ => rfl) rfl rfl rfl rfl (fun x w1 hF => ?_)
      go_simp
      with_reducible rfl
    refine And.intro ?_ ?_
    · refine Reg.ob_pure (fun _ => rfl) rfl rfl rfl rfl (fun x w1 hF => ?_)
      go_simp
      with_reducible rfl
    refine And.intro ?_ ?_
    · refine Reg.ob_pure (fun _ => rfl) rfl rfl rfl rfl (fun x w1 hF => ?_)
      obtain ⟨m0, m1, m2, m3, m4, m5, m6, m7⟩ := cls_cells (hM.only hF (by simp))
      go_simp
      with_reducible rfl
    refine And.intro ?_ ?_
    · refine Reg.ob_pure (fun _ => rfl) rfl rfl rfl rfl (fun x w1 hF => ?_)
      go_simp
      with_reducible rfl
    refine And.intro ?_ ?_
    · refine Reg.ob_pure (fun _ => rfl) rfl rfl rfl rfl (fun x w1 hF => ?_)
      go_simp
      with_reducible rfl
    refine And.intro ?_ ?_
    · refine Reg.ob_pure (fun _ => rfl) rfl rfl rfl rfl (fun x w1 hF => ?_)
      go_simp
      with_reducible rfl
    refine And.intro ?_ ?_
    · refine Reg.ob_known (fun _ => rfl) rfl rfl (fun x w1 hF hU K hK => ?_)
      have hF := hF rfl
      go_simp
      refine (HBK.out w1 hF).mono ?_
      rintro e w5 ⟨rfl, ho⟩
      exact hK _ (fun _ _ _ => hF.trans ho (fun _ _ e => e)) ho
    refine And.intro ?_ ?_
    · refine Reg.ob_pure (fun _ => rfl) rfl rfl rfl rfl (fun x w1 hF => ?_)
      go_simp
      with_reducible rfl
    refine And.intro ?_ ?_
    · refine Reg.ob_pure (fun _ => rfl) rfl rfl rfl rfl (fun x w1 hF => ?_)
      go_simp
      with_reducible rfl
    exact trivial
  case hF =>
    exact (Only.refl _ w0).drewN 1
  case hini =>
    exact trivial
  case pres =>
    intro i hi j hj hc x wx wy hF hE hW
    simp only [List.mem_cons, List.mem_nil_iff, or_false] at hj
    subst hj
    obtain ⟨m', vp, vo, vs, h1, h2⟩ := hW
    exact ⟨m', vp, vo, vs, h1, Msg.only h2 hE⟩
  case fin =>
    rintro x w9 hF hU
    repeat apply Exists.intro
    exact ⟨rfl, rfl, hF rfl⟩

set_option maxRecDepth 100000 in
set_option maxHeartbeats 4000000 in
theorem fn8 (s k mb : Nat) (m : Ms) (p1 o1 s1 : Value) (hs : s < 256) (hk : k < 100) (u0 u4 u5 u6 u7 u8 u9 u10 u11 u12 u13 u14 u15 u16 u17 u18 u19 u20 u21 u22 u23 u24 u25 u26 u27 u28 u29 u30 u31 u32 u33 u34 u35 u36 u37 u38 u39 u40 u41 u42 u43 u44 u45 u46 u47 u48 u49 u50 u51 u52 u53 u54 u55 u56 u57 u58 u59 u60 u61 u62 u63 u64 u65 u66 u67 u68 u69 u70 u71 u72 u73 u74 u75 u76 u77 u78 u79 u80 u81 u82 u83 u84 u85 u86 u87 u88 u89 u90 u91 u92 u93 u94 u95 u96 u97 u98 u99 u100 u101 u102 u103 u104 u105 u106 u107 u108 u109 u110 u111 u112 u113 u114 u115 u116 u117 u118 u119 u120 u121 u122 u123 u124 u125 u126 u127 u128 u129 u130 u131 u132 u133 u134 u135 u136 u137 u138 u139 u140 u141 u142 u143 u144 u145 u146 u147 u148 u149 u150 u151 u152 u153 u154 u155 u156 u157 u158 u159 u160 u161 u162 u163 u164 u165 u166 u167 u168 u169 u170 u171 u172 u173 u174 u175 u176 u177 u178 u179 u180 u181 u182 u183 u184 u185 u186 u187 u188 u189 u190 u191 u192 u193 u194 : Value) (Q : Exit → Act → World → Prop) (w0 : World) (hM : Is w0 mb 27 (m.cls p1 o1 s1)) (hD : Msg m p1 o1 s1 w0)
    (hend : ∀ (y25 y26 y27 y28 y29 y30 y31 y32 y33 y34 y35 y36 : Value) (w' : World), Only (fun _ => False) w0 w' → Q .normal ⟨(List.toArray (u0::.int .u8 (s : Nat)::.int .i64 (k : Nat)::.pointer (some ⟨mb, 0, none⟩)::u4::u5::u6::u7::u8::u9::u10::u11::u12::u13::u14::u15::u16::u17::u18::u19::u20::u21::u22::u23::u24::y25::y26::y27::y28::y29::y30::y31::y32::y33::y34::y35::y36::.bool false::u38::u39::u40::u41::u42::u43::u44::u45::u46::u47::u48::u49::u50::u51::u52::u53::u54::u55::u56::u57::u58::u59::u60::u61::u62::u63::u64::u65::u66::u67::u68::u69::u70::u71::u72::u73::u74::u75::u76::u77::u78::u79::u80::u81::u82::u83::u84::u85::u86::u87::u88::u89::u90::u91::u92::u93::u94::u95::u96::u97::u98::u99::u100::u101::u102::u103::u104::u105::u106::u107::u108::u109::u110::u111::u112::u113::u114::u115::u116::u117::u118::u119::u120::u121::u122::u123::u124::u125::u126::u127::u128::u129::u130::u131::u132::u133::u134::u135::u136::u137::u138::u139::u140::u141::u142::u143::u144::u145::u146::u147::u148::u149::u150::u151::u152::u153::u154::u155::u156::u157::u158::u159::u160::u161::u162::u163::u164::u165::u166::u167::u168::u169::u170::u171::u172::u173::u174::u175::u176::u177::u178::u179::u180::u181::u182::u183::u184::u185::u186::u187::u188::u189::u190::u191::u192::u193::u194::[])), []⟩ w') :
    Code.wp Try.prog fn8_code Q ⟨(List.toArray (u0::.int .u8 (s : Nat)::.int .i64 (k : Nat)::.pointer (some ⟨mb, 0, none⟩)::u4::u5::u6::u7::u8::u9::u10::u11::u12::u13::u14::u15::u16::u17::u18::u19::u20::u21::u22::u23::u24::u25::u26::u27::u28::u29::u30::u31::u32::u33::u34::u35::u36::u37::u38::u39::u40::u41::u42::u43::u44::u45::u46::u47::u48::u49::u50::u51::u52::u53::u54::u55::u56::u57::u58::u59::u60::u61::u62::u63::u64::u65::u66::u67::u68::u69::u70::u71::u72::u73::u74::u75::u76::u77::u78::u79::u80::u81::u82::u83::u84::u85::u86::u87::u88::u89::u90::u91::u92::u93::u94::u95::u96::u97::u98::u99::u100::u101::u102::u103::u104::u105::u106::u107::u108::u109::u110::u111::u112::u113::u114::u115::u116::u117::u118::u119::u120::u121::u122::u123::u124::u125::u126::u127::u128::u129::u130::u131::u132::u133::u134::u135::u136::u137::u138::u139::u140::u141::u142::u143::u144::u145::u146::u147::u148::u149::u150::u151::u152::u153::u154::u155::u156::u157::u158::u159::u160::u161::u162::u163::u164::u165::u166::u167::u168::u169::u170::u171::u172::u173::u174::u175::u176::u177::u178::u179::u180::u181::u182::u183::u184::u185::u186::u187::u188::u189::u190::u191::u192::u193::u194::[])), []⟩ w0 := by
  refine wp_mono (fn8_in s k mb m p1 o1 s1 hs hk _ _ _ _ _ _ _ _ _ _ _ _ _ _ _ _ _ _ _ _ _ _ _ _ _ _ _ _ _ _ _ _ _ _ _ _ _ _ _ _ _ _ _ _ _ _ _ _ _ _ _ _ _ _ _ _ _ _ _ _ _ _ _ _ _ _ _ _ _ _ _ _ _ _ _ _ _ _ _ _ _ _ _ _ _ _ _ _ _ _ _ _ _ _ _ _ _ _ _ _ _ _ _ _ _ _ _ _ _ _ _ _ _ _ _ _ _ _ _ _ _ _ _ _ _ _ _ _ _ _ _ _ _ _ _ _ _ _ _ _ _ _ _ _ _ _ _ _ _ _ _ _ _ _ _ _ _ _ _ _ _ _ _ _ _ _ _ _ _ _ _ _ _ _ _ _ _ _ _ _ _ _ _ _ _ _ _ _ _ _ _ _ w0 hM hD) ?_
  rintro e a w' h
  obtain ⟨y25, h⟩ := h
  obtain ⟨y26, h⟩ := h
  obtain ⟨y27, h⟩ := h
  obtain ⟨y28, h⟩ := h
  obtain ⟨y29, h⟩ := h
  obtain ⟨y30, h⟩ := h
  obtain ⟨y31, h⟩ := h
  obtain ⟨y32, h⟩ := h
  obtain ⟨y33, h⟩ := h
  obtain ⟨y34, h⟩ := h
  obtain ⟨y35, h⟩ := h
  obtain ⟨y36, h⟩ := h
  obtain ⟨h, rfl, hq⟩ := h
  subst h
  exact hend y25 y26 y27 y28 y29 y30 y31 y32 y33 y34 y35 y36 w' hq
noncomputable def fn4_a : Code := match Try.f7.body.bind (codeIf 4) with | some (.seq a _) => a | _ => .skip
noncomputable def fn4_b : Code := match Try.f7.body.bind (codeIf 4) with | some (.seq _ b) => b | _ => .skip
set_option maxRecDepth 100000 in
set_option maxHeartbeats 8000000 in
theorem fn4 (s : Nat) (hs : s < 256) (u0 u2 u3 u4 u5 u6 u7 u8 u9 u10 u11 u12 u13 u14 u15 u16 u17 u18 u19 u20 u21 u22 u23 u24 u25 u26 u27 u28 u29 u30 u31 u32 u33 u34 u35 u36 u37 u38 u39 u40 u41 u42 u43 u44 u45 u46 u47 u48 u49 u50 u51 u52 u53 u54 u55 u56 u57 u58 u59 u60 u61 u62 u63 u64 u65 u66 u67 u68 u69 u70 u71 u72 u73 u74 u75 u76 u77 u78 u79 u80 u81 u82 u83 u84 u85 u86 u87 u88 u89 u90 u91 u92 u93 u94 u95 u96 u97 u98 u99 u100 u101 u102 u103 u104 u105 u106 u107 u108 u109 u110 u111 u112 u113 u114 u115 u116 u117 u118 u119 u120 u121 u122 u123 u124 u125 u126 u127 u128 u129 u130 u131 u132 u133 u134 u135 u136 u137 u138 u139 u140 u141 u142 u143 u144 u145 u146 u147 u148 u149 u150 u151 u152 u153 u154 u155 u156 u157 u158 u159 u160 u161 u162 u163 u164 u165 u166 u167 u168 u169 u170 u171 u172 u173 u174 u175 u176 u177 u178 u179 u180 u181 u182 u183 u184 u185 u186 u187 u188 u189 u190 u191 u192 u193 u194 : Value) (Q : Exit → Act → World → Prop) (K9 : Act → World → Prop) (w0 : World)  (hK9 : ∀ a w, Code.wp Try.prog fn4_b Q a w → K9 a w)
    (hend : ∀ (y0 y2 y3 y17 y18 y19 y20 y21 y22 y23 y24 y25 y26 y27 y28 y29 y30 y31 y32 y33 y34 y35 y36 y37 : Value) (w' : World), Only (fun _ => False) w0 w' → Q .normal ⟨(List.toArray (y0::.int .u8 (s : Nat)::y2::y3::u4::u5::u6::u7::u8::u9::u10::u11::u12::u13::u14::u15::u16::y17::y18::y19::y20::y21::y22::y23::y24::y25::y26::y27::y28::y29::y30::y31::y32::y33::y34::y35::y36::y37::u38::u39::u40::u41::u42::u43::u44::u45::u46::u47::u48::u49::u50::u51::u52::u53::u54::u55::u56::u57::u58::u59::u60::u61::u62::u63::u64::u65::u66::u67::u68::u69::u70::u71::u72::u73::u74::u75::u76::u77::u78::u79::u80::u81::u82::u83::u84::u85::u86::u87::u88::u89::u90::u91::u92::u93::u94::u95::u96::u97::u98::u99::u100::u101::u102::u103::u104::u105::u106::u107::u108::u109::u110::u111::u112::u113::u114::u115::u116::u117::u118::u119::u120::u121::u122::u123::u124::u125::u126::u127::u128::u129::u130::u131::u132::u133::u134::u135::u136::u137::u138::u139::u140::u141::u142::u143::u144::u145::u146::u147::u148::u149::u150::u151::u152::u153::u154::u155::u156::u157::u158::u159::u160::u161::u162::u163::u164::u165::u166::u167::u168::u169::u170::u171::u172::u173::u174::u175::u176::u177::u178::u179::u180::u181::u182::u183::u184::u185::u186::u187::u188::u189::u190::u191::u192::u193::u194::[])), []⟩ w') :
    Code.wp Try.prog fn4_a (Exit.then K9 Q) ⟨(List.toArray (u0::.int .u8 (s : Nat)::u2::u3::u4::u5::u6::u7::u8::u9::u10::u11::u12::u13::u14::u15::u16::u17::u18::u19::u20::u21::u22::u23::u24::u25::u26::u27::u28::u29::u30::u31::u32::u33::u34::u35::u36::u37::u38::u39::u40::u41::u42::u43::u44::u45::u46::u47::u48::u49::u50::u51::u52::u53::u54::u55::u56::u57::u58::u59::u60::u61::u62::u63::u64::u65::u66::u67::u68::u69::u70::u71::u72::u73::u74::u75::u76::u77::u78::u79::u80::u81::u82::u83::u84::u85::u86::u87::u88::u89::u90::u91::u92::u93::u94::u95::u96::u97::u98::u99::u100::u101::u102::u103::u104::u105::u106::u107::u108::u109::u110::u111::u112::u113::u114::u115::u116::u117::u118::u119::u120::u121::u122::u123::u124::u125::u126::u127::u128::u129::u130::u131::u132::u133::u134::u135::u136::u137::u138::u139::u140::u141::u142::u143::u144::u145::u146::u147::u148::u149::u150::u151::u152::u153::u154::u155::u156::u157::u158::u159::u160::u161::u162::u163::u164::u165::u166::u167::u168::u169::u170::u171::u172::u173::u174::u175::u176::u177::u178::u179::u180::u181::u182::u183::u184::u185::u186::u187::u188::u189::u190::u191::u192::u193::u194::[])), []⟩ w0 := by
  conv => arg 2; whnf
  conv at hK9 => intro a w; arg 1; arg 2; whnf
  have HEND := Lib.hid hend
  have HS := Lib.hid hs
  clear hend hs
  go_wp2
  go_loopw [2] (fun i wr => ∃ k : Nat, i = .int .i64 (k : Int) ∧ k ≤ 11 ∧ Only (fun _ => False) w0 wr) (fun i _ => 11 - (intOf i).toNat)
  case atStart => exact ⟨0, rfl, by omega, Only.refl _ _⟩
  case round =>
    obtain ⟨k, rfl, hk, ho⟩ := hrel
    have O1 := Lib.hid ho
    clear ho
    by_cases hkK : k < 11
    · have hkI : (k : Int) < 11 := by omega
      go_upto_region 8 with (first
        | (go_at_call 40; refine (example_is s _ HS.out).mono ?_; rintro e w2 ⟨m1, p1, o1, s1, rfl, hd2, ho2⟩; have O2 := Lib.hid (O1.out.trans ho2 (fun _ _ e => e)); have D2 := Lib.hid hd2; clear hd2 ho2)
        | (go_at_call 39; refine (odd_is m1 p1 o1 s1 k _ D2.out hkK).mono ?_; rintro e w3 ⟨m, p2, o2, s2, rfl, hd3, ho3⟩; have O3 := Lib.hid (O2.out.trans ho3 (fun _ _ e => e)); have D3 := Lib.hid hd3; clear hd3 ho3)
        | (refine wpList_store_is rfl 27 _ _ rfl w3.heap.size (m.cls p2 o2 s2) rfl rfl 27 _ (Is.made w3 _ _) Try.sizeMe rfl (Ms.one m (by obtain ⟨x, y, h, -⟩ := D3.out.rd.p; exact ⟨_, _, _, h⟩) (by obtain ⟨x, y, h, -⟩ := D3.out.rd.o; exact ⟨_, _, _, h⟩) (by obtain ⟨x, y, h, -⟩ := D3.out.rd.s; exact ⟨_, _, _, h⟩)) ?_; intro w4 hi4 ho4; have o4 := fb_made ho4; have I4 := Lib.hid hi4; have O4 := Lib.hid (O3.out.trans o4 (fun _ _ e => e)); have D4 := Lib.hid (D3.out.only o4); clear hi4 ho4 o4))
      obtain ⟨mb, hmb⟩ : ∃ k, w3.heap.size = k := ⟨_, rfl⟩
      rw [hmb] at I4 ⊢
      clear hmb D2 D3 O2 O3 O1
      refine fn8 s k mb m p2 o2 s2 HS.out (by omega) _ _ _ _ _ _ _ _ _ _ _ _ _ _ _ _ _ _ _ _ _ _ _ _ _ _ _ _ _ _ _ _ _ _ _ _ _ _ _ _ _ _ _ _ _ _ _ _ _ _ _ _ _ _ _ _ _ _ _ _ _ _ _ _ _ _ _ _ _ _ _ _ _ _ _ _ _ _ _ _ _ _ _ _ _ _ _ _ _ _ _ _ _ _ _ _ _ _ _ _ _ _ _ _ _ _ _ _ _ _ _ _ _ _ _ _ _ _ _ _ _ _ _ _ _ _ _ _ _ _ _ _ _ _ _ _ _ _ _ _ _ _ _ _ _ _ _ _ _ _ _ _ _ _ _ _ _ _ _ _ _ _ _ _ _ _ _ _ _ _ _ _ _ _ _ _ _ _ _ _ _ _ _ _ _ _ _ _ _ _ _ _ _ w4 I4.out D4.out ?_
      rintro y25 y26 y27 y28 y29 y30 y31 y32 y33 y34 y35 y36 w5 ho5
      have O5 := Lib.hid (O4.out.trans ho5 (fun _ _ e => e))
      clear ho5 D4 I4 O4
      go_wp2
      exact ⟨⟨k + 1, by go_num, by omega, O5.out⟩, by simp [intOf]; omega⟩
    · have hkI : ¬ (k : Int) < 11 := by omega
      clear hkK hk
      go_wp2_with fail
      exact HEND.out _ _ _ _ _ _ _ _ _ _ _ _ _ _ _ _ _ _ _ _ _ _ _ _ _ O1.out
end Go.Proofs.Ytefcimkopgcagaa
