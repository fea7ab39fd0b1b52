/- FeedbackKnown: packets with bodies turned. Conditions: as each says. -/
import Derived.Test.YtefcimkopgcagaaFfD
import Derived.Laws.BitsAllLaws
set_option linter.unusedVariables false
set_option linter.unusedSimpArgs false
namespace Go.Proofs.Ytefcimkopgcagaa
open Go.RowKit

def fn16_A : List (List Nat) := ([]::[0]::[1, 0]::[2, 1, 0]::[3, 2, 1, 0]::[4, 3, 2, 1, 0]::[5, 3, 4, 2, 1, 0]::[3, 6, 2, 1, 0, 5, 4]::(7::5::3::6::2::1::0::4::[])::(8::7::5::3::6::2::1::0::4::[])::(8::7::5::3::6::2::1::0::4::[])::(9::10::8::7::5::3::6::2::1::0::4::[])::(11::8::9::10::7::5::3::6::2::1::0::4::[])::(8::12::7::5::3::6::2::1::0::4::11::9::10::[])::(13::11::8::12::7::5::3::6::2::1::0::4::9::10::[])::(14::13::11::8::12::7::5::3::6::2::1::0::4::9::10::[])::(15::14::13::11::8::12::7::5::3::6::2::1::0::4::9::10::[])::(14::13::11::8::12::7::5::3::6::2::1::0::4::9::10::[])::(16::17::14::15::13::11::8::12::7::5::3::6::2::1::0::4::9::10::[])::(18::14::16::17::15::13::11::8::12::7::5::3::6::2::1::0::4::9::10::[])::(14::19::13::11::8::12::7::5::3::6::2::1::0::4::9::10::18::16::17::15::[])::[])
def fn16_kill : List (List Nat) := ([]::[]::[]::[]::[]::[]::[]::[]::[]::[]::[]::[]::[]::[]::[]::[]::[]::[]::[]::[]::[]::[])
def fn16_uses : List (List Nat) := ([]::[]::[]::[]::[]::[]::[]::[]::[]::[]::[]::[]::[]::[]::[]::[]::[]::[]::[16]::[]::[]::[])
noncomputable def fn16_code : Code := ((Try.f7.body.bind (codeRegion 16)).getD .skip)
set_option maxRecDepth 100000 in
set_option maxHeartbeats 4000000 in
theorem fn16_in (s ct kd pb qb : Nat) (v1 v2 : Value) (b1 b2 : List Nat) (hs : s < 256) (hb1 : ∀ x ∈ b1, x < 256) (hb2 : ∀ x ∈ b2, x < 256) (u0 u2 u3 u4 u5 u6 u9 u10 u11 u12 u13 u14 u15 u16 u17 u18 u19 u20 u21 u22 u23 u24 u25 u26 u27 u28 u29 u30 u31 u32 u33 u34 u35 u36 u37 u38 u39 u40 u41 u42 u43 u44 u45 u46 u47 u48 u49 u50 u51 u52 u53 u54 u55 u56 u57 u58 u59 u60 u61 u62 u63 u64 u65 u66 u67 u68 u69 u70 u71 u72 u73 u74 u75 u76 u77 u78 u79 u80 u81 u82 u83 u84 u85 u86 u87 u88 u89 u90 u91 u92 u93 u94 u95 u96 u97 u98 u99 u100 u101 u102 u103 u104 u105 u106 u107 u108 u109 u110 u111 u112 u113 u114 u115 u116 u117 u118 u119 u120 u121 u122 u123 u124 u125 u126 u127 u128 u129 u130 u131 u132 u133 u134 u135 u136 u137 u138 u139 u140 u141 u142 u143 u144 u145 u146 u147 u148 u149 u150 u151 u152 u153 u154 u155 u156 u157 u158 u159 u160 u161 u162 u163 u164 u165 u166 u167 u168 u169 u170 u171 u172 u173 u174 u175 u176 u177 u178 u179 u180 u181 u182 u183 u184 u185 u186 u187 u188 u189 u190 u191 u192 u193 u194 : Value) (w0 : World) (hP : Is w0 pb 41 #[.int .u8 (ct : Nat), .int .u8 (kd : Nat), v1, .int .u8 (0 : Nat)]) (hQ : Is w0 qb 41 #[.int .u8 (ct : Nat), .int .u8 (kd : Nat), v2, .int .u8 (4 : Nat)]) (hs1 : Src w0 v1 b1) (hs2 : Src w0 v2 b2) :
    Code.wp Try.prog fn16_code (fun e a w' => ∃ y74 y75 y76 y77 y78 y79 y80 y81 y82 y83 y84 y85 y86 y87 y88 y89 y90 y91 y92 y93 : Value, a = ⟨(List.toArray (u0::.int .u8 (s : Nat)::u2::u3::u4::u5::u6::.pointer (some ⟨pb, 0, none⟩)::.pointer (some ⟨qb, 0, none⟩)::u9::u10::u11::u12::u13::u14::u15::u16::u17::u18::u19::u20::u21::u22::u23::u24::u25::u26::u27::u28::u29::u30::u31::u32::u33::u34::u35::u36::u37::u38::u39::u40::u41::u42::u43::u44::u45::u46::u47::u48::u49::u50::u51::u52::u53::u54::u55::u56::u57::u58::u59::u60::u61::u62::u63::u64::u65::u66::u67::u68::u69::u70::u71::u72::u73::y74::y75::y76::y77::y78::y79::y80::y81::y82::y83::y84::y85::y86::y87::y88::y89::y90::y91::y92::y93::.bool false::u95::u96::u97::u98::u99::u100::u101::u102::u103::u104::u105::u106::u107::u108::u109::u110::u111::u112::u113::u114::u115::u116::u117::u118::u119::u120::u121::u122::u123::u124::u125::u126::u127::u128::u129::u130::u131::u132::u133::u134::u135::u136::u137::u138::u139::u140::u141::u142::u143::u144::u145::u146::u147::u148::u149::u150::u151::u152::u153::u154::u155::u156::u157::u158::u159::u160::u161::u162::u163::u164::u165::u166::u167::u168::u169::u170::u171::u172::u173::u174::u175::u176::u177::u178::u179::u180::u181::u182::u183::u184::u185::u186::u187::u188::u189::u190::u191::u192::u193::u194::[])), []⟩ ∧ e = .normal ∧ Only (fun _ => False) w0 w') ⟨(List.toArray (u0::.int .u8 (s : Nat)::u2::u3::u4::u5::u6::.pointer (some ⟨pb, 0, none⟩)::.pointer (some ⟨qb, 0, none⟩)::u9::u10::u11::u12::u13::u14::u15::u16::u17::u18::u19::u20::u21::u22::u23::u24::u25::u26::u27::u28::u29::u30::u31::u32::u33::u34::u35::u36::u37::u38::u39::u40::u41::u42::u43::u44::u45::u46::u47::u48::u49::u50::u51::u52::u53::u54::u55::u56::u57::u58::u59::u60::u61::u62::u63::u64::u65::u66::u67::u68::u69::u70::u71::u72::u73::u74::u75::u76::u77::u78::u79::u80::u81::u82::u83::u84::u85::u86::u87::u88::u89::u90::u91::u92::u93::u94::u95::u96::u97::u98::u99::u100::u101::u102::u103::u104::u105::u106::u107::u108::u109::u110::u111::u112::u113::u114::u115::u116::u117::u118::u119::u120::u121::u122::u123::u124::u125::u126::u127::u128::u129::u130::u131::u132::u133::u134::u135::u136::u137::u138::u139::u140::u141::u142::u143::u144::u145::u146::u147::u148::u149::u150::u151::u152::u153::u154::u155::u156::u157::u158::u159::u160::u161::u162::u163::u164::u165::u166::u167::u168::u169::u170::u171::u172::u173::u174::u175::u176::u177::u178::u179::u180::u181::u182::u183::u184::u185::u186::u187::u188::u189::u190::u191::u192::u193::u194::[])), []⟩ w0 := by
  conv => arg 2; whnf
  have HP := Lib.hid hP
  have HQ := Lib.hid hQ
  have HR1 := Lib.hid (fun (wx : World) (h : Only (fun _ => False) w0 wx) => freads_walk kd ct 0 v1 b1 wx (hs1.of_only h) hb1)
  have HR2 := Lib.hid (fun (wx : World) (h : Only (fun _ => False) w0 wx) => freads_walk kd ct 4 v2 b2 wx (hs2.of_only h) hb2)
  have HB1 := Lib.hid (fun (wx : World) (h : Only (fun _ => False) w0 wx) => fback_walk ms0 (.slice none 0 0) (.slice none 0 0) (.slice none 0 0) kd ct 0 0 v1 (.slice none 0 0) b1 [] wx (rdm0 wx) ⟨by show 0 < 256; omega, by show 0 < 4294967296; omega, by show 0 < 4294967296; omega, by show 0 < 256; omega, by show 0 < 4294967296; omega, by simp [ms0], by simp [ms0], by simp [ms0]⟩ (hs1.of_only h) hb1 (Rd.nil _ _) (by simp) (by omega))
  have HEX := Lib.hid (fun (wx : World) (h : Only (fun _ => False) w0 wx) => example_is s wx hs)
  have HB2 := Lib.hid (fun (wx : World) (h : Only (fun _ => False) w0 wx) (m' : Ms) (vp vo vs : Value) (hd : Msg m' vp vo vs wx) => fback_walk m' vp vo vs kd ct 4 0 v2 (.slice none 0 0) b2 [] wx hd.rd hd.fit (hs2.of_only h) hb2 (Rd.nil _ _) (by simp) (by omega))
  unfold GotM at HEX
  clear hP hQ hs1 hs2 hs hb1 hb2
  refine wp_region_posts fn16_A [1, 5, 11, 16, 18] [16] fn16_kill fn16_uses [] [] [] []
      (some ?v0::some (.bool true)::some ?v2::some ?v3::some ?v4::some (.bool true)::some ?v6::some ?v7::some ?v8::some ?v9::some ?v10::some (.bool true)::some ?v12::some ?v13::some ?v14::some ?v15::none::some ?v17::some (.bool true)::some ?v19::some ?v20::[])
      ?T (fun wx => Only (fun _ => False) w0 wx) ?W ?E (by kernel_rfl) (by kernel_rfl) (by kernel_rfl) (fun x => ?hT) ?hF ?hini (Reg.all_ops ?runs) ?pres ?fin
  case W => exact fun j x wz => match j with | 16 => ∃ m vp vo vs, x 16 = .agg (m.cls vp vo vs) ∧ Msg m vp vo vs wz | _ => True
  case E => exact fun _ wx wy => Only (fun _ => False) wx wy
  case hT =>
    simp only [Reg.fillV, Act.put, List.setIfInBounds_toArray, List.set_cons_zero, List.set_cons_succ]
    rfl
  case runs =>
    refine And.intro ?_ ?_
    · refine Reg.ob_pure (fun _ => rfl) rfl rfl rfl rfl (fun x w1 hF => ?_)
      have hQX := HP.out.only hF (by simp)
      have m0 := hQX.cell 0
      have m1 := hQX.cell 1
      have m2 := hQX.cell 2
      have m3 := hQX.cell 3
      simp at m0 m1 m2 m3
      clear hQX
      go_simp
      with_reducible rfl
    refine And.intro ?_ ?_
    · refine Reg.ob_known (fun _ => rfl) rfl rfl (fun x w1 hF hU K hK => ?_)
      have hF := hF rfl
      go_simp
      refine (HR1.out w1 hF).mono ?_
      rintro e w5 ⟨rfl, ho⟩
      exact hK _ (fun _ _ _ => hF.trans ho (fun _ _ e => e)) ho
    refine And.intro ?_ ?_
    · refine Reg.ob_pure (fun _ => rfl) rfl rfl rfl rfl (fun x w1 hF => ?_)
      go_simp
      with_reducible rfl
    refine And.intro ?_ ?_
    · refine Reg.ob_pure (fun _ => rfl) rfl rfl rfl rfl (fun x w1 hF => ?_)
      go_simp
      with_reducible rfl
    refine And.intro ?_ ?_
    · refine Reg.ob_pure (fun _ => rfl) rfl rfl rfl rfl (fun x w1 hF => ?_)
      have hQX := HQ.out.only hF (by simp)
      have m0 := hQX.cell 0
      have m1 := hQX.cell 1
      have m2 := hQX.cell 2
      have m3 := hQX.cell 3
      simp at m0 m1 m2 m3
      clear hQX
      go_simp
      with_reducible rfl
    refine And.intro ?_ ?_
    · refine Reg.ob_known (fun _ => rfl) rfl rfl (fun x w1 hF hU K hK => ?_)
      have hF := hF rfl
      go_simp
      refine (HR2.out w1 hF).mono ?_
      rintro e w5 ⟨rfl, ho⟩
      exact hK _ (fun _ _ _ => hF.trans ho (fun _ _ e => e)) ho
    refine And.intro ?_ ?_
    · refine Reg.ob_pure (fun _ => rfl) rfl rfl rfl rfl (fun x w1 hF => ?_)
      go_simp
      with_reducible rfl
    refine And.intro ?_ ?_
    · refine Reg.ob_pure (fun _ => rfl) rfl rfl rfl rfl (fun x w1 hF => ?_)
      go_simp
      with_reducible rfl
    refine And.intro ?_ ?_
    · refine Reg.ob_pure (fun _ => rfl) rfl rfl rfl rfl (fun x w1 hF => ?_)
      go_simp
      with_reducible rfl
    refine And.intro ?_ ?_
    · refine Reg.ob_pure (fun _ => rfl) rfl rfl rfl rfl (fun x w1 hF => ?_)
      go_simp
      with_reducible rfl
    refine And.intro ?_ ?_
    · refine Reg.ob_pure (fun _ => rfl) rfl rfl rfl rfl (fun x w1 hF => ?_)
      have hQX := HP.out.only hF (by simp)
      have m0 := hQX.cell 0
      have m1 := hQX.cell 1
      have m2 := hQX.cell 2
      have m3 := hQX.cell 3
      simp at m0 m1 m2 m3
      clear hQX
      go_simp
      with_reducible rfl
    refine And.intro ?_ ?_
    · refine Reg.ob_known (fun _ => rfl) rfl rfl (fun x w1 hF hU K hK => ?_)
      have hF := hF rfl
      go_simp
      refine (HB1.out w1 hF).mono ?_
      rintro e w5 ⟨rfl, ho⟩
      exact hK _ (fun _ _ _ => hF.trans ho (fun _ _ e => e)) ho
    refine And.intro ?_ ?_
    · refine Reg.ob_pure (fun _ => rfl) rfl rfl rfl rfl (fun x w1 hF => ?_)
      go_simp
      with_reducible rfl
    refine And.intro ?_ ?_
    · refine Reg.ob_pure (fun _ => rfl) rfl rfl rfl rfl (fun x w1 hF => ?_)
      go_simp
      with_reducible rfl
    refine And.intro ?_ ?_
    · refine Reg.ob_pure (fun _ => rfl) rfl rfl rfl rfl (fun x w1 hF => ?_)
      go_simp
      with_reducible rfl
    refine And.intro ?_ ?_
    · refine Reg.ob_pure (fun _ => rfl) rfl rfl rfl rfl (fun x w1 hF => ?_)
      go_simp
      with_reducible rfl
    refine And.intro ?_ ?_
    · refine Reg.ob_some (fun _ => rfl) rfl (fun x w1 hF hU K hK => ?_)
      have hF := hF rfl
      go_simp
      refine (HEX.out w1 hF).mono ?_
      rintro e w5 ⟨m', vp, vo, vs, rfl, hd, ho⟩
      exact hK _ w5 (fun _ _ _ => hF.trans ho (fun _ _ e => e)) ho ⟨m', vp, vo, vs, rfl, hd⟩
    refine And.intro ?_ ?_
    · refine Reg.ob_pure (fun _ => rfl) rfl rfl rfl rfl (fun x w1 hF => ?_)
      have hQX := HQ.out.only hF (by simp)
      have m0 := hQX.cell 0
      have m1 := hQX.cell 1
      have m2 := hQX.cell 2
      have m3 := hQX.cell 3
      simp at m0 m1 m2 m3
      clear hQX
      go_simp
      with_reducible rfl
    refine And.intro ?_ ?_
    · refine Reg.ob_known (fun _ => rfl) rfl rfl (fun x w1 hF hU K hK => ?_)
      have hF := hF rfl
      obtain ⟨⟨m', vp, vo, vs, hx, hd⟩, -⟩ := hU
      have hx : x 16 = .agg (m'.cls vp vo vs) := hx
      revert hK
      simp only [Nat.reduceAdd, hx]
      intro hK
      go_simp
      refine (HB2.out w1 hF m' vp vo vs hd).mono ?_
      rintro e w5 ⟨rfl, ho⟩
      exact hK _ (fun _ _ _ => hF.trans ho (fun _ _ e => e)) ho
    refine And.intro ?_ ?_
    · refine Reg.ob_pure (fun _ => rfl) rfl rfl rfl rfl (fun x w1 hF => ?_)
      go_simp
      with_reducible rfl
    refine And.intro ?_ ?_
    · refine Reg.ob_pure (fun _ => rfl) rfl rfl rfl rfl (fun x w1 hF => ?_)
      go_simp
      with_reducible rfl
    exact trivial
  case hF =>
    exact (Only.refl _ w0).drewN 1
  case hini =>
    exact trivial
  case pres =>
    intro i hi j hj hc x wx wy hF hE hW
    simp only [List.mem_cons, List.mem_nil_iff, or_false] at hj
    subst hj
    obtain ⟨m', vp, vo, vs, h1, h2⟩ := hW
    exact ⟨m', vp, vo, vs, h1, Msg.only h2 hE⟩
  case fin =>
    rintro x w9 hF hU
    repeat apply Exists.intro
    exact ⟨rfl, rfl, hF rfl⟩

set_option maxRecDepth 100000 in
set_option maxHeartbeats 4000000 in
theorem fn16 (s ct kd pb qb : Nat) (v1 v2 : Value) (b1 b2 : List Nat) (hs : s < 256) (hb1 : ∀ x ∈ b1, x < 256) (hb2 : ∀ x ∈ b2, x < 256) (u0 u2 u3 u4 u5 u6 u9 u10 u11 u12 u13 u14 u15 u16 u17 u18 u19 u20 u21 u22 u23 u24 u25 u26 u27 u28 u29 u30 u31 u32 u33 u34 u35 u36 u37 u38 u39 u40 u41 u42 u43 u44 u45 u46 u47 u48 u49 u50 u51 u52 u53 u54 u55 u56 u57 u58 u59 u60 u61 u62 u63 u64 u65 u66 u67 u68 u69 u70 u71 u72 u73 u74 u75 u76 u77 u78 u79 u80 u81 u82 u83 u84 u85 u86 u87 u88 u89 u90 u91 u92 u93 u94 u95 u96 u97 u98 u99 u100 u101 u102 u103 u104 u105 u106 u107 u108 u109 u110 u111 u112 u113 u114 u115 u116 u117 u118 u119 u120 u121 u122 u123 u124 u125 u126 u127 u128 u129 u130 u131 u132 u133 u134 u135 u136 u137 u138 u139 u140 u141 u142 u143 u144 u145 u146 u147 u148 u149 u150 u151 u152 u153 u154 u155 u156 u157 u158 u159 u160 u161 u162 u163 u164 u165 u166 u167 u168 u169 u170 u171 u172 u173 u174 u175 u176 u177 u178 u179 u180 u181 u182 u183 u184 u185 u186 u187 u188 u189 u190 u191 u192 u193 u194 : Value) (Q : Exit → Act → World → Prop) (w0 : World) (hP : Is w0 pb 41 #[.int .u8 (ct : Nat), .int .u8 (kd : Nat), v1, .int .u8 (0 : Nat)]) (hQ : Is w0 qb 41 #[.int .u8 (ct : Nat), .int .u8 (kd : Nat), v2, .int .u8 (4 : Nat)]) (hs1 : Src w0 v1 b1) (hs2 : Src w0 v2 b2)
    (hend : ∀ (y74 y75 y76 y77 y78 y79 y80 y81 y82 y83 y84 y85 y86 y87 y88 y89 y90 y91 y92 y93 : Value) (w' : World), Only (fun _ => False) w0 w' → Q .normal ⟨(List.toArray (u0::.int .u8 (s : Nat)::u2::u3::u4::u5::u6::.pointer (some ⟨pb, 0, none⟩)::.pointer (some ⟨qb, 0, none⟩)::u9::u10::u11::u12::u13::u14::u15::u16::u17::u18::u19::u20::u21::u22::u23::u24::u25::u26::u27::u28::u29::u30::u31::u32::u33::u34::u35::u36::u37::u38::u39::u40::u41::u42::u43::u44::u45::u46::u47::u48::u49::u50::u51::u52::u53::u54::u55::u56::u57::u58::u59::u60::u61::u62::u63::u64::u65::u66::u67::u68::u69::u70::u71::u72::u73::y74::y75::y76::y77::y78::y79::y80::y81::y82::y83::y84::y85::y86::y87::y88::y89::y90::y91::y92::y93::.bool false::u95::u96::u97::u98::u99::u100::u101::u102::u103::u104::u105::u106::u107::u108::u109::u110::u111::u112::u113::u114::u115::u116::u117::u118::u119::u120::u121::u122::u123::u124::u125::u126::u127::u128::u129::u130::u131::u132::u133::u134::u135::u136::u137::u138::u139::u140::u141::u142::u143::u144::u145::u146::u147::u148::u149::u150::u151::u152::u153::u154::u155::u156::u157::u158::u159::u160::u161::u162::u163::u164::u165::u166::u167::u168::u169::u170::u171::u172::u173::u174::u175::u176::u177::u178::u179::u180::u181::u182::u183::u184::u185::u186::u187::u188::u189::u190::u191::u192::u193::u194::[])), []⟩ w') :
    Code.wp Try.prog fn16_code Q ⟨(List.toArray (u0::.int .u8 (s : Nat)::u2::u3::u4::u5::u6::.pointer (some ⟨pb, 0, none⟩)::.pointer (some ⟨qb, 0, none⟩)::u9::u10::u11::u12::u13::u14::u15::u16::u17::u18::u19::u20::u21::u22::u23::u24::u25::u26::u27::u28::u29::u30::u31::u32::u33::u34::u35::u36::u37::u38::u39::u40::u41::u42::u43::u44::u45::u46::u47::u48::u49::u50::u51::u52::u53::u54::u55::u56::u57::u58::u59::u60::u61::u62::u63::u64::u65::u66::u67::u68::u69::u70::u71::u72::u73::u74::u75::u76::u77::u78::u79::u80::u81::u82::u83::u84::u85::u86::u87::u88::u89::u90::u91::u92::u93::u94::u95::u96::u97::u98::u99::u100::u101::u102::u103::u104::u105::u106::u107::u108::u109::u110::u111::u112::u113::u114::u115::u116::u117::u118::u119::u120::u121::u122::u123::u124::u125::u126::u127::u128::u129::u130::u131::u132::u133::u134::u135::u136::u137::u138::u139::u140::u141::u142::u143::u144::u145::u146::u147::u148::u149::u150::u151::u152::u153::u154::u155::u156::u157::u158::u159::u160::u161::u162::u163::u164::u165::u166::u167::u168::u169::u170::u171::u172::u173::u174::u175::u176::u177::u178::u179::u180::u181::u182::u183::u184::u185::u186::u187::u188::u189::u190::u191::u192::u193::u194::[])), []⟩ w0 := by
  refine wp_mono (fn16_in s ct kd pb qb v1 v2 b1 b2 hs hb1 hb2 _ _ _ _ _ _ _ _ _ _ _ _ _ _ _ _ _ _ _ _ _ _ _ _ _ _ _ _ _ _ _ _ _ _ _ _ _ _ _ _ _ _ _ _ _ _ _ _ _ _ _ _ _ _ _ _ _ _ _ _ _ _ _ _ _ _ _ _ _ _ _ _ _ _ _ _ _ _ _ _ _ _ _ _ _ _ _ _ _ _ _ _ _ _ _ _ _ _ _ _ _ _ _ _ _ _ _ _ _ _ _ _ _ _ _ _ _ _ _ _ _ _ _ _ _ _ _ _ _ _ _ _ _ _ _ _ _ _ _ _ _ _ _ _ _ _ _ _ _ _ _ _ _ _ _ _ _ _ _ _ _ _ _ _ _ _ _ _ _ _ _ _ _ _ _ _ _ _ _ _ _ _ _ _ _ _ _ _ _ _ _ _ w0 hP hQ hs1 hs2) ?_
  rintro e a w' h
  obtain ⟨y74, h⟩ := h
  obtain ⟨y75, h⟩ := h
  obtain ⟨y76, h⟩ := h
  obtain ⟨y77, h⟩ := h
  obtain ⟨y78, h⟩ := h
  obtain ⟨y79, h⟩ := h
  obtain ⟨y80, h⟩ := h
  obtain ⟨y81, h⟩ := h
  obtain ⟨y82, h⟩ := h
  obtain ⟨y83, h⟩ := h
  obtain ⟨y84, h⟩ := h
  obtain ⟨y85, h⟩ := h
  obtain ⟨y86, h⟩ := h
  obtain ⟨y87, h⟩ := h
  obtain ⟨y88, h⟩ := h
  obtain ⟨y89, h⟩ := h
  obtain ⟨y90, h⟩ := h
  obtain ⟨y91, h⟩ := h
  obtain ⟨y92, h⟩ := h
  obtain ⟨y93, h⟩ := h
  obtain ⟨h, rfl, hq⟩ := h
  subst h
  exact hend y74 y75 y76 y77 y78 y79 y80 y81 y82 y83 y84 y85 y86 y87 y88 y89 y90 y91 y92 y93 w' hq
def fn19_A : List (List Nat) := ([]::[0]::[]::[2]::[]::[4]::[5, 4]::[3, 6, 2, 5, 4]::[]::[8]::[9, 8]::(1::7::10::0::3::6::2::5::4::9::8::[])::[]::(12::11::10::0::1::2::3::4::5::6::7::8::9::[])::[])
def fn19_kill : List (List Nat) := ([]::[]::[]::[]::[]::[]::[]::[]::[]::[]::[]::[]::[]::[10, 11, 12]::[])
def fn19_uses : List (List Nat) := ([]::[]::[]::[]::[]::[]::[]::[]::[]::[]::[]::[10]::[]::[12, 11]::[])
noncomputable def fn19_code : Code := ((Try.f7.body.bind (codeRegion 19)).getD .skip)
set_option maxRecDepth 100000 in
set_option maxHeartbeats 4000000 in
theorem fn19_in (ct kd L c n xb B : Nat) (n2 c2 : Nat) (hn2 : n2 = n % 2) (hc2 : c2 = (ct + n2) % 256) (A : Option Addr) (bs : List Nat) (hn : n ≤ L) (hL : bs.length = L) (hl : L ≤ 100000) (u0 u1 u2 u3 u5 u7 u8 u9 u10 u11 u12 u13 u14 u15 u16 u17 u18 u19 u20 u21 u22 u23 u24 u25 u26 u27 u28 u29 u30 u31 u32 u33 u34 u35 u36 u37 u38 u39 u40 u41 u42 u43 u44 u45 u46 u47 u48 u49 u50 u51 u52 u53 u54 u55 u56 u57 u58 u59 u60 u61 u62 u63 u64 u65 u66 u67 u68 u69 u70 u71 u72 u73 u74 u75 u76 u77 u78 u79 u80 u81 u82 u83 u84 u85 u86 u87 u88 u89 u90 u91 u92 u93 u94 u95 u96 u97 u98 u99 u100 u101 u102 u103 u104 u105 u106 u107 u108 u109 u110 u111 u112 u113 u114 u115 u116 u117 u118 u119 u120 u121 u122 u123 u124 u125 u126 u127 u128 u129 u130 u131 u132 u133 u134 u135 u136 u137 u138 u139 u140 u141 u142 u143 u144 u145 u146 u147 u148 u149 u150 u151 u152 u153 u154 u155 u156 u157 u158 u159 u160 u161 u162 u163 u164 u165 u166 u167 u168 u169 u170 u171 u172 u173 u174 u175 u176 u177 u178 u179 u180 u181 u182 u183 u184 u185 u186 u187 u188 u189 u190 u191 u192 u193 u194 : Value) (w0 : World) (hX : Is w0 xb 37 #[.int .u8 (ct : Nat), .int .u8 (kd : Nat), .slice A L c, .int .u8 (0 : Nat)]) (hU0 : w0.ownsRow B 5 1 (.slice A L c) L (cellsOf bs)) :
    Code.wp Try.prog fn19_code (fun e a w' => ∃ y9 y100 y101 y102 y103 y104 y105 y106 y107 y108 y109 y110 y111 : Value, a = ⟨(List.toArray (u0::u1::u2::u3::.pointer (some ⟨xb, 0, none⟩)::u5::.int .i64 (n : Nat)::u7::u8::y9::u10::u11::u12::u13::u14::u15::u16::u17::u18::u19::u20::u21::u22::u23::u24::u25::u26::u27::u28::u29::u30::u31::u32::u33::u34::u35::u36::u37::u38::u39::u40::u41::u42::u43::u44::u45::u46::u47::u48::u49::u50::u51::u52::u53::u54::u55::u56::u57::u58::u59::u60::u61::u62::u63::u64::u65::u66::u67::u68::u69::u70::u71::u72::u73::u74::u75::u76::u77::u78::u79::u80::u81::u82::u83::u84::u85::u86::u87::u88::u89::u90::u91::u92::u93::u94::u95::u96::u97::u98::u99::y100::y101::y102::y103::y104::y105::y106::y107::y108::y109::y110::y111::u112::u113::u114::u115::u116::u117::u118::u119::u120::u121::u122::u123::u124::u125::u126::u127::u128::u129::u130::u131::u132::u133::u134::u135::u136::u137::u138::u139::u140::u141::u142::u143::u144::u145::u146::u147::u148::u149::u150::u151::u152::u153::u154::u155::u156::u157::u158::u159::u160::u161::u162::u163::u164::u165::u166::u167::u168::u169::u170::u171::u172::u173::u174::u175::u176::u177::u178::u179::u180::u181::u182::u183::u184::u185::u186::u187::u188::u189::u190::u191::u192::u193::u194::[])), []⟩ ∧ e = .normal ∧ (∃ mb A2 cv, y9 = .pointer (some ⟨mb, 0, none⟩) ∧ w0.heap.size ≤ mb ∧ Is w' mb 41 #[.int .u8 (c2 : Nat), .int .u8 (kd : Nat), .slice A2 L cv, .int .u8 (0 : Nat)] ∧ w'.ownsRow w0.heap.size 5 1 (.slice A2 L cv) L (cellsOf bs) ∧ Only (fun _ => False) w0 w')) ⟨(List.toArray (u0::u1::u2::u3::.pointer (some ⟨xb, 0, none⟩)::u5::.int .i64 (n : Nat)::u7::u8::u9::u10::u11::u12::u13::u14::u15::u16::u17::u18::u19::u20::u21::u22::u23::u24::u25::u26::u27::u28::u29::u30::u31::u32::u33::u34::u35::u36::u37::u38::u39::u40::u41::u42::u43::u44::u45::u46::u47::u48::u49::u50::u51::u52::u53::u54::u55::u56::u57::u58::u59::u60::u61::u62::u63::u64::u65::u66::u67::u68::u69::u70::u71::u72::u73::u74::u75::u76::u77::u78::u79::u80::u81::u82::u83::u84::u85::u86::u87::u88::u89::u90::u91::u92::u93::u94::u95::u96::u97::u98::u99::u100::u101::u102::u103::u104::u105::u106::u107::u108::u109::u110::u111::u112::u113::u114::u115::u116::u117::u118::u119::u120::u121::u122::u123::u124::u125::u126::u127::u128::u129::u130::u131::u132::u133::u134::u135::u136::u137::u138::u139::u140::u141::u142::u143::u144::u145::u146::u147::u148::u149::u150::u151::u152::u153::u154::u155::u156::u157::u158::u159::u160::u161::u162::u163::u164::u165::u166::u167::u168::u169::u170::u171::u172::u173::u174::u175::u176::u177::u178::u179::u180::u181::u182::u183::u184::u185::u186::u187::u188::u189::u190::u191::u192::u193::u194::[])), []⟩ w0 := by
  conv => arg 2; whnf
  have HX := Lib.hid hX
  have HNL := Lib.hid hn
  have HU0 := Lib.hid hU0
  have HLL := Lib.hid hL
  have HA := Lib.hid (show (A = none ∧ L = 0 ∧ c = 0) ∨ ∃ g, A = some (⟨g, 0, none⟩ : Addr) from by
    rcases hU0.2 with ⟨e, _⟩ | ⟨g, cap, cur, e, _⟩
    · injection e with e1 e2 e3
      exact .inl ⟨e1, e2, e3⟩
    · injection e with e1 e2 e3
      exact .inr ⟨g, e1⟩)
  have HLC := Lib.hid (show L ≤ c from by
    rcases hU0.2 with ⟨e, h0⟩ | ⟨g, cap, cur, e, _, _, h3, _⟩
    · omega
    · injection e with e1 e2 e3
      omega)
  have HSU := Lib.hid (show Src w0 (.slice A L c) bs from Src.of_own (by rw [hL]; exact hU0))
  have e1 : (n : Int) % 2 = (n2 : Int) := by omega
  have e1t : (n : Int).tmod 2 = (n2 : Int) := by rw [Int.tmod_eq_emod_of_nonneg (by omega)]; exact e1
  have e2 : IntKind.u8.wrap (n2 : Int) = (n2 : Int) := by rw [IntKind.wrap_u8]; omega
  have e3 : IntKind.u8.wrap ((ct : Int) + (n2 : Int)) = (c2 : Int) := by rw [IntKind.wrap_u8]; omega
  clear hX hU0 hn hL hn2 hc2
  refine wp_region_posts fn19_A [10, 12, 13] [10, 11, 12, 13] fn19_kill fn19_uses [13] [] [] []
      (some ?v0::some ?v1::some ?v2::some ?v3::some ?v4::some (.int .i64 (n2 : Nat))::some (.int .u8 (n2 : Nat))::some (.int .u8 (c2 : Nat))::some ?v8::some ?v9::none::none::none::none::[])
      ?T (fun wx => Only (fun _ => False) w0 wx) ?W ?E (by kernel_rfl) (by kernel_rfl) (by kernel_rfl) (fun x => ?hT) ?hF ?hini (Reg.all_ops ?runs) ?pres ?fin
  case W => exact fun j x wz => match j with | 10 => ∃ A2 cv, x 10 = .slice A2 L cv ∧ wz.ownsRow w0.heap.size 5 1 (.slice A2 L cv) L (cellsOf bs) | 11 => ∃ A2 cv, x 11 = .agg #[.int .u8 (c2 : Nat), .int .u8 (kd : Nat), .slice A2 L cv, .int .u8 (0 : Nat)] ∧ wz.ownsRow w0.heap.size 5 1 (.slice A2 L cv) L (cellsOf bs) | 12 => ∃ mb, x 12 = .pointer (some ⟨mb, 0, none⟩) ∧ w0.heap.size ≤ mb ∧ Is wz mb 41 #[.int .u8 0, .int .u8 0, .slice none 0 0, .int .u8 0] | 13 => ∃ mb A2 cv, x 12 = .pointer (some ⟨mb, 0, none⟩) ∧ w0.heap.size ≤ mb ∧ Is wz mb 41 #[.int .u8 (c2 : Nat), .int .u8 (kd : Nat), .slice A2 L cv, .int .u8 (0 : Nat)] ∧ wz.ownsRow w0.heap.size 5 1 (.slice A2 L cv) L (cellsOf bs) | _ => True
  case E => exact fun i wx wy => match i with | 13 => True | _ => Only (fun _ => False) wx wy
  case hT =>
    simp only [Reg.fillV, Act.put, List.setIfInBounds_toArray, List.set_cons_zero, List.set_cons_succ]
    rfl
  case runs =>
    refine And.intro ?_ ?_
    · refine Reg.ob_pure (fun _ => rfl) rfl rfl rfl rfl (fun x w1 hF => ?_)
      have hQX := HX.out.only hF (by simp)
      have m0 := hQX.cell 0
      have m1 := hQX.cell 1
      have m2 := hQX.cell 2
      have m3 := hQX.cell 3
      simp at m0 m1 m2 m3
      clear hQX
      go_simp
      with_reducible rfl
    refine And.intro ?_ ?_
    · refine Reg.ob_pure (fun _ => rfl) rfl rfl rfl rfl (fun x w1 hF => ?_)
      have hQX := HX.out.only hF (by simp)
      have m0 := hQX.cell 0
      have m1 := hQX.cell 1
      have m2 := hQX.cell 2
      have m3 := hQX.cell 3
      simp at m0 m1 m2 m3
      clear hQX
      go_simp
      with_reducible rfl
    refine And.intro ?_ ?_
    · refine Reg.ob_pure (fun _ => rfl) rfl rfl rfl rfl (fun x w1 hF => ?_)
      have hQX := HX.out.only hF (by simp)
      have m0 := hQX.cell 0
      have m1 := hQX.cell 1
      have m2 := hQX.cell 2
      have m3 := hQX.cell 3
      simp at m0 m1 m2 m3
      clear hQX
      go_simp
      with_reducible rfl
    refine And.intro ?_ ?_
    · refine Reg.ob_pure (fun _ => rfl) rfl rfl rfl rfl (fun x w1 hF => ?_)
      have hQX := HX.out.only hF (by simp)
      have m0 := hQX.cell 0
      have m1 := hQX.cell 1
      have m2 := hQX.cell 2
      have m3 := hQX.cell 3
      simp at m0 m1 m2 m3
      clear hQX
      go_simp
      with_reducible rfl
    refine And.intro ?_ ?_
    · refine Reg.ob_pure (fun _ => rfl) rfl rfl rfl rfl (fun x w1 hF => ?_)
      have hQX := HX.out.only hF (by simp)
      have m0 := hQX.cell 0
      have m1 := hQX.cell 1
      have m2 := hQX.cell 2
      have m3 := hQX.cell 3
      simp at m0 m1 m2 m3
      clear hQX
      go_simp
      with_reducible rfl
    refine And.intro ?_ ?_
    · refine Reg.ob_pure (fun _ => rfl) rfl rfl rfl rfl (fun x w1 hF => ?_)
      go_simp
    refine And.intro ?_ ?_
    · refine Reg.ob_pure (fun _ => rfl) rfl rfl rfl rfl (fun x w1 hF => ?_)
      go_simp
    refine And.intro ?_ ?_
    · refine Reg.ob_pure (fun _ => rfl) rfl rfl rfl rfl (fun x w1 hF => ?_)
      go_simp
    refine And.intro ?_ ?_
    · refine Reg.ob_pure (fun _ => rfl) rfl rfl rfl rfl (fun x w1 hF => ?_)
      have hQX := HX.out.only hF (by simp)
      have m0 := hQX.cell 0
      have m1 := hQX.cell 1
      have m2 := hQX.cell 2
      have m3 := hQX.cell 3
      simp at m0 m1 m2 m3
      clear hQX
      go_simp
      with_reducible rfl
    refine And.intro ?_ ?_
    · refine Reg.ob_pure (fun _ => rfl) rfl rfl rfl rfl (fun x w1 hF => ?_)
      have hQX := HX.out.only hF (by simp)
      have m0 := hQX.cell 0
      have m1 := hQX.cell 1
      have m2 := hQX.cell 2
      have m3 := hQX.cell 3
      simp at m0 m1 m2 m3
      clear hQX
      go_simp
      with_reducible rfl
    refine And.intro ?_ ?_
    · refine Reg.ob_some (fun _ => rfl) rfl (fun x w1 hF hU K hK => ?_)
      have hQX := HX.out.only (hF rfl) (by simp)
      have m0 := hQX.cell 0
      have m1 := hQX.cell 1
      have m2 := hQX.cell 2
      have m3 := hQX.cell 3
      simp at m0 m1 m2 m3
      clear hQX
      replace hF := hF rfl
      have HT := kitown_is (.slice A L c) bs w1 w0.heap.size hF.size (HSU.out.of_only hF) (by have := HLL.out; omega)
      go_simp
      refine HT.mono ?_
      rintro e w5 ⟨v5, rfl, hown, ho, -⟩
      rw [length_cellsOf, HLL.out] at hown
      obtain ⟨A2, c2, rfl, -⟩ := own_slice hown
      exact hK _ w5 (fun _ _ _ => hF.trans ho (fun _ _ e => e)) ho ⟨A2, c2, rfl, hown⟩
    refine And.intro ?_ ?_
    · refine Reg.ob_some (fun _ => rfl) rfl (fun x w1 hF hU K hK => ?_)
      obtain ⟨⟨A3, c3, h10, hown⟩, -⟩ := hU
      have h10 : x 10 = .slice A3 L c3 := h10
      revert hK
      simp only [Nat.reduceAdd, h10]
      intro hK
      go_simp
      exact hK _ _ (fun h => by cases h) rfl ⟨A3, c3, rfl, hown⟩
    refine And.intro ?_ ?_
    · refine Reg.ob_some (fun _ => rfl) rfl (fun x w1 hF hU K hK => ?_)
      replace hF := hF rfl
      go_simp
      exact hK _ _ (fun _ _ _ => hF.alloc _) ((Only.refl _ _).alloc _) ⟨_, rfl, hF.size, Is.made _ _ _⟩
    refine And.intro ?_ ?_
    · refine Reg.ob_some (fun _ => rfl) rfl (fun x w1 hF hU K hK => ?_)
      replace hF := hF rfl
      obtain ⟨⟨mb, h9, hge, hI⟩, hq, -⟩ := hU
      have h9 : x 12 = .pointer (some ⟨mb, 0, none⟩) := h9
      obtain ⟨A2, cv, h11, hown⟩ := hq
      have h11 : x 11 = .agg #[.int .u8 (c2 : Nat), .int .u8 (kd : Nat), .slice A2 L cv, .int .u8 (0 : Nat)] := h11
      revert hK
      simp only [Nat.reduceAdd, h9, h11]
      intro hK
      refine wp_store_row 41 _ _ rfl mb #[.int .u8 (c2 : Nat), .int .u8 (kd : Nat), .slice A2 L cv, .int .u8 (0 : Nat)] rfl rfl 41 _ hI Try.sizeRt rfl (by simp [Value.oneCell']) ?_
      have ho : Only (fun k => k = mb) w1 (w1.setRow mb #[.int .u8 (c2 : Nat), .int .u8 (kd : Nat), .slice A2 L cv, .int .u8 (0 : Nat)]) := Only.setRow (S := fun k => k = mb) (Only.refl _ w1) (fun _ => rfl) _
      exact hK undef _ (fun _ _ _ => hF.trans ho (fun i hi e => by omega)) trivial ⟨mb, A2, cv, h9, hge, Is.setRow hI _, owned_only hown ho (fun k hk e => owned_off hown hI (by decide) (by rw [hk, e]))⟩
    exact trivial
  case hF =>
    exact (Only.refl _ w0).drewN 1
  case hini =>
    exact trivial
  case pres =>
    intro i hi j hj hc x wx wy hF hE hW
    simp only [List.mem_cons, List.mem_nil_iff, or_false] at hi hj
    rcases hi with rfl | rfl | rfl <;> rcases hj with rfl | rfl | rfl | rfl
    all_goals first
      | (exfalso; revert hc; decide)
      | (obtain ⟨A2, c2, h1, h2⟩ := hW; exact ⟨A2, c2, h1, owned_only h2 hE (by simp)⟩)
      | (obtain ⟨mb, h1, h2, h3⟩ := hW; exact ⟨mb, h1, h2, Is.only h3 hE (by simp)⟩)
  case fin =>
    rintro x w9 hF hU
    obtain ⟨⟨mb, A2, cv, h12, hge, hI, hown⟩, -⟩ := hU
    repeat apply Exists.intro
    exact ⟨rfl, rfl, mb, A2, cv, h12, hge, hI, hown, hF rfl⟩

set_option maxRecDepth 100000 in
set_option maxHeartbeats 4000000 in
theorem fn19 (ct kd L c n xb B : Nat) (n2 c2 : Nat) (hn2 : n2 = n % 2) (hc2 : c2 = (ct + n2) % 256) (A : Option Addr) (bs : List Nat) (hn : n ≤ L) (hL : bs.length = L) (hl : L ≤ 100000) (u0 u1 u2 u3 u5 u7 u8 u9 u10 u11 u12 u13 u14 u15 u16 u17 u18 u19 u20 u21 u22 u23 u24 u25 u26 u27 u28 u29 u30 u31 u32 u33 u34 u35 u36 u37 u38 u39 u40 u41 u42 u43 u44 u45 u46 u47 u48 u49 u50 u51 u52 u53 u54 u55 u56 u57 u58 u59 u60 u61 u62 u63 u64 u65 u66 u67 u68 u69 u70 u71 u72 u73 u74 u75 u76 u77 u78 u79 u80 u81 u82 u83 u84 u85 u86 u87 u88 u89 u90 u91 u92 u93 u94 u95 u96 u97 u98 u99 u100 u101 u102 u103 u104 u105 u106 u107 u108 u109 u110 u111 u112 u113 u114 u115 u116 u117 u118 u119 u120 u121 u122 u123 u124 u125 u126 u127 u128 u129 u130 u131 u132 u133 u134 u135 u136 u137 u138 u139 u140 u141 u142 u143 u144 u145 u146 u147 u148 u149 u150 u151 u152 u153 u154 u155 u156 u157 u158 u159 u160 u161 u162 u163 u164 u165 u166 u167 u168 u169 u170 u171 u172 u173 u174 u175 u176 u177 u178 u179 u180 u181 u182 u183 u184 u185 u186 u187 u188 u189 u190 u191 u192 u193 u194 : Value) (Q : Exit → Act → World → Prop) (w0 : World) (hX : Is w0 xb 37 #[.int .u8 (ct : Nat), .int .u8 (kd : Nat), .slice A L c, .int .u8 (0 : Nat)]) (hU0 : w0.ownsRow B 5 1 (.slice A L c) L (cellsOf bs))
    (hend : ∀ (y9 y100 y101 y102 y103 y104 y105 y106 y107 y108 y109 y110 y111 : Value) (w' : World), (∃ mb A2 cv, y9 = .pointer (some ⟨mb, 0, none⟩) ∧ w0.heap.size ≤ mb ∧ Is w' mb 41 #[.int .u8 (c2 : Nat), .int .u8 (kd : Nat), .slice A2 L cv, .int .u8 (0 : Nat)] ∧ w'.ownsRow w0.heap.size 5 1 (.slice A2 L cv) L (cellsOf bs) ∧ Only (fun _ => False) w0 w') → Q .normal ⟨(List.toArray (u0::u1::u2::u3::.pointer (some ⟨xb, 0, none⟩)::u5::.int .i64 (n : Nat)::u7::u8::y9::u10::u11::u12::u13::u14::u15::u16::u17::u18::u19::u20::u21::u22::u23::u24::u25::u26::u27::u28::u29::u30::u31::u32::u33::u34::u35::u36::u37::u38::u39::u40::u41::u42::u43::u44::u45::u46::u47::u48::u49::u50::u51::u52::u53::u54::u55::u56::u57::u58::u59::u60::u61::u62::u63::u64::u65::u66::u67::u68::u69::u70::u71::u72::u73::u74::u75::u76::u77::u78::u79::u80::u81::u82::u83::u84::u85::u86::u87::u88::u89::u90::u91::u92::u93::u94::u95::u96::u97::u98::u99::y100::y101::y102::y103::y104::y105::y106::y107::y108::y109::y110::y111::u112::u113::u114::u115::u116::u117::u118::u119::u120::u121::u122::u123::u124::u125::u126::u127::u128::u129::u130::u131::u132::u133::u134::u135::u136::u137::u138::u139::u140::u141::u142::u143::u144::u145::u146::u147::u148::u149::u150::u151::u152::u153::u154::u155::u156::u157::u158::u159::u160::u161::u162::u163::u164::u165::u166::u167::u168::u169::u170::u171::u172::u173::u174::u175::u176::u177::u178::u179::u180::u181::u182::u183::u184::u185::u186::u187::u188::u189::u190::u191::u192::u193::u194::[])), []⟩ w') :
    Code.wp Try.prog fn19_code Q ⟨(List.toArray (u0::u1::u2::u3::.pointer (some ⟨xb, 0, none⟩)::u5::.int .i64 (n : Nat)::u7::u8::u9::u10::u11::u12::u13::u14::u15::u16::u17::u18::u19::u20::u21::u22::u23::u24::u25::u26::u27::u28::u29::u30::u31::u32::u33::u34::u35::u36::u37::u38::u39::u40::u41::u42::u43::u44::u45::u46::u47::u48::u49::u50::u51::u52::u53::u54::u55::u56::u57::u58::u59::u60::u61::u62::u63::u64::u65::u66::u67::u68::u69::u70::u71::u72::u73::u74::u75::u76::u77::u78::u79::u80::u81::u82::u83::u84::u85::u86::u87::u88::u89::u90::u91::u92::u93::u94::u95::u96::u97::u98::u99::u100::u101::u102::u103::u104::u105::u106::u107::u108::u109::u110::u111::u112::u113::u114::u115::u116::u117::u118::u119::u120::u121::u122::u123::u124::u125::u126::u127::u128::u129::u130::u131::u132::u133::u134::u135::u136::u137::u138::u139::u140::u141::u142::u143::u144::u145::u146::u147::u148::u149::u150::u151::u152::u153::u154::u155::u156::u157::u158::u159::u160::u161::u162::u163::u164::u165::u166::u167::u168::u169::u170::u171::u172::u173::u174::u175::u176::u177::u178::u179::u180::u181::u182::u183::u184::u185::u186::u187::u188::u189::u190::u191::u192::u193::u194::[])), []⟩ w0 := by
  refine wp_mono (fn19_in ct kd L c n xb B n2 c2 hn2 hc2 A bs hn hL hl _ _ _ _ _ _ _ _ _ _ _ _ _ _ _ _ _ _ _ _ _ _ _ _ _ _ _ _ _ _ _ _ _ _ _ _ _ _ _ _ _ _ _ _ _ _ _ _ _ _ _ _ _ _ _ _ _ _ _ _ _ _ _ _ _ _ _ _ _ _ _ _ _ _ _ _ _ _ _ _ _ _ _ _ _ _ _ _ _ _ _ _ _ _ _ _ _ _ _ _ _ _ _ _ _ _ _ _ _ _ _ _ _ _ _ _ _ _ _ _ _ _ _ _ _ _ _ _ _ _ _ _ _ _ _ _ _ _ _ _ _ _ _ _ _ _ _ _ _ _ _ _ _ _ _ _ _ _ _ _ _ _ _ _ _ _ _ _ _ _ _ _ _ _ _ _ _ _ _ _ _ _ _ _ _ _ _ _ _ _ _ _ _ w0 hX hU0) ?_
  rintro e a w' h
  obtain ⟨y9, h⟩ := h
  obtain ⟨y100, h⟩ := h
  obtain ⟨y101, h⟩ := h
  obtain ⟨y102, h⟩ := h
  obtain ⟨y103, h⟩ := h
  obtain ⟨y104, h⟩ := h
  obtain ⟨y105, h⟩ := h
  obtain ⟨y106, h⟩ := h
  obtain ⟨y107, h⟩ := h
  obtain ⟨y108, h⟩ := h
  obtain ⟨y109, h⟩ := h
  obtain ⟨y110, h⟩ := h
  obtain ⟨y111, h⟩ := h
  obtain ⟨h, rfl, hq⟩ := h
  subst h
  exact hend y9 y100 y101 y102 y103 y104 y105 y106 y107 y108 y109 y110 y111 w' hq
def fn20_A : List (List Nat) := ([]::[0]::[]::[]::[3]::[]::[4, 5, 3]::[6, 4, 5, 3]::[7, 6, 4, 5, 3]::(1::2::0::3::4::5::6::7::8::[])::(9::8::0::1::2::3::4::5::6::7::[])::[])
def fn20_kill : List (List Nat) := ([]::[]::[]::[]::[]::[]::[]::[]::[]::[]::[]::[])
def fn20_uses : List (List Nat) := ([]::[]::[]::[]::[]::[]::[]::[]::[]::[]::[]::[])
noncomputable def fn20_code : Code := ((Try.f7.body.bind (codeRegion 20)).getD .skip)
set_option maxRecDepth 100000 in
set_option maxHeartbeats 4000000 in
theorem fn20_in (c2 kd g L cv n rb b q : Nat) (hn : n < L) (hl : L ≤ 100000) (hq : bits .xor .u8 (b : Int) 1 = (q : Int)) (u0 u1 u2 u3 u4 u5 u7 u8 u10 u11 u12 u13 u14 u15 u16 u17 u18 u19 u20 u21 u22 u23 u24 u25 u26 u27 u28 u29 u30 u31 u32 u33 u34 u35 u36 u37 u38 u39 u40 u41 u42 u43 u44 u45 u46 u47 u48 u49 u50 u51 u52 u53 u54 u55 u56 u57 u58 u59 u60 u61 u62 u63 u64 u65 u66 u67 u68 u69 u70 u71 u72 u73 u74 u75 u76 u77 u78 u79 u80 u81 u82 u83 u84 u85 u86 u87 u88 u89 u90 u91 u92 u93 u94 u95 u96 u97 u98 u99 u100 u101 u102 u103 u104 u105 u106 u107 u108 u109 u110 u111 u112 u113 u114 u115 u116 u117 u118 u119 u120 u121 u122 u123 u124 u125 u126 u127 u128 u129 u130 u131 u132 u133 u134 u135 u136 u137 u138 u139 u140 u141 u142 u143 u144 u145 u146 u147 u148 u149 u150 u151 u152 u153 u154 u155 u156 u157 u158 u159 u160 u161 u162 u163 u164 u165 u166 u167 u168 u169 u170 u171 u172 u173 u174 u175 u176 u177 u178 u179 u180 u181 u182 u183 u184 u185 u186 u187 u188 u189 u190 u191 u192 u193 u194 : Value) (w0 : World) (hR : Is w0 rb 41 #[.int .u8 (c2 : Nat), .int .u8 (kd : Nat), .slice (some ⟨g, 0, none⟩) L cv, .int .u8 (0 : Nat)]) (hc : w0.cell? ⟨g, n, none⟩ = some (.int .u8 (b : Nat))) (hfr : w0.frozen? ⟨g, n, none⟩ = false) :
    Code.wp Try.prog fn20_code (fun e a w' => ∃ y112 y113 y114 y115 y116 y117 y118 y119 y120 y121 : Value, a = ⟨(List.toArray (u0::u1::u2::u3::u4::u5::.int .i64 (n : Nat)::u7::u8::.pointer (some ⟨rb, 0, none⟩)::u10::u11::u12::u13::u14::u15::u16::u17::u18::u19::u20::u21::u22::u23::u24::u25::u26::u27::u28::u29::u30::u31::u32::u33::u34::u35::u36::u37::u38::u39::u40::u41::u42::u43::u44::u45::u46::u47::u48::u49::u50::u51::u52::u53::u54::u55::u56::u57::u58::u59::u60::u61::u62::u63::u64::u65::u66::u67::u68::u69::u70::u71::u72::u73::u74::u75::u76::u77::u78::u79::u80::u81::u82::u83::u84::u85::u86::u87::u88::u89::u90::u91::u92::u93::u94::u95::u96::u97::u98::u99::u100::u101::u102::u103::u104::u105::u106::u107::u108::u109::u110::u111::y112::y113::y114::y115::y116::y117::y118::y119::y120::y121::u122::u123::u124::u125::u126::u127::u128::u129::u130::u131::u132::u133::u134::u135::u136::u137::u138::u139::u140::u141::u142::u143::u144::u145::u146::u147::u148::u149::u150::u151::u152::u153::u154::u155::u156::u157::u158::u159::u160::u161::u162::u163::u164::u165::u166::u167::u168::u169::u170::u171::u172::u173::u174::u175::u176::u177::u178::u179::u180::u181::u182::u183::u184::u185::u186::u187::u188::u189::u190::u191::u192::u193::u194::[])), []⟩ ∧ e = .normal ∧ (∃ w1, Only (fun _ => False) w0 w1 ∧ w' = w1.setCell ⟨g, n, none⟩ (.int .u8 (q : Nat)))) ⟨(List.toArray (u0::u1::u2::u3::u4::u5::.int .i64 (n : Nat)::u7::u8::.pointer (some ⟨rb, 0, none⟩)::u10::u11::u12::u13::u14::u15::u16::u17::u18::u19::u20::u21::u22::u23::u24::u25::u26::u27::u28::u29::u30::u31::u32::u33::u34::u35::u36::u37::u38::u39::u40::u41::u42::u43::u44::u45::u46::u47::u48::u49::u50::u51::u52::u53::u54::u55::u56::u57::u58::u59::u60::u61::u62::u63::u64::u65::u66::u67::u68::u69::u70::u71::u72::u73::u74::u75::u76::u77::u78::u79::u80::u81::u82::u83::u84::u85::u86::u87::u88::u89::u90::u91::u92::u93::u94::u95::u96::u97::u98::u99::u100::u101::u102::u103::u104::u105::u106::u107::u108::u109::u110::u111::u112::u113::u114::u115::u116::u117::u118::u119::u120::u121::u122::u123::u124::u125::u126::u127::u128::u129::u130::u131::u132::u133::u134::u135::u136::u137::u138::u139::u140::u141::u142::u143::u144::u145::u146::u147::u148::u149::u150::u151::u152::u153::u154::u155::u156::u157::u158::u159::u160::u161::u162::u163::u164::u165::u166::u167::u168::u169::u170::u171::u172::u173::u174::u175::u176::u177::u178::u179::u180::u181::u182::u183::u184::u185::u186::u187::u188::u189::u190::u191::u192::u193::u194::[])), []⟩ w0 := by
  conv => arg 2; whnf
  have HR := Lib.hid hR
  have HC := Lib.hid hc
  have HFR := Lib.hid hfr
  have HG := Lib.hid (World.block_lt_of_cell? w0 ⟨g, n, none⟩ hc)
  have hnI : (n : Int) < (L : Int) := by omega
  clear hR hc hfr
  refine wp_region_posts fn20_A [10] [10] fn20_kill fn20_uses [10] [10] [] []
      (some ?v0::some ?v1::some ?v2::some ?v3::some ?v4::some ?v5::some ?v6::some ?v7::some ?v8::some ?v9::none::[])
      ?T (fun wx => Only (fun _ => False) w0 wx) ?W ?E (by kernel_rfl) (by kernel_rfl) (by kernel_rfl) (fun x => ?hT) ?hF ?hini (Reg.all_ops ?runs) ?pres ?fin
  case W => exact fun j x wz => match j with | 10 => ∃ w1, Only (fun _ => False) w0 w1 ∧ wz = w1.setCell ⟨g, n, none⟩ (.int .u8 (q : Nat)) | _ => True
  case E => exact fun _ wx wy => True
  case hT =>
    simp only [Reg.fillV, Act.put, List.setIfInBounds_toArray, List.set_cons_zero, List.set_cons_succ]
    rfl
  case runs =>
    refine And.intro ?_ ?_
    · refine Reg.ob_pure (fun _ => rfl) rfl rfl rfl rfl (fun x w1 hF => ?_)
      have hQX := HR.out.only hF (by simp)
      have m0 := hQX.cell 0
      have m1 := hQX.cell 1
      have m2 := hQX.cell 2
      have m3 := hQX.cell 3
      simp at m0 m1 m2 m3
      clear hQX
      have rc := hF.cell (p := ⟨g, n, none⟩) HG.out (by simp)
      rw [HC.out] at rc
      go_simp
      with_reducible rfl
    refine And.intro ?_ ?_
    · refine Reg.ob_pure (fun _ => rfl) rfl rfl rfl rfl (fun x w1 hF => ?_)
      have hQX := HR.out.only hF (by simp)
      have m0 := hQX.cell 0
      have m1 := hQX.cell 1
      have m2 := hQX.cell 2
      have m3 := hQX.cell 3
      simp at m0 m1 m2 m3
      clear hQX
      have rc := hF.cell (p := ⟨g, n, none⟩) HG.out (by simp)
      rw [HC.out] at rc
      go_simp
      with_reducible rfl
    refine And.intro ?_ ?_
    · refine Reg.ob_pure (fun _ => rfl) rfl rfl rfl rfl (fun x w1 hF => ?_)
      have hQX := HR.out.only hF (by simp)
      have m0 := hQX.cell 0
      have m1 := hQX.cell 1
      have m2 := hQX.cell 2
      have m3 := hQX.cell 3
      simp at m0 m1 m2 m3
      clear hQX
      have rc := hF.cell (p := ⟨g, n, none⟩) HG.out (by simp)
      rw [HC.out] at rc
      go_simp
      with_reducible rfl
    refine And.intro ?_ ?_
    · refine Reg.ob_pure (fun _ => rfl) rfl rfl rfl rfl (fun x w1 hF => ?_)
      have hQX := HR.out.only hF (by simp)
      have m0 := hQX.cell 0
      have m1 := hQX.cell 1
      have m2 := hQX.cell 2
      have m3 := hQX.cell 3
      simp at m0 m1 m2 m3
      clear hQX
      have rc := hF.cell (p := ⟨g, n, none⟩) HG.out (by simp)
      rw [HC.out] at rc
      go_simp
      with_reducible rfl
    refine And.intro ?_ ?_
    · refine Reg.ob_pure (fun _ => rfl) rfl rfl rfl rfl (fun x w1 hF => ?_)
      have hQX := HR.out.only hF (by simp)
      have m0 := hQX.cell 0
      have m1 := hQX.cell 1
      have m2 := hQX.cell 2
      have m3 := hQX.cell 3
      simp at m0 m1 m2 m3
      clear hQX
      have rc := hF.cell (p := ⟨g, n, none⟩) HG.out (by simp)
      rw [HC.out] at rc
      go_simp
      with_reducible rfl
    refine And.intro ?_ ?_
    · refine Reg.ob_pure (fun _ => rfl) rfl rfl rfl rfl (fun x w1 hF => ?_)
      have hQX := HR.out.only hF (by simp)
      have m0 := hQX.cell 0
      have m1 := hQX.cell 1
      have m2 := hQX.cell 2
      have m3 := hQX.cell 3
      simp at m0 m1 m2 m3
      clear hQX
      have rc := hF.cell (p := ⟨g, n, none⟩) HG.out (by simp)
      rw [HC.out] at rc
      go_simp
      with_reducible rfl
    refine And.intro ?_ ?_
    · refine Reg.ob_pure (fun _ => rfl) rfl rfl rfl rfl (fun x w1 hF => ?_)
      have hQX := HR.out.only hF (by simp)
      have m0 := hQX.cell 0
      have m1 := hQX.cell 1
      have m2 := hQX.cell 2
      have m3 := hQX.cell 3
      simp at m0 m1 m2 m3
      clear hQX
      have rc := hF.cell (p := ⟨g, n, none⟩) HG.out (by simp)
      rw [HC.out] at rc
      go_simp
      with_reducible rfl
    refine And.intro ?_ ?_
    · refine Reg.ob_pure (fun _ => rfl) rfl rfl rfl rfl (fun x w1 hF => ?_)
      have hQX := HR.out.only hF (by simp)
      have m0 := hQX.cell 0
      have m1 := hQX.cell 1
      have m2 := hQX.cell 2
      have m3 := hQX.cell 3
      simp at m0 m1 m2 m3
      clear hQX
      have rc := hF.cell (p := ⟨g, n, none⟩) HG.out (by simp)
      rw [HC.out] at rc
      go_simp
      with_reducible rfl
    refine And.intro ?_ ?_
    · refine Reg.ob_pure (fun _ => rfl) rfl rfl rfl rfl (fun x w1 hF => ?_)
      have hQX := HR.out.only hF (by simp)
      have m0 := hQX.cell 0
      have m1 := hQX.cell 1
      have m2 := hQX.cell 2
      have m3 := hQX.cell 3
      simp at m0 m1 m2 m3
      clear hQX
      have rc := hF.cell (p := ⟨g, n, none⟩) HG.out (by simp)
      rw [HC.out] at rc
      go_simp
      with_reducible rfl
    refine And.intro ?_ ?_
    · refine Reg.ob_pure (fun _ => rfl) rfl rfl rfl rfl (fun x w1 hF => ?_)
      have hQX := HR.out.only hF (by simp)
      have m0 := hQX.cell 0
      have m1 := hQX.cell 1
      have m2 := hQX.cell 2
      have m3 := hQX.cell 3
      simp at m0 m1 m2 m3
      clear hQX
      have rc := hF.cell (p := ⟨g, n, none⟩) HG.out (by simp)
      rw [HC.out] at rc
      go_simp
      with_reducible rfl
    refine And.intro ?_ ?_
    · refine Reg.ob_some (fun _ => rfl) rfl (fun x w1 hF hU K hK => ?_)
      replace hF := hF rfl
      have hQX := HR.out.only hF (by simp)
      have m0 := hQX.cell 0
      have m1 := hQX.cell 1
      have m2 := hQX.cell 2
      have m3 := hQX.cell 3
      simp at m0 m1 m2 m3
      clear hQX
      have rc := hF.cell (p := ⟨g, n, none⟩) HG.out (by simp)
      rw [HC.out] at rc
      have rf := hF.frozen (p := ⟨g, n, none⟩) HG.out (by simp)
      rw [HFR.out] at rf
      go_simp
      exact hK undef _ (fun _ h _ => by cases h) trivial ⟨w1, hF, rfl⟩
    exact trivial
  case hF =>
    exact (Only.refl _ w0).drewN 1
  case hini =>
    exact trivial
  case pres =>
    intro i hi j hj hc x wx wy hF hE hW
    simp only [List.mem_cons, List.mem_nil_iff, or_false] at hi hj
    subst hi
    subst hj
    exfalso
    revert hc
    decide
  case fin =>
    rintro x w9 hF hU
    obtain ⟨hQ, -⟩ := hU
    repeat apply Exists.intro
    exact ⟨rfl, rfl, hQ⟩

set_option maxRecDepth 100000 in
set_option maxHeartbeats 4000000 in
theorem fn20 (c2 kd g L cv n rb b q : Nat) (hn : n < L) (hl : L ≤ 100000) (hq : bits .xor .u8 (b : Int) 1 = (q : Int)) (u0 u1 u2 u3 u4 u5 u7 u8 u10 u11 u12 u13 u14 u15 u16 u17 u18 u19 u20 u21 u22 u23 u24 u25 u26 u27 u28 u29 u30 u31 u32 u33 u34 u35 u36 u37 u38 u39 u40 u41 u42 u43 u44 u45 u46 u47 u48 u49 u50 u51 u52 u53 u54 u55 u56 u57 u58 u59 u60 u61 u62 u63 u64 u65 u66 u67 u68 u69 u70 u71 u72 u73 u74 u75 u76 u77 u78 u79 u80 u81 u82 u83 u84 u85 u86 u87 u88 u89 u90 u91 u92 u93 u94 u95 u96 u97 u98 u99 u100 u101 u102 u103 u104 u105 u106 u107 u108 u109 u110 u111 u112 u113 u114 u115 u116 u117 u118 u119 u120 u121 u122 u123 u124 u125 u126 u127 u128 u129 u130 u131 u132 u133 u134 u135 u136 u137 u138 u139 u140 u141 u142 u143 u144 u145 u146 u147 u148 u149 u150 u151 u152 u153 u154 u155 u156 u157 u158 u159 u160 u161 u162 u163 u164 u165 u166 u167 u168 u169 u170 u171 u172 u173 u174 u175 u176 u177 u178 u179 u180 u181 u182 u183 u184 u185 u186 u187 u188 u189 u190 u191 u192 u193 u194 : Value) (Q : Exit → Act → World → Prop) (w0 : World) (hR : Is w0 rb 41 #[.int .u8 (c2 : Nat), .int .u8 (kd : Nat), .slice (some ⟨g, 0, none⟩) L cv, .int .u8 (0 : Nat)]) (hc : w0.cell? ⟨g, n, none⟩ = some (.int .u8 (b : Nat))) (hfr : w0.frozen? ⟨g, n, none⟩ = false)
    (hend : ∀ (y112 y113 y114 y115 y116 y117 y118 y119 y120 y121 : Value) (w' : World), (∃ w1, Only (fun _ => False) w0 w1 ∧ w' = w1.setCell ⟨g, n, none⟩ (.int .u8 (q : Nat))) → Q .normal ⟨(List.toArray (u0::u1::u2::u3::u4::u5::.int .i64 (n : Nat)::u7::u8::.pointer (some ⟨rb, 0, none⟩)::u10::u11::u12::u13::u14::u15::u16::u17::u18::u19::u20::u21::u22::u23::u24::u25::u26::u27::u28::u29::u30::u31::u32::u33::u34::u35::u36::u37::u38::u39::u40::u41::u42::u43::u44::u45::u46::u47::u48::u49::u50::u51::u52::u53::u54::u55::u56::u57::u58::u59::u60::u61::u62::u63::u64::u65::u66::u67::u68::u69::u70::u71::u72::u73::u74::u75::u76::u77::u78::u79::u80::u81::u82::u83::u84::u85::u86::u87::u88::u89::u90::u91::u92::u93::u94::u95::u96::u97::u98::u99::u100::u101::u102::u103::u104::u105::u106::u107::u108::u109::u110::u111::y112::y113::y114::y115::y116::y117::y118::y119::y120::y121::u122::u123::u124::u125::u126::u127::u128::u129::u130::u131::u132::u133::u134::u135::u136::u137::u138::u139::u140::u141::u142::u143::u144::u145::u146::u147::u148::u149::u150::u151::u152::u153::u154::u155::u156::u157::u158::u159::u160::u161::u162::u163::u164::u165::u166::u167::u168::u169::u170::u171::u172::u173::u174::u175::u176::u177::u178::u179::u180::u181::u182::u183::u184::u185::u186::u187::u188::u189::u190::u191::u192::u193::u194::[])), []⟩ w') :
    Code.wp Try.prog fn20_code Q ⟨(List.toArray (u0::u1::u2::u3::u4::u5::.int .i64 (n : Nat)::u7::u8::.pointer (some ⟨rb, 0, none⟩)::u10::u11::u12::u13::u14::u15::u16::u17::u18::u19::u20::u21::u22::u23::u24::u25::u26::u27::u28::u29::u30::u31::u32::u33::u34::u35::u36::u37::u38::u39::u40::u41::u42::u43::u44::u45::u46::u47::u48::u49::u50::u51::u52::u53::u54::u55::u56::u57::u58::u59::u60::u61::u62::u63::u64::u65::u66::u67::u68::u69::u70::u71::u72::u73::u74::u75::u76::u77::u78::u79::u80::u81::u82::u83::u84::u85::u86::u87::u88::u89::u90::u91::u92::u93::u94::u95::u96::u97::u98::u99::u100::u101::u102::u103::u104::u105::u106::u107::u108::u109::u110::u111::u112::u113::u114::u115::u116::u117::u118::u119::u120::u121::u122::u123::u124::u125::u126::u127::u128::u129::u130::u131::u132::u133::u134::u135::u136::u137::u138::u139::u140::u141::u142::u143::u144::u145::u146::u147::u148::u149::u150::u151::u152::u153::u154::u155::u156::u157::u158::u159::u160::u161::u162::u163::u164::u165::u166::u167::u168::u169::u170::u171::u172::u173::u174::u175::u176::u177::u178::u179::u180::u181::u182::u183::u184::u185::u186::u187::u188::u189::u190::u191::u192::u193::u194::[])), []⟩ w0 := by
  refine wp_mono (fn20_in c2 kd g L cv n rb b q hn hl hq _ _ _ _ _ _ _ _ _ _ _ _ _ _ _ _ _ _ _ _ _ _ _ _ _ _ _ _ _ _ _ _ _ _ _ _ _ _ _ _ _ _ _ _ _ _ _ _ _ _ _ _ _ _ _ _ _ _ _ _ _ _ _ _ _ _ _ _ _ _ _ _ _ _ _ _ _ _ _ _ _ _ _ _ _ _ _ _ _ _ _ _ _ _ _ _ _ _ _ _ _ _ _ _ _ _ _ _ _ _ _ _ _ _ _ _ _ _ _ _ _ _ _ _ _ _ _ _ _ _ _ _ _ _ _ _ _ _ _ _ _ _ _ _ _ _ _ _ _ _ _ _ _ _ _ _ _ _ _ _ _ _ _ _ _ _ _ _ _ _ _ _ _ _ _ _ _ _ _ _ _ _ _ _ _ _ _ _ _ _ _ _ _ w0 hR hc hfr) ?_
  rintro e a w' h
  obtain ⟨y112, h⟩ := h
  obtain ⟨y113, h⟩ := h
  obtain ⟨y114, h⟩ := h
  obtain ⟨y115, h⟩ := h
  obtain ⟨y116, h⟩ := h
  obtain ⟨y117, h⟩ := h
  obtain ⟨y118, h⟩ := h
  obtain ⟨y119, h⟩ := h
  obtain ⟨y120, h⟩ := h
  obtain ⟨y121, h⟩ := h
  obtain ⟨h, rfl, hq⟩ := h
  subst h
  exact hend y112 y113 y114 y115 y116 y117 y118 y119 y120 y121 w' hq
end Go.Proofs.Ytefcimkopgcagaa
