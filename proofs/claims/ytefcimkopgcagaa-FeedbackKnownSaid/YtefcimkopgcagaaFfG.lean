/- FeedbackKnown: the loop over rates. Conditions: as each says. -/
import Derived.Test.YtefcimkopgcagaaFfF
set_option linter.unusedVariables false
set_option linter.unusedSimpArgs false
namespace Go.Proofs.Ytefcimkopgcagaa
open Go.RowKit

def c16 (ls : List Nat) : Array Value := (ls.map fun (x : Nat) => Value.int .u16 (x : Int)).toArray
theorem rd_sub {w : World} {g j n c : Nat} {ls : List Nat} (h : Is w g 75 (c16 ls)) (hj : j + n ≤ ls.length) (hc : n ≤ c) : Rd .u16 w (.slice (some ⟨g, j, none⟩) n c) (nats ((ls.drop j).take n)) := by
  have hl : (nats ((ls.drop j).take n)).length = n := by rw [nats_length, List.length_take, List.length_drop]; omega
  refine ⟨_, c, by rw [hl], by rw [hl]; exact hc, fun hp => ⟨g, j, rfl, fun i hi => ?_⟩⟩
  rw [hl] at hi
  rw [h.cell]
  have e : (c16 ls)[j + i]? = some (.int .u16 (ls[j + i] : Int)) := by simp [c16, show j + i < ls.length by omega]
  rw [e]
  simp [nats]
theorem two_wrap (j : Nat) (h : j < 64) : IntKind.u64.wrap (2 ^ j) = ((2 ^ j : Nat) : Int) := by
  have h2 : 2 ^ j < 2 ^ 64 := Nat.pow_lt_pow_right (by decide) h
  have e64 : (2 : Nat) ^ 64 = 18446744073709551616 := by decide
  rw [show (2 : Int) ^ j = ((2 ^ j : Nat) : Int) by simp, IntKind.wrap_u64]
  generalize 2 ^ j = x at *
  omega
def fn28_A : List (List Nat) := ([]::[0]::[]::[2]::[3, 2]::[1, 4, 0, 3, 2]::[]::[6]::[7, 6]::[8, 7, 6]::(5::9::1::4::0::3::2::8::7::6::[])::[]::[]::(10::11::12::5::9::1::4::0::3::2::8::7::6::[])::(13::10::11::12::5::9::1::4::0::3::2::8::7::6::[])::(14::13::10::11::12::5::9::1::4::0::3::2::8::7::6::[])::(15::14::13::10::11::12::5::9::1::4::0::3::2::8::7::6::[])::(15::14::13::10::11::12::5::9::1::4::0::3::2::8::7::6::[])::(15::14::13::10::11::12::5::9::1::4::0::3::2::8::7::6::[])::(15::14::13::10::11::12::5::9::1::4::0::3::2::8::7::6::[])::(19::15::14::13::10::11::12::5::9::1::4::0::3::2::8::7::6::[])::(18::20::15::14::13::10::11::12::5::9::1::4::0::3::2::8::7::6::19::[])::(15::14::13::10::11::12::5::9::1::4::0::3::2::8::7::6::[])::(22::15::14::13::10::11::12::5::9::1::4::0::3::2::8::7::6::[])::(16::17::21::23::15::14::13::10::11::12::5::9::1::4::0::3::2::8::7::6::18::20::19::22::[])::(24::15::16::17::21::23::14::13::10::11::12::5::9::1::4::0::3::2::8::7::6::18::20::19::22::[])::(15::25::14::13::10::11::12::5::9::1::4::0::3::2::8::7::6::24::16::17::21::23::18::20::19::22::[])::(26::24::15::25::14::13::10::11::12::5::9::1::4::0::3::2::8::7::6::16::17::21::23::18::20::19::22::[])::(27::26::24::15::25::14::13::10::11::12::5::9::1::4::0::3::2::8::7::6::16::17::21::23::18::20::19::22::[])::(27::26::24::15::25::14::13::10::11::12::5::9::1::4::0::3::2::8::7::6::16::17::21::23::18::20::19::22::[])::(29::27::26::24::15::25::14::13::10::11::12::5::9::1::4::0::3::2::8::7::6::16::17::21::23::18::20::19::22::[])::(28::30::27::26::24::15::25::14::13::10::11::12::5::9::1::4::0::3::2::8::7::6::16::17::21::23::18::20::19::22::29::[])::(27::26::24::15::25::14::13::10::11::12::5::9::1::4::0::3::2::8::7::6::16::17::21::23::18::20::19::22::[])::(27::26::24::15::25::14::13::10::11::12::5::9::1::4::0::3::2::8::7::6::16::17::21::23::18::20::19::22::[])::(33::27::26::24::15::25::14::13::10::11::12::5::9::1::4::0::3::2::8::7::6::16::17::21::23::18::20::19::22::[])::(32::34::27::26::24::15::25::14::13::10::11::12::5::9::1::4::0::3::2::8::7::6::16::17::21::23::18::20::19::22::33::[])::(31::35::27::28::30::26::24::15::25::14::13::10::11::12::5::9::1::4::0::3::2::8::7::6::16::17::21::23::18::20::19::22::29::32::34::33::[])::(36::27::31::35::28::30::26::24::15::25::14::13::10::11::12::5::9::1::4::0::3::2::8::7::6::16::17::21::23::18::20::19::22::29::32::34::33::[])::(27::37::26::24::15::25::14::13::10::11::12::5::9::1::4::0::3::2::8::7::6::16::17::21::23::18::20::19::22::36::31::35::28::30::29::32::34::33::[])::[])
def fn28_kill : List (List Nat) := ([]::[]::[]::[]::[]::[]::[]::[]::[]::[]::[]::[]::[]::[]::[]::[]::[]::[]::[]::[]::[]::[]::[]::[]::[]::[]::[]::[]::[]::[]::[]::[]::[]::[]::[]::[]::[]::[]::[]::[])
def fn28_uses : List (List Nat) := ([]::[]::[]::[]::[]::[]::[]::[]::[]::[]::[]::[]::[]::[10]::[]::[]::[]::[]::[]::[]::[]::[]::[]::[]::[16]::[]::[]::[]::[]::[]::[]::[]::[]::[]::[]::[]::[]::[]::[]::[])
noncomputable def fn28_code : Code := ((Try.f7.body.bind (codeRegion 28)).getD .skip)
set_option maxRecDepth 100000 in
set_option maxHeartbeats 4000000 in
theorem fn28_in (k p g p1 p2 p3 p4 p8 pm pt j5 j9 : Nat) (ls : List Nat) (hk : k < 64) (hp : 1 ≤ p) (hp64 : p ≤ 9223372036854775808) (hl9 : ls.length = 9) (hls : ∀ x ∈ ls, x < 65536) (h1 : p1 = p % 65536) (h8 : p8 = p / 8) (h2 : p2 = p8 % 65536) (h3 : p3 = k * 999 % 65536) (hm : pm = p - 1) (ht : pt = p / 3) (h4 : p4 = p + pt) (h5 : j5 = k % 5) (h9 : j9 = k % 9) (u0 u1 u2 u3 u4 u5 u6 u7 u8 u9 u13 u14 u15 u16 u17 u18 u19 u20 u21 u22 u23 u24 u25 u26 u27 u28 u29 u30 u31 u32 u33 u34 u35 u36 u37 u38 u39 u40 u41 u42 u43 u44 u45 u46 u47 u48 u49 u50 u51 u52 u53 u54 u55 u56 u57 u58 u59 u60 u61 u62 u63 u64 u65 u66 u67 u68 u69 u70 u71 u72 u73 u74 u75 u76 u77 u78 u79 u80 u81 u82 u83 u84 u85 u86 u87 u88 u89 u90 u91 u92 u93 u94 u95 u96 u97 u98 u99 u100 u101 u102 u103 u104 u105 u106 u107 u108 u109 u110 u111 u112 u113 u114 u115 u116 u117 u118 u119 u120 u121 u122 u123 u124 u125 u126 u127 u128 u129 u130 u131 u132 u133 u134 u135 u136 u137 u138 u139 u140 u141 u142 u143 u144 u145 u146 u147 u148 u149 u150 u151 u152 u153 u154 u155 u156 u157 u158 u159 u160 u161 u162 u163 u164 u165 u166 u167 u168 u169 u170 u171 u172 u173 u174 u175 u176 u177 u178 u179 u180 u181 u182 u183 u184 u185 u186 u187 u188 u189 u190 u191 u192 u193 u194 : Value) (w0 : World) (hI : Is w0 g 75 (c16 ls)) :
    Code.wp Try.prog fn28_code (fun e a w' => ∃ y147 y148 y149 y150 y151 y152 y153 y154 y155 y156 y157 y158 y159 y160 y161 y162 y163 y164 y165 y166 y167 y168 y169 y170 y171 y172 y173 y174 y175 y176 y177 y178 y179 y180 y181 y182 y183 y184 : Value, a = ⟨(List.toArray (u0::u1::u2::u3::u4::u5::u6::u7::u8::u9::.int .i64 (k : Nat)::.int .u64 (p : Nat)::.slice (some ⟨g, 0, none⟩) 9 9::u13::u14::u15::u16::u17::u18::u19::u20::u21::u22::u23::u24::u25::u26::u27::u28::u29::u30::u31::u32::u33::u34::u35::u36::u37::u38::u39::u40::u41::u42::u43::u44::u45::u46::u47::u48::u49::u50::u51::u52::u53::u54::u55::u56::u57::u58::u59::u60::u61::u62::u63::u64::u65::u66::u67::u68::u69::u70::u71::u72::u73::u74::u75::u76::u77::u78::u79::u80::u81::u82::u83::u84::u85::u86::u87::u88::u89::u90::u91::u92::u93::u94::u95::u96::u97::u98::u99::u100::u101::u102::u103::u104::u105::u106::u107::u108::u109::u110::u111::u112::u113::u114::u115::u116::u117::u118::u119::u120::u121::u122::u123::u124::u125::u126::u127::u128::u129::u130::u131::u132::u133::u134::u135::u136::u137::u138::u139::u140::u141::u142::u143::u144::u145::u146::y147::y148::y149::y150::y151::y152::y153::y154::y155::y156::y157::y158::y159::y160::y161::y162::y163::y164::y165::y166::y167::y168::y169::y170::y171::y172::y173::y174::y175::y176::y177::y178::y179::y180::y181::y182::y183::y184::.bool false::u186::u187::u188::u189::u190::u191::u192::u193::u194::[])), []⟩ ∧ e = .normal ∧ Only (fun _ => False) w0 w') ⟨(List.toArray (u0::u1::u2::u3::u4::u5::u6::u7::u8::u9::.int .i64 (k : Nat)::.int .u64 (p : Nat)::.slice (some ⟨g, 0, none⟩) 9 9::u13::u14::u15::u16::u17::u18::u19::u20::u21::u22::u23::u24::u25::u26::u27::u28::u29::u30::u31::u32::u33::u34::u35::u36::u37::u38::u39::u40::u41::u42::u43::u44::u45::u46::u47::u48::u49::u50::u51::u52::u53::u54::u55::u56::u57::u58::u59::u60::u61::u62::u63::u64::u65::u66::u67::u68::u69::u70::u71::u72::u73::u74::u75::u76::u77::u78::u79::u80::u81::u82::u83::u84::u85::u86::u87::u88::u89::u90::u91::u92::u93::u94::u95::u96::u97::u98::u99::u100::u101::u102::u103::u104::u105::u106::u107::u108::u109::u110::u111::u112::u113::u114::u115::u116::u117::u118::u119::u120::u121::u122::u123::u124::u125::u126::u127::u128::u129::u130::u131::u132::u133::u134::u135::u136::u137::u138::u139::u140::u141::u142::u143::u144::u145::u146::u147::u148::u149::u150::u151::u152::u153::u154::u155::u156::u157::u158::u159::u160::u161::u162::u163::u164::u165::u166::u167::u168::u169::u170::u171::u172::u173::u174::u175::u176::u177::u178::u179::u180::u181::u182::u183::u184::u185::u186::u187::u188::u189::u190::u191::u192::u193::u194::[])), []⟩ w0 := by
  conv => arg 2; whnf
  have e1 : IntKind.u16.wrap (p : Int) = (p1 : Int) := by rw [IntKind.wrap_u16]; omega
  have e8 : (p : Int) / 8 = (p8 : Int) := by omega
  have e2 : IntKind.u16.wrap (p8 : Int) = (p2 : Int) := by rw [IntKind.wrap_u16]; omega
  have e3w : wrap64 ((k : Int) * 999) = (k : Int) * 999 := IntWalk.wrap64_in _ (by omega)
  have e3i : IntKind.i64.wrap ((k : Int) * 999) = (k : Int) * 999 := by rw [IntKind.wrap_i64]; omega
  have e3 : IntKind.u16.wrap ((k : Int) * 999) = (p3 : Int) := by rw [IntKind.wrap_u16]; omega
  have e5 : (k : Int) % 5 = (j5 : Int) := by omega
  have e5t : (k : Int).tmod 5 = (j5 : Int) := by rw [Int.tmod_eq_emod_of_nonneg (by omega)]; exact e5
  have e9 : (k : Int) % 9 = (j9 : Int) := by omega
  have e9t : (k : Int).tmod 9 = (j9 : Int) := by rw [Int.tmod_eq_emod_of_nonneg (by omega)]; exact e9
  have em : IntKind.u64.wrap ((p : Int) - 1) = (pm : Int) := by rw [IntKind.wrap_u64]; omega
  have et : (p : Int) / 3 = (pt : Int) := by omega
  have etw : IntKind.u64.wrap (pt : Int) = (pt : Int) := by rw [IntKind.wrap_u64]; omega
  have e4 : IntKind.u64.wrap ((p : Int) + (pt : Int)) = (p4 : Int) := by rw [IntKind.wrap_u64]; omega
  have b1 : (j5 : Int) ≤ 9 := by omega
  have b2 : (j9 : Int) ≤ 9 := by omega
  have b3 : ¬ j5 = 9 := by omega
  have b4 : ¬ 9 = j5 := by omega
  have HN1 := Lib.hid (fun (wx : World) (h : Only (fun _ => False) w0 wx) (q : Nat) (hq : Is wx q 82 #[.int .u16 (p1 : Nat), .int .u16 (p2 : Nat), .int .u16 65530, .int .u16 (p3 : Nat)]) => fnumbers_any [⟨p1, p2⟩, ⟨65530, p3⟩] (.slice (some ⟨q, 0, none⟩) 2 2) ls (.slice (some ⟨g, 0, none⟩) 9 9) p wx
    (OwnP.rd (T := 82) (own_lit (B := 0) (xss := [[Value.int .u16 (p1 : Nat), Value.int .u16 (p2 : Nat)], [Value.int .u16 (65530 : Nat), Value.int .u16 (p3 : Nat)]]) hq (by simp) (by omega) (by simp))) (by simp [Pr.Fit]; omega) (by
      have := rd_sub (j := 0) (n := 9) (c := 9) (hI.only h (by simp)) (by omega) (by omega)
      rwa [List.drop_zero, List.take_of_length_le (by omega)] at this) hls (.inr ⟨_, _, _, rfl⟩) (by omega) (by simp; omega))
  have HEX := Lib.hid (fun (wx : World) (h : Only (fun _ => False) w0 wx) => example_is 4 wx (by omega))
  have HB2 := Lib.hid (fun (wx : World) (h : Only (fun _ => False) w0 wx) (m' : Ms) (vp vo vs : Value) (hd : Msg m' vp vo vs wx) => fback_walk m' vp vo vs 0 0 0 pm (.slice none 0 0) (.slice (some ⟨g, j5, none⟩) (9 - j5) (9 - j5)) [] ((ls.drop j5).take (9 - j5)) wx hd.rd hd.fit (.inl ⟨rfl, rfl⟩) (by simp) (rd_sub (hI.only h (by simp)) (by omega) (Nat.le_refl _)) (fun x hx => hls x (List.mem_of_mem_drop (List.mem_of_mem_take hx))) (by omega))
  have HN3 := Lib.hid (fun (wx : World) (h : Only (fun _ => False) w0 wx) => fnumbers_any [] (.slice none 0 0) ((ls.drop 0).take j9) (.slice (some ⟨g, 0, none⟩) j9 9) p4 wx (RdP.nil _) (by simp) (rd_sub (hI.only h (by simp)) (by omega) (by omega)) (fun x hx => hls x (List.mem_of_mem_drop (List.mem_of_mem_take hx))) (.inr ⟨_, _, _, rfl⟩) (by omega) (by simp; omega))
  unfold GotM at HEX
  clear hI hk hp hp64 hl9 hls h1 h8 h2 h3 hm ht h4 h5 h9
  refine wp_region_posts fn28_A [10, 13, 16, 24, 36] [10, 16] fn28_kill fn28_uses [] [] [] []
      (some ?v0::some (.int .u16 (p1 : Nat))::some ?v2::some (.int .u64 (p8 : Nat))::some (.int .u16 (p2 : Nat))::some ?v5::some ?v6::some ?v7::some (.int .u16 (p3 : Nat))::some ?v9::none::some ?v11::some ?v12::some (.bool true)::some ?v14::some ?v15::none::some ?v17::some ?v18::some ?v19::some (.int .i64 (j5 : Nat))::some (.slice (some ⟨g, j5, none⟩) (9 - j5) (9 - j5))::some ?v22::some (.int .u64 (pm : Nat))::some (.bool true)::some ?v25::some ?v26::some ?v27::some ?v28::some ?v29::some (.int .i64 (j9 : Nat))::some (.slice (some ⟨g, 0, none⟩) j9 9)::some ?v32::some ?v33::some (.int .u64 (pt : Nat))::some (.int .u64 (p4 : Nat))::some (.bool true)::some ?v37::some ?v38::[])
      ?T (fun wx => Only (fun _ => False) w0 wx) ?W ?E (by kernel_rfl) (by kernel_rfl) (by kernel_rfl) (fun x => ?hT) ?hF ?hini (Reg.all_ops ?runs) ?pres ?fin
  case W => exact fun j x wz => match j with | 10 => ∃ q, x 10 = .slice (some ⟨q, 0, none⟩) 2 2 ∧ Is wz q 82 #[.int .u16 (p1 : Nat), .int .u16 (p2 : Nat), .int .u16 65530, .int .u16 (p3 : Nat)] | 16 => ∃ m vp vo vs, x 16 = .agg (m.cls vp vo vs) ∧ Msg m vp vo vs wz | _ => True
  case E => exact fun _ wx wy => Only (fun _ => False) wx wy
  case hT =>
    simp only [Reg.fillV, Act.put, List.setIfInBounds_toArray, List.set_cons_zero, List.set_cons_succ]
    rfl
  case runs =>
    refine And.intro ?_ ?_
    · refine Reg.ob_pure (fun _ => rfl) rfl rfl rfl rfl (fun x w1 hF => ?_)
      go_simp
      with_reducible rfl
    refine And.intro ?_ ?_
    · refine Reg.ob_pure (fun _ => rfl) rfl rfl rfl rfl (fun x w1 hF => ?_)
      go_simp
    refine And.intro ?_ ?_
    · refine Reg.ob_pure (fun _ => rfl) rfl rfl rfl rfl (fun x w1 hF => ?_)
      go_simp
      with_reducible rfl
    refine And.intro ?_ ?_
    · refine Reg.ob_pure (fun _ => rfl) rfl rfl rfl rfl (fun x w1 hF => ?_)
      go_simp
    refine And.intro ?_ ?_
    · refine Reg.ob_pure (fun _ => rfl) rfl rfl rfl rfl (fun x w1 hF => ?_)
      go_simp
    refine And.intro ?_ ?_
    · refine Reg.ob_pure (fun _ => rfl) rfl rfl rfl rfl (fun x w1 hF => ?_)
      go_simp
      with_reducible rfl
    refine And.intro ?_ ?_
    · refine Reg.ob_pure (fun _ => rfl) rfl rfl rfl rfl (fun x w1 hF => ?_)
      go_simp
      with_reducible rfl
    refine And.intro ?_ ?_
    · refine Reg.ob_pure (fun _ => rfl) rfl rfl rfl rfl (fun x w1 hF => ?_)
      go_simp
      with_reducible rfl
    refine And.intro ?_ ?_
    · refine Reg.ob_pure (fun _ => rfl) rfl rfl rfl rfl (fun x w1 hF => ?_)
      go_simp
    refine And.intro ?_ ?_
    · refine Reg.ob_pure (fun _ => rfl) rfl rfl rfl rfl (fun x w1 hF => ?_)
      go_simp
      with_reducible rfl
    refine And.intro ?_ ?_
    · refine Reg.ob_some (fun _ => rfl) rfl (fun x w1 hF hU K hK => ?_)
      have hF := hF rfl
      go_simp
      exact hK _ _ (fun _ _ _ => hF.alloc _) ((Only.refl _ _).alloc _) ⟨_, rfl, Is.made _ _ _⟩
    refine And.intro ?_ ?_
    · refine Reg.ob_pure (fun _ => rfl) rfl rfl rfl rfl (fun x w1 hF => ?_)
      go_simp
      with_reducible rfl
    refine And.intro ?_ ?_
    · refine Reg.ob_pure (fun _ => rfl) rfl rfl rfl rfl (fun x w1 hF => ?_)
      go_simp
      with_reducible rfl
    refine And.intro ?_ ?_
    · refine Reg.ob_known (fun _ => rfl) rfl rfl (fun x w1 hF hU K hK => ?_)
      have hF := hF rfl
      obtain ⟨⟨q, hx, hI⟩, -⟩ := hU
      have hx : x 10 = .slice (some ⟨q, 0, none⟩) 2 2 := hx
      revert hK
      simp only [Nat.reduceAdd, hx]
      intro hK
      go_simp
      refine (HN1.out w1 hF q hI).mono ?_
      rintro e w5 ⟨rfl, ho⟩
      exact hK _ (fun _ _ _ => hF.trans ho (fun _ _ e => e)) ho
    refine And.intro ?_ ?_
    · refine Reg.ob_pure (fun _ => rfl) rfl rfl rfl rfl (fun x w1 hF => ?_)
      go_simp
      with_reducible rfl
    refine And.intro ?_ ?_
    · refine Reg.ob_pure (fun _ => rfl) rfl rfl rfl rfl (fun x w1 hF => ?_)
      go_simp
      with_reducible rfl
    refine And.intro ?_ ?_
    · refine Reg.ob_some (fun _ => rfl) rfl (fun x w1 hF hU K hK => ?_)
      have hF := hF rfl
      go_simp
      refine (HEX.out w1 hF).mono ?_
      rintro e w5 ⟨m', vp, vo, vs, rfl, hd, ho⟩
      exact hK _ w5 (fun _ _ _ => hF.trans ho (fun _ _ e => e)) ho ⟨m', vp, vo, vs, rfl, hd⟩
    refine And.intro ?_ ?_
    · refine Reg.ob_pure (fun _ => rfl) rfl rfl rfl rfl (fun x w1 hF => ?_)
      go_simp
      with_reducible rfl
    refine And.intro ?_ ?_
    · refine Reg.ob_pure (fun _ => rfl) rfl rfl rfl rfl (fun x w1 hF => ?_)
      go_simp
      with_reducible rfl
    refine And.intro ?_ ?_
    · refine Reg.ob_pure (fun _ => rfl) rfl rfl rfl rfl (fun x w1 hF => ?_)
      go_simp
      with_reducible rfl
    refine And.intro ?_ ?_
    · refine Reg.ob_pure (fun _ => rfl) rfl rfl rfl rfl (fun x w1 hF => ?_)
      go_simp
    refine And.intro ?_ ?_
    · refine Reg.ob_pure (fun _ => rfl) rfl rfl rfl rfl (fun x w1 hF => ?_)
      go_simp
    refine And.intro ?_ ?_
    · refine Reg.ob_pure (fun _ => rfl) rfl rfl rfl rfl (fun x w1 hF => ?_)
      go_simp
      with_reducible rfl
    refine And.intro ?_ ?_
    · refine Reg.ob_pure (fun _ => rfl) rfl rfl rfl rfl (fun x w1 hF => ?_)
      go_simp
    refine And.intro ?_ ?_
    · refine Reg.ob_known (fun _ => rfl) rfl rfl (fun x w1 hF hU K hK => ?_)
      have hF := hF rfl
      obtain ⟨⟨m', vp, vo, vs, hx, hd⟩, -⟩ := hU
      have hx : x 16 = .agg (m'.cls vp vo vs) := hx
      revert hK
      simp only [Nat.reduceAdd, hx]
      intro hK
      go_simp
      refine (HB2.out w1 hF m' vp vo vs hd).mono ?_
      rintro e w5 ⟨rfl, ho⟩
      exact hK _ (fun _ _ _ => hF.trans ho (fun _ _ e => e)) ho
    refine And.intro ?_ ?_
    · refine Reg.ob_pure (fun _ => rfl) rfl rfl rfl rfl (fun x w1 hF => ?_)
      go_simp
      with_reducible rfl
    refine And.intro ?_ ?_
    · refine Reg.ob_pure (fun _ => rfl) rfl rfl rfl rfl (fun x w1 hF => ?_)
      go_simp
      with_reducible rfl
    refine And.intro ?_ ?_
    · refine Reg.ob_pure (fun _ => rfl) rfl rfl rfl rfl (fun x w1 hF => ?_)
      go_simp
      with_reducible rfl
    refine And.intro ?_ ?_
    · refine Reg.ob_pure (fun _ => rfl) rfl rfl rfl rfl (fun x w1 hF => ?_)
      go_simp
      with_reducible rfl
    refine And.intro ?_ ?_
    · refine Reg.ob_pure (fun _ => rfl) rfl rfl rfl rfl (fun x w1 hF => ?_)
      go_simp
      with_reducible rfl
    refine And.intro ?_ ?_
    · refine Reg.ob_pure (fun _ => rfl) rfl rfl rfl rfl (fun x w1 hF => ?_)
      go_simp
    refine And.intro ?_ ?_
    · refine Reg.ob_pure (fun _ => rfl) rfl rfl rfl rfl (fun x w1 hF => ?_)
      go_simp
    refine And.intro ?_ ?_
    · refine Reg.ob_pure (fun _ => rfl) rfl rfl rfl rfl (fun x w1 hF => ?_)
      go_simp
      with_reducible rfl
    refine And.intro ?_ ?_
    · refine Reg.ob_pure (fun _ => rfl) rfl rfl rfl rfl (fun x w1 hF => ?_)
      go_simp
      with_reducible rfl
    refine And.intro ?_ ?_
    · refine Reg.ob_pure (fun _ => rfl) rfl rfl rfl rfl (fun x w1 hF => ?_)
      go_simp
    refine And.intro ?_ ?_
    · refine Reg.ob_pure (fun _ => rfl) rfl rfl rfl rfl (fun x w1 hF => ?_)
      go_simp
    refine And.intro ?_ ?_
    · refine Reg.ob_known (fun _ => rfl) rfl rfl (fun x w1 hF hU K hK => ?_)
      have hF := hF rfl
      go_simp
      refine (HN3.out w1 hF).mono ?_
      rintro e w5 ⟨rfl, ho⟩
      exact hK _ (fun _ _ _ => hF.trans ho (fun _ _ e => e)) ho
    refine And.intro ?_ ?_
    · refine Reg.ob_pure (fun _ => rfl) rfl rfl rfl rfl (fun x w1 hF => ?_)
      go_simp
      with_reducible rfl
    refine And.intro ?_ ?_
    · refine Reg.ob_pure (fun _ => rfl) rfl rfl rfl rfl (fun x w1 hF => ?_)
      go_simp
      with_reducible rfl
    exact trivial
  case hF =>
    exact (Only.refl _ w0).drewN 1
  case hini =>
    exact trivial
  case pres =>
    intro i hi j hj hc x wx wy hF hE hW
    simp only [List.mem_cons, List.mem_nil_iff, or_false] at hj
    rcases hj with rfl | rfl
    · obtain ⟨q, h1, h2⟩ := hW
      exact ⟨q, h1, Is.only h2 hE (by simp)⟩
    · obtain ⟨m', vp, vo, vs, h1, h2⟩ := hW
      exact ⟨m', vp, vo, vs, h1, Msg.only h2 hE⟩
  case fin =>
    rintro x w9 hF hU
    repeat apply Exists.intro
    exact ⟨rfl, rfl, hF rfl⟩

set_option maxRecDepth 100000 in
set_option maxHeartbeats 4000000 in
theorem fn28 (k p g p1 p2 p3 p4 p8 pm pt j5 j9 : Nat) (ls : List Nat) (hk : k < 64) (hp : 1 ≤ p) (hp64 : p ≤ 9223372036854775808) (hl9 : ls.length = 9) (hls : ∀ x ∈ ls, x < 65536) (h1 : p1 = p % 65536) (h8 : p8 = p / 8) (h2 : p2 = p8 % 65536) (h3 : p3 = k * 999 % 65536) (hm : pm = p - 1) (ht : pt = p / 3) (h4 : p4 = p + pt) (h5 : j5 = k % 5) (h9 : j9 = k % 9) (u0 u1 u2 u3 u4 u5 u6 u7 u8 u9 u13 u14 u15 u16 u17 u18 u19 u20 u21 u22 u23 u24 u25 u26 u27 u28 u29 u30 u31 u32 u33 u34 u35 u36 u37 u38 u39 u40 u41 u42 u43 u44 u45 u46 u47 u48 u49 u50 u51 u52 u53 u54 u55 u56 u57 u58 u59 u60 u61 u62 u63 u64 u65 u66 u67 u68 u69 u70 u71 u72 u73 u74 u75 u76 u77 u78 u79 u80 u81 u82 u83 u84 u85 u86 u87 u88 u89 u90 u91 u92 u93 u94 u95 u96 u97 u98 u99 u100 u101 u102 u103 u104 u105 u106 u107 u108 u109 u110 u111 u112 u113 u114 u115 u116 u117 u118 u119 u120 u121 u122 u123 u124 u125 u126 u127 u128 u129 u130 u131 u132 u133 u134 u135 u136 u137 u138 u139 u140 u141 u142 u143 u144 u145 u146 u147 u148 u149 u150 u151 u152 u153 u154 u155 u156 u157 u158 u159 u160 u161 u162 u163 u164 u165 u166 u167 u168 u169 u170 u171 u172 u173 u174 u175 u176 u177 u178 u179 u180 u181 u182 u183 u184 u185 u186 u187 u188 u189 u190 u191 u192 u193 u194 : Value) (Q : Exit → Act → World → Prop) (w0 : World) (hI : Is w0 g 75 (c16 ls))
    (hend : ∀ (y147 y148 y149 y150 y151 y152 y153 y154 y155 y156 y157 y158 y159 y160 y161 y162 y163 y164 y165 y166 y167 y168 y169 y170 y171 y172 y173 y174 y175 y176 y177 y178 y179 y180 y181 y182 y183 y184 : Value) (w' : World), Only (fun _ => False) w0 w' → Q .normal ⟨(List.toArray (u0::u1::u2::u3::u4::u5::u6::u7::u8::u9::.int .i64 (k : Nat)::.int .u64 (p : Nat)::.slice (some ⟨g, 0, none⟩) 9 9::u13::u14::u15::u16::u17::u18::u19::u20::u21::u22::u23::u24::u25::u26::u27::u28::u29::u30::u31::u32::u33::u34::u35::u36::u37::u38::u39::u40::u41::u42::u43::u44::u45::u46::u47::u48::u49::u50::u51::u52::u53::u54::u55::u56::u57::u58::u59::u60::u61::u62::u63::u64::u65::u66::u67::u68::u69::u70::u71::u72::u73::u74::u75::u76::u77::u78::u79::u80::u81::u82::u83::u84::u85::u86::u87::u88::u89::u90::u91::u92::u93::u94::u95::u96::u97::u98::u99::u100::u101::u102::u103::u104::u105::u106::u107::u108::u109::u110::u111::u112::u113::u114::u115::u116::u117::u118::u119::u120::u121::u122::u123::u124::u125::u126::u127::u128::u129::u130::u131::u132::u133::u134::u135::u136::u137::u138::u139::u140::u141::u142::u143::u144::u145::u146::y147::y148::y149::y150::y151::y152::y153::y154::y155::y156::y157::y158::y159::y160::y161::y162::y163::y164::y165::y166::y167::y168::y169::y170::y171::y172::y173::y174::y175::y176::y177::y178::y179::y180::y181::y182::y183::y184::.bool false::u186::u187::u188::u189::u190::u191::u192::u193::u194::[])), []⟩ w') :
    Code.wp Try.prog fn28_code Q ⟨(List.toArray (u0::u1::u2::u3::u4::u5::u6::u7::u8::u9::.int .i64 (k : Nat)::.int .u64 (p : Nat)::.slice (some ⟨g, 0, none⟩) 9 9::u13::u14::u15::u16::u17::u18::u19::u20::u21::u22::u23::u24::u25::u26::u27::u28::u29::u30::u31::u32::u33::u34::u35::u36::u37::u38::u39::u40::u41::u42::u43::u44::u45::u46::u47::u48::u49::u50::u51::u52::u53::u54::u55::u56::u57::u58::u59::u60::u61::u62::u63::u64::u65::u66::u67::u68::u69::u70::u71::u72::u73::u74::u75::u76::u77::u78::u79::u80::u81::u82::u83::u84::u85::u86::u87::u88::u89::u90::u91::u92::u93::u94::u95::u96::u97::u98::u99::u100::u101::u102::u103::u104::u105::u106::u107::u108::u109::u110::u111::u112::u113::u114::u115::u116::u117::u118::u119::u120::u121::u122::u123::u124::u125::u126::u127::u128::u129::u130::u131::u132::u133::u134::u135::u136::u137::u138::u139::u140::u141::u142::u143::u144::u145::u146::u147::u148::u149::u150::u151::u152::u153::u154::u155::u156::u157::u158::u159::u160::u161::u162::u163::u164::u165::u166::u167::u168::u169::u170::u171::u172::u173::u174::u175::u176::u177::u178::u179::u180::u181::u182::u183::u184::u185::u186::u187::u188::u189::u190::u191::u192::u193::u194::[])), []⟩ w0 := by
  refine wp_mono (fn28_in k p g p1 p2 p3 p4 p8 pm pt j5 j9 ls hk hp hp64 hl9 hls h1 h8 h2 h3 hm ht h4 h5 h9 _ _ _ _ _ _ _ _ _ _ _ _ _ _ _ _ _ _ _ _ _ _ _ _ _ _ _ _ _ _ _ _ _ _ _ _ _ _ _ _ _ _ _ _ _ _ _ _ _ _ _ _ _ _ _ _ _ _ _ _ _ _ _ _ _ _ _ _ _ _ _ _ _ _ _ _ _ _ _ _ _ _ _ _ _ _ _ _ _ _ _ _ _ _ _ _ _ _ _ _ _ _ _ _ _ _ _ _ _ _ _ _ _ _ _ _ _ _ _ _ _ _ _ _ _ _ _ _ _ _ _ _ _ _ _ _ _ _ _ _ _ _ _ _ _ _ _ _ _ _ _ _ _ _ _ _ _ _ _ _ _ _ _ _ _ _ _ _ _ _ _ _ _ _ _ _ _ _ _ _ _ _ _ _ _ _ _ _ _ _ _ _ w0 hI) ?_
  rintro e a w' h
  obtain ⟨y147, h⟩ := h
  obtain ⟨y148, h⟩ := h
  obtain ⟨y149, h⟩ := h
  obtain ⟨y150, h⟩ := h
  obtain ⟨y151, h⟩ := h
  obtain ⟨y152, h⟩ := h
  obtain ⟨y153, h⟩ := h
  obtain ⟨y154, h⟩ := h
  obtain ⟨y155, h⟩ := h
  obtain ⟨y156, h⟩ := h
  obtain ⟨y157, h⟩ := h
  obtain ⟨y158, h⟩ := h
  obtain ⟨y159, h⟩ := h
  obtain ⟨y160, h⟩ := h
  obtain ⟨y161, h⟩ := h
  obtain ⟨y162, h⟩ := h
  obtain ⟨y163, h⟩ := h
  obtain ⟨y164, h⟩ := h
  obtain ⟨y165, h⟩ := h
  obtain ⟨y166, h⟩ := h
  obtain ⟨y167, h⟩ := h
  obtain ⟨y168, h⟩ := h
  obtain ⟨y169, h⟩ := h
  obtain ⟨y170, h⟩ := h
  obtain ⟨y171, h⟩ := h
  obtain ⟨y172, h⟩ := h
  obtain ⟨y173, h⟩ := h
  obtain ⟨y174, h⟩ := h
  obtain ⟨y175, h⟩ := h
  obtain ⟨y176, h⟩ := h
  obtain ⟨y177, h⟩ := h
  obtain ⟨y178, h⟩ := h
  obtain ⟨y179, h⟩ := h
  obtain ⟨y180, h⟩ := h
  obtain ⟨y181, h⟩ := h
  obtain ⟨y182, h⟩ := h
  obtain ⟨y183, h⟩ := h
  obtain ⟨y184, h⟩ := h
  obtain ⟨h, rfl, hq⟩ := h
  subst h
  exact hend y147 y148 y149 y150 y151 y152 y153 y154 y155 y156 y157 y158 y159 y160 y161 y162 y163 y164 y165 y166 y167 y168 y169 y170 y171 y172 y173 y174 y175 y176 y177 y178 y179 y180 y181 y182 y183 y184 w' hq
noncomputable def fn23_a : Code := match Try.f7.body.bind (codeIf 23) with | some (.seq a _) => a | _ => .skip
noncomputable def fn23_b : Code := match Try.f7.body.bind (codeIf 23) with | some (.seq _ b) => b | _ => .skip
set_option maxRecDepth 100000 in
set_option maxHeartbeats 8000000 in
theorem fn23  (u0 u1 u2 u3 u4 u5 u6 u7 u8 u9 u10 u11 u12 u13 u14 u15 u16 u17 u18 u19 u20 u21 u22 u23 u24 u25 u26 u27 u28 u29 u30 u31 u32 u33 u34 u35 u36 u37 u38 u39 u40 u41 u42 u43 u44 u45 u46 u47 u48 u49 u50 u51 u52 u53 u54 u55 u56 u57 u58 u59 u60 u61 u62 u63 u64 u65 u66 u67 u68 u69 u70 u71 u72 u73 u74 u75 u76 u77 u78 u79 u80 u81 u82 u83 u84 u85 u86 u87 u88 u89 u90 u91 u92 u93 u94 u95 u96 u97 u98 u99 u100 u101 u102 u103 u104 u105 u106 u107 u108 u109 u110 u111 u112 u113 u114 u115 u116 u117 u118 u119 u120 u121 u122 u123 u124 u125 u126 u127 u128 u129 u130 u131 u132 u133 u134 u135 u136 u137 u138 u139 u140 u141 u142 u143 u144 u145 u146 u147 u148 u149 u150 u151 u152 u153 u154 u155 u156 u157 u158 u159 u160 u161 u162 u163 u164 u165 u166 u167 u168 u169 u170 u171 u172 u173 u174 u175 u176 u177 u178 u179 u180 u181 u182 u183 u184 u185 u186 u187 u188 u189 u190 u191 u192 u193 u194 : Value) (Q : Exit → Act → World → Prop) (K9 : Act → World → Prop) (w0 : World)  (hK9 : ∀ a w, Code.wp Try.prog fn23_b Q a w → K9 a w)
    (hend : ∀ (y0 y10 y11 y12 y125 y126 y127 y128 y129 y130 y131 y132 y133 y134 y135 y136 y137 y138 y139 y140 y141 y142 y143 y144 y145 y146 y147 y148 y149 y150 y151 y152 y153 y154 y155 y156 y157 y158 y159 y160 y161 y162 y163 y164 y165 y166 y167 y168 y169 y170 y171 y172 y173 y174 y175 y176 y177 y178 y179 y180 y181 y182 y183 y184 y185 : Value) (w' : World), Only (fun _ => False) w0 w' → Q .normal ⟨(List.toArray (y0::u1::u2::u3::u4::u5::u6::u7::u8::u9::y10::y11::y12::u13::u14::u15::u16::u17::u18::u19::u20::u21::u22::u23::u24::u25::u26::u27::u28::u29::u30::u31::u32::u33::u34::u35::u36::u37::u38::u39::u40::u41::u42::u43::u44::u45::u46::u47::u48::u49::u50::u51::u52::u53::u54::u55::u56::u57::u58::u59::u60::u61::u62::u63::u64::u65::u66::u67::u68::u69::u70::u71::u72::u73::u74::u75::u76::u77::u78::u79::u80::u81::u82::u83::u84::u85::u86::u87::u88::u89::u90::u91::u92::u93::u94::u95::u96::u97::u98::u99::u100::u101::u102::u103::u104::u105::u106::u107::u108::u109::u110::u111::u112::u113::u114::u115::u116::u117::u118::u119::u120::u121::u122::u123::u124::y125::y126::y127::y128::y129::y130::y131::y132::y133::y134::y135::y136::y137::y138::y139::y140::y141::y142::y143::y144::y145::y146::y147::y148::y149::y150::y151::y152::y153::y154::y155::y156::y157::y158::y159::y160::y161::y162::y163::y164::y165::y166::y167::y168::y169::y170::y171::y172::y173::y174::y175::y176::y177::y178::y179::y180::y181::y182::y183::y184::y185::u186::u187::u188::u189::u190::u191::u192::u193::u194::[])), []⟩ w') :
    Code.wp Try.prog fn23_a (Exit.then K9 Q) ⟨(List.toArray (u0::u1::u2::u3::u4::u5::u6::u7::u8::u9::u10::u11::u12::u13::u14::u15::u16::u17::u18::u19::u20::u21::u22::u23::u24::u25::u26::u27::u28::u29::u30::u31::u32::u33::u34::u35::u36::u37::u38::u39::u40::u41::u42::u43::u44::u45::u46::u47::u48::u49::u50::u51::u52::u53::u54::u55::u56::u57::u58::u59::u60::u61::u62::u63::u64::u65::u66::u67::u68::u69::u70::u71::u72::u73::u74::u75::u76::u77::u78::u79::u80::u81::u82::u83::u84::u85::u86::u87::u88::u89::u90::u91::u92::u93::u94::u95::u96::u97::u98::u99::u100::u101::u102::u103::u104::u105::u106::u107::u108::u109::u110::u111::u112::u113::u114::u115::u116::u117::u118::u119::u120::u121::u122::u123::u124::u125::u126::u127::u128::u129::u130::u131::u132::u133::u134::u135::u136::u137::u138::u139::u140::u141::u142::u143::u144::u145::u146::u147::u148::u149::u150::u151::u152::u153::u154::u155::u156::u157::u158::u159::u160::u161::u162::u163::u164::u165::u166::u167::u168::u169::u170::u171::u172::u173::u174::u175::u176::u177::u178::u179::u180::u181::u182::u183::u184::u185::u186::u187::u188::u189::u190::u191::u192::u193::u194::[])), []⟩ w0 := by
  conv => arg 2; whnf
  conv at hK9 => intro a w; arg 1; arg 2; whnf
  have HEND := Lib.hid hend
  clear hend
  go_wp2
  go_loopw [10] (fun i wr => ∃ k : Nat, i = .int .i64 (k : Int) ∧ k ≤ 64 ∧ Only (fun _ => False) w0 wr) (fun i _ => 64 - (intOf i).toNat)
  case atStart => exact ⟨0, rfl, by omega, Only.refl _ _⟩
  case round =>
    obtain ⟨k, rfl, hk, ho⟩ := hrel
    have O0 := Lib.hid ho
    clear ho
    by_cases hkK : k < 64
    · have hkI : (k : Int) < 64 := by omega
      have h3 := two_wrap k hkK
      have hp2 : 1 ≤ 2 ^ k := Nat.one_le_two_pow
      have hp3 : 2 ^ k ≤ 2 ^ 63 := Nat.pow_le_pow_right (by decide) (by omega)
      have e63 : (2 : Nat) ^ 63 = 9223372036854775808 := by decide
      rw [e63] at hp3
      obtain ⟨p, hp⟩ : ∃ p, 2 ^ k = p := ⟨_, rfl⟩
      rw [hp] at h3 hp2 hp3
      have w1 : IntKind.u16.wrap (k : Int) = (k : Int) := by rw [IntKind.wrap_u16]; omega
      obtain ⟨k7, hk7⟩ : ∃ x, k * 7 = x := ⟨_, rfl⟩
      have w2 : (k : Int) * 7 = (k7 : Int) := by omega
      have w2w : wrap64 (k7 : Int) = (k7 : Int) := IntWalk.wrap64_in _ (by omega)
      have w3 : IntKind.u16.wrap (k7 : Int) = (k7 : Int) := by rw [IntKind.wrap_u16]; omega
      have w4w : wrap64 ((k7 : Int) + 16) = (k7 : Int) + 16 := IntWalk.wrap64_in _ (by omega)
      have w4 : IntKind.u16.wrap ((k7 : Int) + 16) = ((k7 + 16 : Nat) : Int) := by rw [IntKind.wrap_u16]; omega
      have w5w : wrap64 ((k7 : Int) + 17) = (k7 : Int) + 17 := IntWalk.wrap64_in _ (by omega)
      have w5 : IntKind.u16.wrap ((k7 : Int) + 17) = ((k7 + 17 : Nat) : Int) := by rw [IntKind.wrap_u16]; omega
      obtain ⟨ka, hka⟩ : ∃ x, k7 + 16 = x := ⟨_, rfl⟩
      obtain ⟨kb, hkb⟩ : ∃ x, k7 + 17 = x := ⟨_, rfl⟩
      rw [hka] at w4
      rw [hkb] at w5
      have HLS := Lib.hid (show ∀ x ∈ [k, k7, ka, kb, k, 65535, 0, 15, 16], x < 65536 from by
        intro x hx
        simp only [List.mem_cons, List.mem_nil_iff, or_false] at hx
        omega)
      have HP2 := Lib.hid (show 1 ≤ p ∧ p ≤ 9223372036854775808 from ⟨hp2, hp3⟩)
      clear hp hp2 hp3 e63 hk7 hka hkb
      go_upto_region 28 with (fail)
      obtain ⟨g, hg⟩ : ∃ g, wr.heap.size = g := ⟨_, rfl⟩
      rw [hg]
      generalize hwx : World.alloc wr _ = wx
      have GX := Lib.hid (show Is wx g 75 (c16 [k, k7, ka, kb, k, 65535, 0, 15, 16]) from by rw [← hwx, ← hg]; exact Is.made wr _ _)
      have OX := Lib.hid (show Only (fun _ => False) w0 wx from by rw [← hwx]; exact O0.out.alloc _)
      clear hwx hg h3 w1 w2 w2w w3 w4w w4 w5w w5 hkI
      refine fn28 k p g (p % 65536) (p / 8 % 65536) (k * 999 % 65536) (p + p / 3) (p / 8) (p - 1) (p / 3) (k % 5) (k % 9) _ hkK HP2.out.1 HP2.out.2 rfl HLS.out rfl rfl rfl rfl rfl rfl rfl rfl rfl _ _ _ _ _ _ _ _ _ _ _ _ _ _ _ _ _ _ _ _ _ _ _ _ _ _ _ _ _ _ _ _ _ _ _ _ _ _ _ _ _ _ _ _ _ _ _ _ _ _ _ _ _ _ _ _ _ _ _ _ _ _ _ _ _ _ _ _ _ _ _ _ _ _ _ _ _ _ _ _ _ _ _ _ _ _ _ _ _ _ _ _ _ _ _ _ _ _ _ _ _ _ _ _ _ _ _ _ _ _ _ _ _ _ _ _ _ _ _ _ _ _ _ _ _ _ _ _ _ _ _ _ _ _ _ _ _ _ _ _ _ _ _ _ _ _ _ _ _ _ _ _ _ _ _ _ _ _ _ _ _ _ _ _ _ _ _ _ _ _ _ _ _ _ _ _ _ _ _ _ _ _ _ _ _ _ _ _ _ _ _ _ _ wx GX.out ?_
      rintro y147 y148 y149 y150 y151 y152 y153 y154 y155 y156 y157 y158 y159 y160 y161 y162 y163 y164 y165 y166 y167 y168 y169 y170 y171 y172 y173 y174 y175 y176 y177 y178 y179 y180 y181 y182 y183 y184 w5 ho5
      have O5 := Lib.hid (OX.out.trans ho5 (fun _ _ e => e))
      clear ho5 OX GX
      have hwk : wrap64 ((k : Int) + 1) = (k : Int) + 1 := IntWalk.wrap64_in _ (by omega)
      go_wp2
      exact fn_end k 64 w0 w5 hkK O5.out
    · have hkI : ¬ (k : Int) < 64 := by omega
      clear hkK hk
      go_wp2_with fail
      exact HEND.out _ _ _ _ _ _ _ _ _ _ _ _ _ _ _ _ _ _ _ _ _ _ _ _ _ _ _ _ _ _ _ _ _ _ _ _ _ _ _ _ _ _ _ _ _ _ _ _ _ _ _ _ _ _ _ _ _ _ _ _ _ _ _ _ _ _ O0.out
end Go.Proofs.Ytefcimkopgcagaa
