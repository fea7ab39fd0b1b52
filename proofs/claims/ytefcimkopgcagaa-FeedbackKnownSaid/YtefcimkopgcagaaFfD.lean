/- FeedbackKnown: packets with bodies cut, doubled and turned. Conditions: as each says. -/
import Derived.Test.YtefcimkopgcagaaFfC
import Derived.Laws.BitsAllLaws
set_option linter.unusedVariables false
set_option linter.unusedSimpArgs false
namespace Go.Proofs.Ytefcimkopgcagaa
open Go.RowKit

theorem own_baseK {w : World} {B n sz : Nat} {T : TypeId} {v : Value} {xs : List Value} (h : w.ownsRow B T sz v n xs) {k : Nat} (hk : v.ownBlock = some k) : B ≤ k := (h.lt k hk).1
theorem src_pre {w : World} {B L n c : Nat} {A : Option Addr} {bs : List Nat} (h : w.ownsRow B 5 1 (.slice A L c) L (cellsOf bs)) (hL : bs.length = L) (hn : n ≤ L) : Src w (.slice A n c) (bs.take n) := by
  rcases h.2 with ⟨e, h0⟩ | ⟨g, cap, cur, e, _⟩
  · injection e with e1 e2 e3
    subst e1 e2 e3
    obtain rfl : n = 0 := by omega
    exact .inl ⟨rfl, by simp⟩
  · injection e with e1 e2 e3
    subst e1 e3
    have hs : Src w (.slice (some ⟨g, 0, none⟩) L c) bs := Src.of_own (by rw [hL]; exact h)
    exact src_take hs n (by omega)
def fn14_A : List (List Nat) := ([]::[0]::[]::[2]::[]::[4]::[]::[5, 6, 4]::(1::3::7::0::2::5::6::4::[])::[]::(9::8::0::1::2::3::4::5::6::7::[])::[])
def fn14_kill : List (List Nat) := ([]::[]::[]::[]::[]::[]::[]::[]::[]::[]::[9]::[])
def fn14_uses : List (List Nat) := ([]::[]::[]::[]::[]::[]::[]::[]::[]::[]::[9]::[])
noncomputable def fn14_code : Code := ((Try.f7.body.bind (codeRegion 14)).getD .skip)
set_option maxRecDepth 100000 in
set_option maxHeartbeats 4000000 in
theorem fn14_in (ct kd L c n xb B : Nat) (A : Option Addr) (bs : List Nat) (hn : n ≤ L) (hL : bs.length = L) (hl : L ≤ 100000) (u0 u1 u2 u3 u5 u7 u8 u9 u10 u11 u12 u13 u14 u15 u16 u17 u18 u19 u20 u21 u22 u23 u24 u25 u26 u27 u28 u29 u30 u31 u32 u33 u34 u35 u36 u37 u38 u39 u40 u41 u42 u43 u44 u45 u46 u47 u48 u49 u50 u51 u52 u53 u54 u55 u56 u57 u58 u59 u60 u61 u62 u63 u64 u65 u66 u67 u68 u69 u70 u71 u72 u73 u74 u75 u76 u77 u78 u79 u80 u81 u82 u83 u84 u85 u86 u87 u88 u89 u90 u91 u92 u93 u94 u95 u96 u97 u98 u99 u100 u101 u102 u103 u104 u105 u106 u107 u108 u109 u110 u111 u112 u113 u114 u115 u116 u117 u118 u119 u120 u121 u122 u123 u124 u125 u126 u127 u128 u129 u130 u131 u132 u133 u134 u135 u136 u137 u138 u139 u140 u141 u142 u143 u144 u145 u146 u147 u148 u149 u150 u151 u152 u153 u154 u155 u156 u157 u158 u159 u160 u161 u162 u163 u164 u165 u166 u167 u168 u169 u170 u171 u172 u173 u174 u175 u176 u177 u178 u179 u180 u181 u182 u183 u184 u185 u186 u187 u188 u189 u190 u191 u192 u193 u194 : Value) (w0 : World) (hX : Is w0 xb 37 #[.int .u8 (ct : Nat), .int .u8 (kd : Nat), .slice A L c, .int .u8 (0 : Nat)]) (hU0 : w0.ownsRow B 5 1 (.slice A L c) L (cellsOf bs)) :
    Code.wp Try.prog fn14_code (fun e a w' => ∃ y7 y52 y53 y54 y55 y56 y57 y58 y59 y60 : Value, a = ⟨(List.toArray (u0::u1::u2::u3::.pointer (some ⟨xb, 0, none⟩)::u5::.int .i64 (n : Nat)::y7::u8::u9::u10::u11::u12::u13::u14::u15::u16::u17::u18::u19::u20::u21::u22::u23::u24::u25::u26::u27::u28::u29::u30::u31::u32::u33::u34::u35::u36::u37::u38::u39::u40::u41::u42::u43::u44::u45::u46::u47::u48::u49::u50::u51::y52::y53::y54::y55::y56::y57::y58::y59::y60::u61::u62::u63::u64::u65::u66::u67::u68::u69::u70::u71::u72::u73::u74::u75::u76::u77::u78::u79::u80::u81::u82::u83::u84::u85::u86::u87::u88::u89::u90::u91::u92::u93::u94::u95::u96::u97::u98::u99::u100::u101::u102::u103::u104::u105::u106::u107::u108::u109::u110::u111::u112::u113::u114::u115::u116::u117::u118::u119::u120::u121::u122::u123::u124::u125::u126::u127::u128::u129::u130::u131::u132::u133::u134::u135::u136::u137::u138::u139::u140::u141::u142::u143::u144::u145::u146::u147::u148::u149::u150::u151::u152::u153::u154::u155::u156::u157::u158::u159::u160::u161::u162::u163::u164::u165::u166::u167::u168::u169::u170::u171::u172::u173::u174::u175::u176::u177::u178::u179::u180::u181::u182::u183::u184::u185::u186::u187::u188::u189::u190::u191::u192::u193::u194::[])), []⟩ ∧ e = .normal ∧ (∃ mb, y7 = .pointer (some ⟨mb, 0, none⟩) ∧ w0.heap.size ≤ mb ∧ Is w' mb 41 #[.int .u8 (ct : Nat), .int .u8 (kd : Nat), .slice A n c, .int .u8 (0 : Nat)] ∧ Only (fun _ => False) w0 w')) ⟨(List.toArray (u0::u1::u2::u3::.pointer (some ⟨xb, 0, none⟩)::u5::.int .i64 (n : Nat)::u7::u8::u9::u10::u11::u12::u13::u14::u15::u16::u17::u18::u19::u20::u21::u22::u23::u24::u25::u26::u27::u28::u29::u30::u31::u32::u33::u34::u35::u36::u37::u38::u39::u40::u41::u42::u43::u44::u45::u46::u47::u48::u49::u50::u51::u52::u53::u54::u55::u56::u57::u58::u59::u60::u61::u62::u63::u64::u65::u66::u67::u68::u69::u70::u71::u72::u73::u74::u75::u76::u77::u78::u79::u80::u81::u82::u83::u84::u85::u86::u87::u88::u89::u90::u91::u92::u93::u94::u95::u96::u97::u98::u99::u100::u101::u102::u103::u104::u105::u106::u107::u108::u109::u110::u111::u112::u113::u114::u115::u116::u117::u118::u119::u120::u121::u122::u123::u124::u125::u126::u127::u128::u129::u130::u131::u132::u133::u134::u135::u136::u137::u138::u139::u140::u141::u142::u143::u144::u145::u146::u147::u148::u149::u150::u151::u152::u153::u154::u155::u156::u157::u158::u159::u160::u161::u162::u163::u164::u165::u166::u167::u168::u169::u170::u171::u172::u173::u174::u175::u176::u177::u178::u179::u180::u181::u182::u183::u184::u185::u186::u187::u188::u189::u190::u191::u192::u193::u194::[])), []⟩ w0 := by
  conv => arg 2; whnf
  have HX := Lib.hid hX
  have HNL := Lib.hid hn
  have HU0 := Lib.hid hU0
  have HLL := Lib.hid hL
  have HA := Lib.hid (show (A = none ∧ L = 0 ∧ c = 0) ∨ ∃ g, A = some (⟨g, 0, none⟩ : Addr) from by
    rcases hU0.2 with ⟨e, _⟩ | ⟨g, cap, cur, e, _⟩
    · injection e with e1 e2 e3
      exact .inl ⟨e1, e2, e3⟩
    · injection e with e1 e2 e3
      exact .inr ⟨g, e1⟩)
  have HLC := Lib.hid (show L ≤ c from by
    rcases hU0.2 with ⟨e, h0⟩ | ⟨g, cap, cur, e, _, _, h3, _⟩
    · omega
    · injection e with e1 e2 e3
      omega)
  clear hX hU0 hn hL
  refine wp_region_posts fn14_A [9, 10] [9, 10] fn14_kill fn14_uses [10] [] [] []
      (some ?v0::some ?v1::some ?v2::some ?v3::some ?v4::some ?v5::some ?v6::some (.slice A n c)::some ?v8::none::none::[])
      ?T (fun wx => Only (fun _ => False) w0 wx) ?W ?E (by kernel_rfl) (by kernel_rfl) (by kernel_rfl) (fun x => ?hT) ?hF ?hini (Reg.all_ops ?runs) ?pres ?fin
  case W => exact fun j x wz => match j with | 9 => ∃ mb, x 9 = .pointer (some ⟨mb, 0, none⟩) ∧ w0.heap.size ≤ mb ∧ Is wz mb 41 #[.int .u8 0, .int .u8 0, .slice none 0 0, .int .u8 0] | 10 => ∃ mb, x 9 = .pointer (some ⟨mb, 0, none⟩) ∧ w0.heap.size ≤ mb ∧ Is wz mb 41 #[.int .u8 (ct : Nat), .int .u8 (kd : Nat), .slice A n c, .int .u8 (0 : Nat)] | _ => True
  case E => exact fun i wx wy => match i with | 9 => Only (fun _ => False) wx wy | _ => True
  case hT =>
    simp only [Reg.fillV, Act.put, List.setIfInBounds_toArray, List.set_cons_zero, List.set_cons_succ]
    rfl
  case runs =>
    refine And.intro ?_ ?_
    · refine Reg.ob_pure (fun _ => rfl) rfl rfl rfl rfl (fun x w1 hF => ?_)
      have hQX := HX.out.only hF (by simp)
      have m0 := hQX.cell 0
      have m1 := hQX.cell 1
      have m2 := hQX.cell 2
      have m3 := hQX.cell 3
      simp at m0 m1 m2 m3
      clear hQX
      go_simp
      with_reducible rfl
    refine And.intro ?_ ?_
    · refine Reg.ob_pure (fun _ => rfl) rfl rfl rfl rfl (fun x w1 hF => ?_)
      have hQX := HX.out.only hF (by simp)
      have m0 := hQX.cell 0
      have m1 := hQX.cell 1
      have m2 := hQX.cell 2
      have m3 := hQX.cell 3
      simp at m0 m1 m2 m3
      clear hQX
      go_simp
      with_reducible rfl
    refine And.intro ?_ ?_
    · refine Reg.ob_pure (fun _ => rfl) rfl rfl rfl rfl (fun x w1 hF => ?_)
      have hQX := HX.out.only hF (by simp)
      have m0 := hQX.cell 0
      have m1 := hQX.cell 1
      have m2 := hQX.cell 2
      have m3 := hQX.cell 3
      simp at m0 m1 m2 m3
      clear hQX
      go_simp
      with_reducible rfl
    refine And.intro ?_ ?_
    · refine Reg.ob_pure (fun _ => rfl) rfl rfl rfl rfl (fun x w1 hF => ?_)
      have hQX := HX.out.only hF (by simp)
      have m0 := hQX.cell 0
      have m1 := hQX.cell 1
      have m2 := hQX.cell 2
      have m3 := hQX.cell 3
      simp at m0 m1 m2 m3
      clear hQX
      go_simp
      with_reducible rfl
    refine And.intro ?_ ?_
    · refine Reg.ob_pure (fun _ => rfl) rfl rfl rfl rfl (fun x w1 hF => ?_)
      have hQX := HX.out.only hF (by simp)
      have m0 := hQX.cell 0
      have m1 := hQX.cell 1
      have m2 := hQX.cell 2
      have m3 := hQX.cell 3
      simp at m0 m1 m2 m3
      clear hQX
      go_simp
      with_reducible rfl
    refine And.intro ?_ ?_
    · refine Reg.ob_pure (fun _ => rfl) rfl rfl rfl rfl (fun x w1 hF => ?_)
      have hQX := HX.out.only hF (by simp)
      have m0 := hQX.cell 0
      have m1 := hQX.cell 1
      have m2 := hQX.cell 2
      have m3 := hQX.cell 3
      simp at m0 m1 m2 m3
      clear hQX
      go_simp
      with_reducible rfl
    refine And.intro ?_ ?_
    · refine Reg.ob_pure (fun _ => rfl) rfl rfl rfl rfl (fun x w1 hF => ?_)
      have hQX := HX.out.only hF (by simp)
      have m0 := hQX.cell 0
      have m1 := hQX.cell 1
      have m2 := hQX.cell 2
      have m3 := hQX.cell 3
      simp at m0 m1 m2 m3
      clear hQX
      go_simp
      with_reducible rfl
    refine And.intro ?_ ?_
    · refine Reg.ob_pure (fun _ => rfl) rfl rfl rfl rfl (fun x w1 hF => ?_)
      have hQX := HX.out.only hF (by simp)
      have m0 := hQX.cell 0
      have m1 := hQX.cell 1
      have m2 := hQX.cell 2
      have m3 := hQX.cell 3
      simp at m0 m1 m2 m3
      clear hQX
      have hn := HNL.out
      have hnc : (n : Int) ≤ (c : Int) := by have := HLC.out; omega
      rcases HA.out with ⟨rfl, rfl, rfl⟩ | ⟨g, rfl⟩
      · obtain rfl : n = 0 := by omega
        go_simp
      · go_simp
    refine And.intro ?_ ?_
    · refine Reg.ob_pure (fun _ => rfl) rfl rfl rfl rfl (fun x w1 hF => ?_)
      have hQX := HX.out.only hF (by simp)
      have m0 := hQX.cell 0
      have m1 := hQX.cell 1
      have m2 := hQX.cell 2
      have m3 := hQX.cell 3
      simp at m0 m1 m2 m3
      clear hQX
      go_simp
      with_reducible rfl
    refine And.intro ?_ ?_
    · refine Reg.ob_some (fun _ => rfl) rfl (fun x w1 hF hU K hK => ?_)
      replace hF := hF rfl
      go_simp
      exact hK _ _ (fun _ _ _ => hF.alloc _) ((Only.refl _ _).alloc _) ⟨_, rfl, hF.size, Is.made _ _ _⟩
    refine And.intro ?_ ?_
    · refine Reg.ob_some (fun _ => rfl) rfl (fun x w1 hF hU K hK => ?_)
      replace hF := hF rfl
      obtain ⟨⟨mb, h9, hge, hI⟩, -⟩ := hU
      have h9 : x 9 = .pointer (some ⟨mb, 0, none⟩) := h9
      revert hK
      simp only [Nat.reduceAdd, h9]
      intro hK
      refine wp_store_row 41 _ _ rfl mb #[.int .u8 (ct : Nat), .int .u8 (kd : Nat), .slice A n c, .int .u8 (0 : Nat)] rfl rfl 41 _ hI Try.sizeRt rfl (by simp [Value.oneCell']) ?_
      have ho : Only (fun k => k = mb) w1 (w1.setRow mb #[.int .u8 (ct : Nat), .int .u8 (kd : Nat), .slice A n c, .int .u8 (0 : Nat)]) := Only.setRow (S := fun k => k = mb) (Only.refl _ w1) (fun _ => rfl) _
      exact hK undef _ (fun _ _ _ => hF.trans ho (fun i hi e => by omega)) trivial ⟨mb, h9, hge, Is.setRow hI _⟩
    exact trivial
  case hF =>
    exact (Only.refl _ w0).drewN 1
  case hini =>
    exact trivial
  case pres =>
    intro i hi j hj hc x wx wy hF hE hW
    simp only [List.mem_cons, List.mem_nil_iff, or_false] at hi hj
    rcases hi with rfl | rfl <;> rcases hj with rfl | rfl
    all_goals (exfalso; revert hc; decide)
  case fin =>
    rintro x w9 hF hU
    obtain ⟨⟨mb, h9, hge, hI⟩, -⟩ := hU
    repeat apply Exists.intro
    exact ⟨rfl, rfl, mb, h9, hge, hI, hF rfl⟩

set_option maxRecDepth 100000 in
set_option maxHeartbeats 4000000 in
theorem fn14 (ct kd L c n xb B : Nat) (A : Option Addr) (bs : List Nat) (hn : n ≤ L) (hL : bs.length = L) (hl : L ≤ 100000) (u0 u1 u2 u3 u5 u7 u8 u9 u10 u11 u12 u13 u14 u15 u16 u17 u18 u19 u20 u21 u22 u23 u24 u25 u26 u27 u28 u29 u30 u31 u32 u33 u34 u35 u36 u37 u38 u39 u40 u41 u42 u43 u44 u45 u46 u47 u48 u49 u50 u51 u52 u53 u54 u55 u56 u57 u58 u59 u60 u61 u62 u63 u64 u65 u66 u67 u68 u69 u70 u71 u72 u73 u74 u75 u76 u77 u78 u79 u80 u81 u82 u83 u84 u85 u86 u87 u88 u89 u90 u91 u92 u93 u94 u95 u96 u97 u98 u99 u100 u101 u102 u103 u104 u105 u106 u107 u108 u109 u110 u111 u112 u113 u114 u115 u116 u117 u118 u119 u120 u121 u122 u123 u124 u125 u126 u127 u128 u129 u130 u131 u132 u133 u134 u135 u136 u137 u138 u139 u140 u141 u142 u143 u144 u145 u146 u147 u148 u149 u150 u151 u152 u153 u154 u155 u156 u157 u158 u159 u160 u161 u162 u163 u164 u165 u166 u167 u168 u169 u170 u171 u172 u173 u174 u175 u176 u177 u178 u179 u180 u181 u182 u183 u184 u185 u186 u187 u188 u189 u190 u191 u192 u193 u194 : Value) (Q : Exit → Act → World → Prop) (w0 : World) (hX : Is w0 xb 37 #[.int .u8 (ct : Nat), .int .u8 (kd : Nat), .slice A L c, .int .u8 (0 : Nat)]) (hU0 : w0.ownsRow B 5 1 (.slice A L c) L (cellsOf bs))
    (hend : ∀ (y7 y52 y53 y54 y55 y56 y57 y58 y59 y60 : Value) (w' : World), (∃ mb, y7 = .pointer (some ⟨mb, 0, none⟩) ∧ w0.heap.size ≤ mb ∧ Is w' mb 41 #[.int .u8 (ct : Nat), .int .u8 (kd : Nat), .slice A n c, .int .u8 (0 : Nat)] ∧ Only (fun _ => False) w0 w') → Q .normal ⟨(List.toArray (u0::u1::u2::u3::.pointer (some ⟨xb, 0, none⟩)::u5::.int .i64 (n : Nat)::y7::u8::u9::u10::u11::u12::u13::u14::u15::u16::u17::u18::u19::u20::u21::u22::u23::u24::u25::u26::u27::u28::u29::u30::u31::u32::u33::u34::u35::u36::u37::u38::u39::u40::u41::u42::u43::u44::u45::u46::u47::u48::u49::u50::u51::y52::y53::y54::y55::y56::y57::y58::y59::y60::u61::u62::u63::u64::u65::u66::u67::u68::u69::u70::u71::u72::u73::u74::u75::u76::u77::u78::u79::u80::u81::u82::u83::u84::u85::u86::u87::u88::u89::u90::u91::u92::u93::u94::u95::u96::u97::u98::u99::u100::u101::u102::u103::u104::u105::u106::u107::u108::u109::u110::u111::u112::u113::u114::u115::u116::u117::u118::u119::u120::u121::u122::u123::u124::u125::u126::u127::u128::u129::u130::u131::u132::u133::u134::u135::u136::u137::u138::u139::u140::u141::u142::u143::u144::u145::u146::u147::u148::u149::u150::u151::u152::u153::u154::u155::u156::u157::u158::u159::u160::u161::u162::u163::u164::u165::u166::u167::u168::u169::u170::u171::u172::u173::u174::u175::u176::u177::u178::u179::u180::u181::u182::u183::u184::u185::u186::u187::u188::u189::u190::u191::u192::u193::u194::[])), []⟩ w') :
    Code.wp Try.prog fn14_code Q ⟨(List.toArray (u0::u1::u2::u3::.pointer (some ⟨xb, 0, none⟩)::u5::.int .i64 (n : Nat)::u7::u8::u9::u10::u11::u12::u13::u14::u15::u16::u17::u18::u19::u20::u21::u22::u23::u24::u25::u26::u27::u28::u29::u30::u31::u32::u33::u34::u35::u36::u37::u38::u39::u40::u41::u42::u43::u44::u45::u46::u47::u48::u49::u50::u51::u52::u53::u54::u55::u56::u57::u58::u59::u60::u61::u62::u63::u64::u65::u66::u67::u68::u69::u70::u71::u72::u73::u74::u75::u76::u77::u78::u79::u80::u81::u82::u83::u84::u85::u86::u87::u88::u89::u90::u91::u92::u93::u94::u95::u96::u97::u98::u99::u100::u101::u102::u103::u104::u105::u106::u107::u108::u109::u110::u111::u112::u113::u114::u115::u116::u117::u118::u119::u120::u121::u122::u123::u124::u125::u126::u127::u128::u129::u130::u131::u132::u133::u134::u135::u136::u137::u138::u139::u140::u141::u142::u143::u144::u145::u146::u147::u148::u149::u150::u151::u152::u153::u154::u155::u156::u157::u158::u159::u160::u161::u162::u163::u164::u165::u166::u167::u168::u169::u170::u171::u172::u173::u174::u175::u176::u177::u178::u179::u180::u181::u182::u183::u184::u185::u186::u187::u188::u189::u190::u191::u192::u193::u194::[])), []⟩ w0 := by
  refine wp_mono (fn14_in ct kd L c n xb B A bs hn hL hl _ _ _ _ _ _ _ _ _ _ _ _ _ _ _ _ _ _ _ _ _ _ _ _ _ _ _ _ _ _ _ _ _ _ _ _ _ _ _ _ _ _ _ _ _ _ _ _ _ _ _ _ _ _ _ _ _ _ _ _ _ _ _ _ _ _ _ _ _ _ _ _ _ _ _ _ _ _ _ _ _ _ _ _ _ _ _ _ _ _ _ _ _ _ _ _ _ _ _ _ _ _ _ _ _ _ _ _ _ _ _ _ _ _ _ _ _ _ _ _ _ _ _ _ _ _ _ _ _ _ _ _ _ _ _ _ _ _ _ _ _ _ _ _ _ _ _ _ _ _ _ _ _ _ _ _ _ _ _ _ _ _ _ _ _ _ _ _ _ _ _ _ _ _ _ _ _ _ _ _ _ _ _ _ _ _ _ _ _ _ _ _ _ w0 hX hU0) ?_
  rintro e a w' h
  obtain ⟨y7, h⟩ := h
  obtain ⟨y52, h⟩ := h
  obtain ⟨y53, h⟩ := h
  obtain ⟨y54, h⟩ := h
  obtain ⟨y55, h⟩ := h
  obtain ⟨y56, h⟩ := h
  obtain ⟨y57, h⟩ := h
  obtain ⟨y58, h⟩ := h
  obtain ⟨y59, h⟩ := h
  obtain ⟨y60, h⟩ := h
  obtain ⟨h, rfl, hq⟩ := h
  subst h
  exact hend y7 y52 y53 y54 y55 y56 y57 y58 y59 y60 w' hq
def fn15_A : List (List Nat) := ([]::[0]::[]::[2]::[]::[4]::[5, 4]::[]::[7]::[]::[8, 9, 7]::[6, 10, 5, 4, 8, 9, 7]::(1::3::11::0::2::6::10::5::4::8::9::7::[])::[]::(13::12::11::0::1::2::3::4::5::6::7::8::9::10::[])::[])
def fn15_kill : List (List Nat) := ([]::[]::[]::[]::[]::[]::[]::[]::[]::[]::[]::[6]::[]::[]::[6, 11, 12, 13]::[])
def fn15_uses : List (List Nat) := ([]::[]::[]::[]::[]::[]::[]::[]::[]::[]::[]::[6]::[11]::[]::[13, 12]::[])
noncomputable def fn15_code : Code := ((Try.f7.body.bind (codeRegion 15)).getD .skip)
set_option maxRecDepth 100000 in
set_option maxHeartbeats 4000000 in
theorem fn15_in (ct kd L c n xb B : Nat) (A : Option Addr) (bs : List Nat) (hn : n ≤ L) (hL : bs.length = L) (hl : L ≤ 100000) (u0 u1 u2 u3 u5 u7 u8 u9 u10 u11 u12 u13 u14 u15 u16 u17 u18 u19 u20 u21 u22 u23 u24 u25 u26 u27 u28 u29 u30 u31 u32 u33 u34 u35 u36 u37 u38 u39 u40 u41 u42 u43 u44 u45 u46 u47 u48 u49 u50 u51 u52 u53 u54 u55 u56 u57 u58 u59 u60 u61 u62 u63 u64 u65 u66 u67 u68 u69 u70 u71 u72 u73 u74 u75 u76 u77 u78 u79 u80 u81 u82 u83 u84 u85 u86 u87 u88 u89 u90 u91 u92 u93 u94 u95 u96 u97 u98 u99 u100 u101 u102 u103 u104 u105 u106 u107 u108 u109 u110 u111 u112 u113 u114 u115 u116 u117 u118 u119 u120 u121 u122 u123 u124 u125 u126 u127 u128 u129 u130 u131 u132 u133 u134 u135 u136 u137 u138 u139 u140 u141 u142 u143 u144 u145 u146 u147 u148 u149 u150 u151 u152 u153 u154 u155 u156 u157 u158 u159 u160 u161 u162 u163 u164 u165 u166 u167 u168 u169 u170 u171 u172 u173 u174 u175 u176 u177 u178 u179 u180 u181 u182 u183 u184 u185 u186 u187 u188 u189 u190 u191 u192 u193 u194 : Value) (w0 : World) (hX : Is w0 xb 37 #[.int .u8 (ct : Nat), .int .u8 (kd : Nat), .slice A L c, .int .u8 (0 : Nat)]) (hU0 : w0.ownsRow B 5 1 (.slice A L c) L (cellsOf bs)) :
    Code.wp Try.prog fn15_code (fun e a w' => ∃ y8 y61 y62 y63 y64 y65 y66 y67 y68 y69 y70 y71 y72 y73 : Value, a = ⟨(List.toArray (u0::u1::u2::u3::.pointer (some ⟨xb, 0, none⟩)::u5::.int .i64 (n : Nat)::u7::y8::u9::u10::u11::u12::u13::u14::u15::u16::u17::u18::u19::u20::u21::u22::u23::u24::u25::u26::u27::u28::u29::u30::u31::u32::u33::u34::u35::u36::u37::u38::u39::u40::u41::u42::u43::u44::u45::u46::u47::u48::u49::u50::u51::u52::u53::u54::u55::u56::u57::u58::u59::u60::y61::y62::y63::y64::y65::y66::y67::y68::y69::y70::y71::y72::y73::u74::u75::u76::u77::u78::u79::u80::u81::u82::u83::u84::u85::u86::u87::u88::u89::u90::u91::u92::u93::u94::u95::u96::u97::u98::u99::u100::u101::u102::u103::u104::u105::u106::u107::u108::u109::u110::u111::u112::u113::u114::u115::u116::u117::u118::u119::u120::u121::u122::u123::u124::u125::u126::u127::u128::u129::u130::u131::u132::u133::u134::u135::u136::u137::u138::u139::u140::u141::u142::u143::u144::u145::u146::u147::u148::u149::u150::u151::u152::u153::u154::u155::u156::u157::u158::u159::u160::u161::u162::u163::u164::u165::u166::u167::u168::u169::u170::u171::u172::u173::u174::u175::u176::u177::u178::u179::u180::u181::u182::u183::u184::u185::u186::u187::u188::u189::u190::u191::u192::u193::u194::[])), []⟩ ∧ e = .normal ∧ (∃ mb A2 c2, y8 = .pointer (some ⟨mb, 0, none⟩) ∧ Is w' mb 41 #[.int .u8 (ct : Nat), .int .u8 (kd : Nat), .slice A2 (L + n) c2, .int .u8 (4 : Nat)] ∧ Src w' (.slice A2 (L + n) c2) (bs ++ bs.take n) ∧ Only (fun _ => False) w0 w')) ⟨(List.toArray (u0::u1::u2::u3::.pointer (some ⟨xb, 0, none⟩)::u5::.int .i64 (n : Nat)::u7::u8::u9::u10::u11::u12::u13::u14::u15::u16::u17::u18::u19::u20::u21::u22::u23::u24::u25::u26::u27::u28::u29::u30::u31::u32::u33::u34::u35::u36::u37::u38::u39::u40::u41::u42::u43::u44::u45::u46::u47::u48::u49::u50::u51::u52::u53::u54::u55::u56::u57::u58::u59::u60::u61::u62::u63::u64::u65::u66::u67::u68::u69::u70::u71::u72::u73::u74::u75::u76::u77::u78::u79::u80::u81::u82::u83::u84::u85::u86::u87::u88::u89::u90::u91::u92::u93::u94::u95::u96::u97::u98::u99::u100::u101::u102::u103::u104::u105::u106::u107::u108::u109::u110::u111::u112::u113::u114::u115::u116::u117::u118::u119::u120::u121::u122::u123::u124::u125::u126::u127::u128::u129::u130::u131::u132::u133::u134::u135::u136::u137::u138::u139::u140::u141::u142::u143::u144::u145::u146::u147::u148::u149::u150::u151::u152::u153::u154::u155::u156::u157::u158::u159::u160::u161::u162::u163::u164::u165::u166::u167::u168::u169::u170::u171::u172::u173::u174::u175::u176::u177::u178::u179::u180::u181::u182::u183::u184::u185::u186::u187::u188::u189::u190::u191::u192::u193::u194::[])), []⟩ w0 := by
  conv => arg 2; whnf
  have HX := Lib.hid hX
  have HNL := Lib.hid hn
  have HU0 := Lib.hid hU0
  have HLL := Lib.hid hL
  have HA := Lib.hid (show (A = none ∧ L = 0 ∧ c = 0) ∨ ∃ g, A = some (⟨g, 0, none⟩ : Addr) from by
    rcases hU0.2 with ⟨e, _⟩ | ⟨g, cap, cur, e, _⟩
    · injection e with e1 e2 e3
      exact .inl ⟨e1, e2, e3⟩
    · injection e with e1 e2 e3
      exact .inr ⟨g, e1⟩)
  have HLC := Lib.hid (show L ≤ c from by
    rcases hU0.2 with ⟨e, h0⟩ | ⟨g, cap, cur, e, _, _, h3, _⟩
    · omega
    · injection e with e1 e2 e3
      omega)
  have HSU := Lib.hid (show Src w0 (.slice A L c) bs from Src.of_own (by rw [hL]; exact hU0))
  have HSP := Lib.hid (src_pre hU0 hL hn)
  clear hX hU0 hn hL
  refine wp_region_posts fn15_A [6, 11, 13, 14] [6, 11, 12, 13, 14] fn15_kill fn15_uses [14] [] [] []
      (some ?v0::some ?v1::some ?v2::some ?v3::some ?v4::some ?v5::none::some ?v7::some ?v8::some ?v9::some (.slice A n c)::none::none::none::none::[])
      ?T (fun wx => Only (fun _ => False) w0 wx) ?W ?E (by kernel_rfl) (by kernel_rfl) (by kernel_rfl) (fun x => ?hT) ?hF ?hini (Reg.all_ops ?runs) ?pres ?fin
  case W => exact fun j x wz => match j with | 6 => ∃ A2 c2, x 6 = .slice A2 L c2 ∧ wz.ownsRow w0.heap.size 5 1 (.slice A2 L c2) L (cellsOf bs) | 11 => ∃ A2 c2, x 11 = .slice A2 (L + n) c2 ∧ wz.ownsRow w0.heap.size 5 1 (.slice A2 (L + n) c2) (L + n) (cellsOf (bs ++ bs.take n)) | 12 => ∃ A2 c2, x 12 = .agg #[.int .u8 (ct : Nat), .int .u8 (kd : Nat), .slice A2 (L + n) c2, .int .u8 (4 : Nat)] ∧ wz.ownsRow w0.heap.size 5 1 (.slice A2 (L + n) c2) (L + n) (cellsOf (bs ++ bs.take n)) | 13 => ∃ mb, x 13 = .pointer (some ⟨mb, 0, none⟩) ∧ w0.heap.size ≤ mb ∧ Is wz mb 41 #[.int .u8 0, .int .u8 0, .slice none 0 0, .int .u8 0] | 14 => ∃ mb A2 c2, x 13 = .pointer (some ⟨mb, 0, none⟩) ∧ w0.heap.size ≤ mb ∧ Is wz mb 41 #[.int .u8 (ct : Nat), .int .u8 (kd : Nat), .slice A2 (L + n) c2, .int .u8 (4 : Nat)] ∧ wz.ownsRow w0.heap.size 5 1 (.slice A2 (L + n) c2) (L + n) (cellsOf (bs ++ bs.take n)) | _ => True
  case E => exact fun i wx wy => match i with | 6 => Only (fun _ => False) wx wy | 11 => ∃ S, Only S wx wy ∧ ∀ b cs, Is wx b 41 cs → ¬ S b | 13 => Only (fun _ => False) wx wy | _ => True
  case hT =>
    simp only [Reg.fillV, Act.put, List.setIfInBounds_toArray, List.set_cons_zero, List.set_cons_succ]
    rfl
  case runs =>
    refine And.intro ?_ ?_
    · refine Reg.ob_pure (fun _ => rfl) rfl rfl rfl rfl (fun x w1 hF => ?_)
      have hQX := HX.out.only hF (by simp)
      have m0 := hQX.cell 0
      have m1 := hQX.cell 1
      have m2 := hQX.cell 2
      have m3 := hQX.cell 3
      simp at m0 m1 m2 m3
      clear hQX
      go_simp
      with_reducible rfl
    refine And.intro ?_ ?_
    · refine Reg.ob_pure (fun _ => rfl) rfl rfl rfl rfl (fun x w1 hF => ?_)
      have hQX := HX.out.only hF (by simp)
      have m0 := hQX.cell 0
      have m1 := hQX.cell 1
      have m2 := hQX.cell 2
      have m3 := hQX.cell 3
      simp at m0 m1 m2 m3
      clear hQX
      go_simp
      with_reducible rfl
    refine And.intro ?_ ?_
    · refine Reg.ob_pure (fun _ => rfl) rfl rfl rfl rfl (fun x w1 hF => ?_)
      have hQX := HX.out.only hF (by simp)
      have m0 := hQX.cell 0
      have m1 := hQX.cell 1
      have m2 := hQX.cell 2
      have m3 := hQX.cell 3
      simp at m0 m1 m2 m3
      clear hQX
      go_simp
      with_reducible rfl
    refine And.intro ?_ ?_
    · refine Reg.ob_pure (fun _ => rfl) rfl rfl rfl rfl (fun x w1 hF => ?_)
      have hQX := HX.out.only hF (by simp)
      have m0 := hQX.cell 0
      have m1 := hQX.cell 1
      have m2 := hQX.cell 2
      have m3 := hQX.cell 3
      simp at m0 m1 m2 m3
      clear hQX
      go_simp
      with_reducible rfl
    refine And.intro ?_ ?_
    · refine Reg.ob_pure (fun _ => rfl) rfl rfl rfl rfl (fun x w1 hF => ?_)
      have hQX := HX.out.only hF (by simp)
      have m0 := hQX.cell 0
      have m1 := hQX.cell 1
      have m2 := hQX.cell 2
      have m3 := hQX.cell 3
      simp at m0 m1 m2 m3
      clear hQX
      go_simp
      with_reducible rfl
    refine And.intro ?_ ?_
    · refine Reg.ob_pure (fun _ => rfl) rfl rfl rfl rfl (fun x w1 hF => ?_)
      have hQX := HX.out.only hF (by simp)
      have m0 := hQX.cell 0
      have m1 := hQX.cell 1
      have m2 := hQX.cell 2
      have m3 := hQX.cell 3
      simp at m0 m1 m2 m3
      clear hQX
      go_simp
      with_reducible rfl
    refine And.intro ?_ ?_
    · refine Reg.ob_some (fun _ => rfl) rfl (fun x w1 hF hU K hK => ?_)
      have hQX := HX.out.only (hF rfl) (by simp)
      have m0 := hQX.cell 0
      have m1 := hQX.cell 1
      have m2 := hQX.cell 2
      have m3 := hQX.cell 3
      simp at m0 m1 m2 m3
      clear hQX
      replace hF := hF rfl
      have HT := kitown_is (.slice A L c) bs w1 w0.heap.size hF.size (HSU.out.of_only hF) (by have := HLL.out; omega)
      go_simp
      refine HT.mono ?_
      rintro e w5 ⟨v5, rfl, hown, ho, -⟩
      rw [length_cellsOf, HLL.out] at hown
      obtain ⟨A2, c2, rfl, -⟩ := own_slice hown
      exact hK _ w5 (fun _ _ _ => hF.trans ho (fun _ _ e => e)) ho ⟨A2, c2, rfl, hown⟩
    refine And.intro ?_ ?_
    · refine Reg.ob_pure (fun _ => rfl) rfl rfl rfl rfl (fun x w1 hF => ?_)
      have hQX := HX.out.only hF (by simp)
      have m0 := hQX.cell 0
      have m1 := hQX.cell 1
      have m2 := hQX.cell 2
      have m3 := hQX.cell 3
      simp at m0 m1 m2 m3
      clear hQX
      go_simp
      with_reducible rfl
    refine And.intro ?_ ?_
    · refine Reg.ob_pure (fun _ => rfl) rfl rfl rfl rfl (fun x w1 hF => ?_)
      have hQX := HX.out.only hF (by simp)
      have m0 := hQX.cell 0
      have m1 := hQX.cell 1
      have m2 := hQX.cell 2
      have m3 := hQX.cell 3
      simp at m0 m1 m2 m3
      clear hQX
      go_simp
      with_reducible rfl
    refine And.intro ?_ ?_
    · refine Reg.ob_pure (fun _ => rfl) rfl rfl rfl rfl (fun x w1 hF => ?_)
      have hQX := HX.out.only hF (by simp)
      have m0 := hQX.cell 0
      have m1 := hQX.cell 1
      have m2 := hQX.cell 2
      have m3 := hQX.cell 3
      simp at m0 m1 m2 m3
      clear hQX
      go_simp
      with_reducible rfl
    refine And.intro ?_ ?_
    · refine Reg.ob_pure (fun _ => rfl) rfl rfl rfl rfl (fun x w1 hF => ?_)
      have hQX := HX.out.only hF (by simp)
      have m0 := hQX.cell 0
      have m1 := hQX.cell 1
      have m2 := hQX.cell 2
      have m3 := hQX.cell 3
      simp at m0 m1 m2 m3
      clear hQX
      have hn := HNL.out
      have hnc : (n : Int) ≤ (c : Int) := by have := HLC.out; omega
      rcases HA.out with ⟨rfl, rfl, rfl⟩ | ⟨g, rfl⟩
      · obtain rfl : n = 0 := by omega
        go_simp
      · go_simp
    refine And.intro ?_ ?_
    · refine Reg.ob_some (fun _ => rfl) rfl (fun x w1 hF hU K hK => ?_)
      replace hF := hF rfl
      obtain ⟨⟨A2, c2, h6, hown⟩, -⟩ := hU
      have h6 : x 6 = .slice A2 L c2 := h6
      have hown : w1.ownsRow w0.heap.size 5 1 (.slice A2 L c2) L (cellsOf bs) := hown
      revert hK
      simp only [Nat.reduceAdd, h6]
      intro hK
      refine wp_append_src w1 _ _ rfl w0.heap.size (.slice A2 L c2) bs rfl (by rw [HLL.out]; exact hown) (.slice A n c) (bs.take n) rfl ((HSP.out).of_only hF) (by rw [List.length_take]; have := HLL.out; omega) hF.size ?_
      intro v' w' hw' hg'
      have ho := (Only.refl (fun k => (Value.slice A2 L c2).ownBlock = some k) w1).grown hg' (fun i hi _ => hi)
      rw [← cellsOf_append, ← List.length_append] at hw'
      obtain ⟨A3, c3, rfl, -⟩ := own_slice hw'
      have hln : (bs ++ bs.take n).length = L + n := by rw [List.length_append, List.length_take]; have := HLL.out; have := HNL.out; omega
      rw [hln] at hw' ⊢
      exact hK _ w' (fun _ _ _ => hF.trans ho (fun i hi e => by have := own_baseK hown e; omega)) ⟨_, ho, fun b cs hI e => owned_off hown hI (by decide) e⟩ ⟨A3, c3, rfl, hw'⟩
    refine And.intro ?_ ?_
    · refine Reg.ob_some (fun _ => rfl) rfl (fun x w1 hF hU K hK => ?_)
      obtain ⟨⟨A3, c3, h11, hown⟩, -⟩ := hU
      have h11 : x 11 = .slice A3 (L + n) c3 := h11
      revert hK
      simp only [Nat.reduceAdd, h11]
      intro hK
      go_simp
      exact hK _ _ (fun h => by cases h) rfl ⟨A3, c3, rfl, hown⟩
    refine And.intro ?_ ?_
    · refine Reg.ob_some (fun _ => rfl) rfl (fun x w1 hF hU K hK => ?_)
      replace hF := hF rfl
      go_simp
      exact hK _ _ (fun _ _ _ => hF.alloc _) ((Only.refl _ _).alloc _) ⟨_, rfl, hF.size, Is.made _ _ _⟩
    refine And.intro ?_ ?_
    · refine Reg.ob_some (fun _ => rfl) rfl (fun x w1 hF hU K hK => ?_)
      replace hF := hF rfl
      obtain ⟨⟨mb, h9, hge, hI⟩, hq, -⟩ := hU
      have h9 : x 13 = .pointer (some ⟨mb, 0, none⟩) := h9
      obtain ⟨A2, c2, h12, hown⟩ := hq
      have h12 : x 12 = .agg #[.int .u8 (ct : Nat), .int .u8 (kd : Nat), .slice A2 (L + n) c2, .int .u8 (4 : Nat)] := h12
      revert hK
      simp only [Nat.reduceAdd, h9, h12]
      intro hK
      refine wp_store_row 41 _ _ rfl mb #[.int .u8 (ct : Nat), .int .u8 (kd : Nat), .slice A2 (L + n) c2, .int .u8 (4 : Nat)] rfl rfl 41 _ hI Try.sizeRt rfl (by simp [Value.oneCell']) ?_
      have ho : Only (fun k => k = mb) w1 (w1.setRow mb #[.int .u8 (ct : Nat), .int .u8 (kd : Nat), .slice A2 (L + n) c2, .int .u8 (4 : Nat)]) := Only.setRow (S := fun k => k = mb) (Only.refl _ w1) (fun _ => rfl) _
      exact hK undef _ (fun _ _ _ => hF.trans ho (fun i hi e => by omega)) trivial ⟨mb, A2, c2, h9, hge, Is.setRow hI _, owned_only hown ho (fun k hk e => owned_off hown hI (by decide) (by rw [hk, e]))⟩
    exact trivial
  case hF =>
    exact (Only.refl _ w0).drewN 1
  case hini =>
    exact trivial
  case pres =>
    intro i hi j hj hc x wx wy hF hE hW
    simp only [List.mem_cons, List.mem_nil_iff, or_false] at hi hj
    rcases hi with rfl | rfl | rfl | rfl <;> rcases hj with rfl | rfl | rfl | rfl | rfl
    all_goals first
      | (exfalso; revert hc; decide)
      | (obtain ⟨A2, c2, h1, h2⟩ := hW; exact ⟨A2, c2, h1, owned_only h2 hE (by simp)⟩)
      | (obtain ⟨mb, h1, h2, h3⟩ := hW; exact ⟨mb, h1, h2, Is.only h3 hE (by simp)⟩)
      | (obtain ⟨S, hS, hno⟩ := hE; obtain ⟨mb, h1, h2, h3⟩ := hW; exact ⟨mb, h1, h2, Is.only h3 hS (hno _ _ h3)⟩)
  case fin =>
    rintro x w9 hF hU
    obtain ⟨⟨mb, A2, c2, h13, hge, hI, hown⟩, -⟩ := hU
    have hln : (bs ++ bs.take n).length = L + n := by rw [List.length_append, List.length_take]; have := HLL.out; have := HNL.out; omega
    repeat apply Exists.intro
    exact ⟨rfl, rfl, mb, A2, c2, h13, hI, Src.of_own (by rw [hln]; exact hown), hF rfl⟩

set_option maxRecDepth 100000 in
set_option maxHeartbeats 4000000 in
theorem fn15 (ct kd L c n xb B : Nat) (A : Option Addr) (bs : List Nat) (hn : n ≤ L) (hL : bs.length = L) (hl : L ≤ 100000) (u0 u1 u2 u3 u5 u7 u8 u9 u10 u11 u12 u13 u14 u15 u16 u17 u18 u19 u20 u21 u22 u23 u24 u25 u26 u27 u28 u29 u30 u31 u32 u33 u34 u35 u36 u37 u38 u39 u40 u41 u42 u43 u44 u45 u46 u47 u48 u49 u50 u51 u52 u53 u54 u55 u56 u57 u58 u59 u60 u61 u62 u63 u64 u65 u66 u67 u68 u69 u70 u71 u72 u73 u74 u75 u76 u77 u78 u79 u80 u81 u82 u83 u84 u85 u86 u87 u88 u89 u90 u91 u92 u93 u94 u95 u96 u97 u98 u99 u100 u101 u102 u103 u104 u105 u106 u107 u108 u109 u110 u111 u112 u113 u114 u115 u116 u117 u118 u119 u120 u121 u122 u123 u124 u125 u126 u127 u128 u129 u130 u131 u132 u133 u134 u135 u136 u137 u138 u139 u140 u141 u142 u143 u144 u145 u146 u147 u148 u149 u150 u151 u152 u153 u154 u155 u156 u157 u158 u159 u160 u161 u162 u163 u164 u165 u166 u167 u168 u169 u170 u171 u172 u173 u174 u175 u176 u177 u178 u179 u180 u181 u182 u183 u184 u185 u186 u187 u188 u189 u190 u191 u192 u193 u194 : Value) (Q : Exit → Act → World → Prop) (w0 : World) (hX : Is w0 xb 37 #[.int .u8 (ct : Nat), .int .u8 (kd : Nat), .slice A L c, .int .u8 (0 : Nat)]) (hU0 : w0.ownsRow B 5 1 (.slice A L c) L (cellsOf bs))
    (hend : ∀ (y8 y61 y62 y63 y64 y65 y66 y67 y68 y69 y70 y71 y72 y73 : Value) (w' : World), (∃ mb A2 c2, y8 = .pointer (some ⟨mb, 0, none⟩) ∧ Is w' mb 41 #[.int .u8 (ct : Nat), .int .u8 (kd : Nat), .slice A2 (L + n) c2, .int .u8 (4 : Nat)] ∧ Src w' (.slice A2 (L + n) c2) (bs ++ bs.take n) ∧ Only (fun _ => False) w0 w') → Q .normal ⟨(List.toArray (u0::u1::u2::u3::.pointer (some ⟨xb, 0, none⟩)::u5::.int .i64 (n : Nat)::u7::y8::u9::u10::u11::u12::u13::u14::u15::u16::u17::u18::u19::u20::u21::u22::u23::u24::u25::u26::u27::u28::u29::u30::u31::u32::u33::u34::u35::u36::u37::u38::u39::u40::u41::u42::u43::u44::u45::u46::u47::u48::u49::u50::u51::u52::u53::u54::u55::u56::u57::u58::u59::u60::y61::y62::y63::y64::y65::y66::y67::y68::y69::y70::y71::y72::y73::u74::u75::u76::u77::u78::u79::u80::u81::u82::u83::u84::u85::u86::u87::u88::u89::u90::u91::u92::u93::u94::u95::u96::u97::u98::u99::u100::u101::u102::u103::u104::u105::u106::u107::u108::u109::u110::u111::u112::u113::u114::u115::u116::u117::u118::u119::u120::u121::u122::u123::u124::u125::u126::u127::u128::u129::u130::u131::u132::u133::u134::u135::u136::u137::u138::u139::u140::u141::u142::u143::u144::u145::u146::u147::u148::u149::u150::u151::u152::u153::u154::u155::u156::u157::u158::u159::u160::u161::u162::u163::u164::u165::u166::u167::u168::u169::u170::u171::u172::u173::u174::u175::u176::u177::u178::u179::u180::u181::u182::u183::u184::u185::u186::u187::u188::u189::u190::u191::u192::u193::u194::[])), []⟩ w') :
    Code.wp Try.prog fn15_code Q ⟨(List.toArray (u0::u1::u2::u3::.pointer (some ⟨xb, 0, none⟩)::u5::.int .i64 (n : Nat)::u7::u8::u9::u10::u11::u12::u13::u14::u15::u16::u17::u18::u19::u20::u21::u22::u23::u24::u25::u26::u27::u28::u29::u30::u31::u32::u33::u34::u35::u36::u37::u38::u39::u40::u41::u42::u43::u44::u45::u46::u47::u48::u49::u50::u51::u52::u53::u54::u55::u56::u57::u58::u59::u60::u61::u62::u63::u64::u65::u66::u67::u68::u69::u70::u71::u72::u73::u74::u75::u76::u77::u78::u79::u80::u81::u82::u83::u84::u85::u86::u87::u88::u89::u90::u91::u92::u93::u94::u95::u96::u97::u98::u99::u100::u101::u102::u103::u104::u105::u106::u107::u108::u109::u110::u111::u112::u113::u114::u115::u116::u117::u118::u119::u120::u121::u122::u123::u124::u125::u126::u127::u128::u129::u130::u131::u132::u133::u134::u135::u136::u137::u138::u139::u140::u141::u142::u143::u144::u145::u146::u147::u148::u149::u150::u151::u152::u153::u154::u155::u156::u157::u158::u159::u160::u161::u162::u163::u164::u165::u166::u167::u168::u169::u170::u171::u172::u173::u174::u175::u176::u177::u178::u179::u180::u181::u182::u183::u184::u185::u186::u187::u188::u189::u190::u191::u192::u193::u194::[])), []⟩ w0 := by
  refine wp_mono (fn15_in ct kd L c n xb B A bs hn hL hl _ _ _ _ _ _ _ _ _ _ _ _ _ _ _ _ _ _ _ _ _ _ _ _ _ _ _ _ _ _ _ _ _ _ _ _ _ _ _ _ _ _ _ _ _ _ _ _ _ _ _ _ _ _ _ _ _ _ _ _ _ _ _ _ _ _ _ _ _ _ _ _ _ _ _ _ _ _ _ _ _ _ _ _ _ _ _ _ _ _ _ _ _ _ _ _ _ _ _ _ _ _ _ _ _ _ _ _ _ _ _ _ _ _ _ _ _ _ _ _ _ _ _ _ _ _ _ _ _ _ _ _ _ _ _ _ _ _ _ _ _ _ _ _ _ _ _ _ _ _ _ _ _ _ _ _ _ _ _ _ _ _ _ _ _ _ _ _ _ _ _ _ _ _ _ _ _ _ _ _ _ _ _ _ _ _ _ _ _ _ _ _ _ w0 hX hU0) ?_
  rintro e a w' h
  obtain ⟨y8, h⟩ := h
  obtain ⟨y61, h⟩ := h
  obtain ⟨y62, h⟩ := h
  obtain ⟨y63, h⟩ := h
  obtain ⟨y64, h⟩ := h
  obtain ⟨y65, h⟩ := h
  obtain ⟨y66, h⟩ := h
  obtain ⟨y67, h⟩ := h
  obtain ⟨y68, h⟩ := h
  obtain ⟨y69, h⟩ := h
  obtain ⟨y70, h⟩ := h
  obtain ⟨y71, h⟩ := h
  obtain ⟨y72, h⟩ := h
  obtain ⟨y73, h⟩ := h
  obtain ⟨h, rfl, hq⟩ := h
  subst h
  exact hend y8 y61 y62 y63 y64 y65 y66 y67 y68 y69 y70 y71 y72 y73 w' hq
end Go.Proofs.Ytefcimkopgcagaa
