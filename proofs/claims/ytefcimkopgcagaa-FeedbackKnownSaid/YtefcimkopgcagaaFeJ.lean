/- FeedbackBack's end: rates. Conditions: as it says. -/
import Derived.Test.YtefcimkopgcagaaFeE
import Derived.Test.YtefcimkopgcagaaBase
set_option linter.unusedVariables false
set_option linter.unusedSimpArgs false
namespace Go.Proofs.Ytefcimkopgcagaa
open Go.RowKit

noncomputable def fb28_a : Code := match Try.f6.body.bind (codeIf 28) with | some (.seq a _) => a | _ => .skip
noncomputable def fb28_b : Code := match Try.f6.body.bind (codeIf 28) with | some (.seq _ b) => b | _ => .skip
set_option maxRecDepth 100000 in
set_option maxHeartbeats 8000000 in
theorem fb28 (r : Nat) (hr : r < 18446744073709551616) (u0 u1 u2 u4 u5 u6 u7 u8 u9 u10 u11 u12 u13 u14 u15 u16 u17 u18 u19 u20 u21 u22 u23 u24 u25 u26 u27 u28 u29 u30 u31 u32 u33 u34 u35 u36 u37 u38 u39 u40 u41 u42 u43 u44 u45 u46 u47 u48 u49 u50 u51 u52 u53 u54 u55 u56 u57 u58 u59 u60 u61 u62 u63 u64 u65 u66 u67 u68 u69 u70 u71 u72 u73 u74 u75 u76 u77 u78 u79 u80 u81 u82 u83 u84 u85 u86 u87 u88 u89 u90 u91 u92 u93 u94 u95 u96 u97 u98 u99 u100 u101 u102 u103 u104 u105 u106 u107 u108 u109 u110 u111 u112 u113 u114 u115 u116 u117 u118 u119 u120 u121 u122 u123 u124 u125 u126 u127 u128 u129 u130 u131 u132 u133 u134 u135 u136 u137 u138 u139 u140 u141 u142 u143 u144 u145 u146 u147 u148 u149 u150 u151 u152 u153 u154 u155 u156 u157 u158 u159 u160 u161 u162 u163 u164 u165 u166 u167 u168 u169 u170 u171 u172 u173 u174 u175 u176 u177 u178 u179 u180 u181 u182 u183 u184 u185 u186 u187 u188 u189 u190 u191 u192 u193 u194 u195 u196 u197 u198 u199 u200 u201 u202 u203 u204 : Value) (Q : Exit → Act → World → Prop) (K9 : Act → World → Prop) (w9 : World)  (hK9 : ∀ a w, Code.wp Try.prog fb28_b Q a w → K9 a w)
    (hend : ∀ (y23 y24 y25 y26 y177 y178 y179 y180 y181 y182 y183 y184 y185 y186 y187 y188 y189 y190 y191 y192 y193 y194 y195 y196 y197 y198 y199 y200 y201 y202 y203 y204 : Value) (w' : World), Only (fun _ => False) w9 w' → Q .ret ⟨(List.toArray (u0 :: u1 :: u2 :: .int .u64 (r : Nat) :: u4 :: u5 :: u6 :: u7 :: .bool true :: u9 :: u10 :: u11 :: u12 :: u13 :: u14 :: u15 :: u16 :: u17 :: u18 :: u19 :: u20 :: u21 :: u22 :: y23 :: y24 :: y25 :: y26 :: u27 :: u28 :: u29 :: u30 :: u31 :: u32 :: u33 :: u34 :: u35 :: u36 :: u37 :: u38 :: u39 :: u40 :: u41 :: u42 :: u43 :: u44 :: u45 :: u46 :: u47 :: u48 :: u49 :: u50 :: u51 :: u52 :: u53 :: u54 :: u55 :: u56 :: u57 :: u58 :: u59 :: u60 :: u61 :: u62 :: u63 :: u64 :: u65 :: u66 :: u67 :: u68 :: u69 :: u70 :: u71 :: u72 :: u73 :: u74 :: u75 :: u76 :: u77 :: u78 :: u79 :: u80 :: u81 :: u82 :: u83 :: u84 :: u85 :: u86 :: u87 :: u88 :: u89 :: u90 :: u91 :: u92 :: u93 :: u94 :: u95 :: u96 :: u97 :: u98 :: u99 :: u100 :: u101 :: u102 :: u103 :: u104 :: u105 :: u106 :: u107 :: u108 :: u109 :: u110 :: u111 :: u112 :: u113 :: u114 :: u115 :: u116 :: u117 :: u118 :: u119 :: u120 :: u121 :: u122 :: u123 :: u124 :: u125 :: u126 :: u127 :: u128 :: u129 :: u130 :: u131 :: u132 :: u133 :: u134 :: u135 :: u136 :: u137 :: u138 :: u139 :: u140 :: u141 :: u142 :: u143 :: u144 :: u145 :: u146 :: u147 :: u148 :: u149 :: u150 :: u151 :: u152 :: u153 :: u154 :: u155 :: u156 :: u157 :: u158 :: u159 :: u160 :: u161 :: u162 :: u163 :: u164 :: u165 :: u166 :: u167 :: u168 :: u169 :: u170 :: u171 :: u172 :: u173 :: u174 :: u175 :: u176 :: y177 :: y178 :: y179 :: y180 :: y181 :: y182 :: y183 :: y184 :: y185 :: y186 :: y187 :: y188 :: y189 :: y190 :: y191 :: y192 :: y193 :: y194 :: y195 :: y196 :: y197 :: y198 :: y199 :: y200 :: y201 :: y202 :: y203 :: y204 :: [])), []⟩ w') :
    Code.wp Try.prog fb28_a (Exit.then K9 Q) ⟨(List.toArray (u0 :: u1 :: u2 :: .int .u64 (r : Nat) :: u4 :: u5 :: u6 :: u7 :: u8 :: u9 :: u10 :: u11 :: u12 :: u13 :: u14 :: u15 :: u16 :: u17 :: u18 :: u19 :: u20 :: u21 :: u22 :: u23 :: u24 :: u25 :: u26 :: u27 :: u28 :: u29 :: u30 :: u31 :: u32 :: u33 :: u34 :: u35 :: u36 :: u37 :: u38 :: u39 :: u40 :: u41 :: u42 :: u43 :: u44 :: u45 :: u46 :: u47 :: u48 :: u49 :: u50 :: u51 :: u52 :: u53 :: u54 :: u55 :: u56 :: u57 :: u58 :: u59 :: u60 :: u61 :: u62 :: u63 :: u64 :: u65 :: u66 :: u67 :: u68 :: u69 :: u70 :: u71 :: u72 :: u73 :: u74 :: u75 :: u76 :: u77 :: u78 :: u79 :: u80 :: u81 :: u82 :: u83 :: u84 :: u85 :: u86 :: u87 :: u88 :: u89 :: u90 :: u91 :: u92 :: u93 :: u94 :: u95 :: u96 :: u97 :: u98 :: u99 :: u100 :: u101 :: u102 :: u103 :: u104 :: u105 :: u106 :: u107 :: u108 :: u109 :: u110 :: u111 :: u112 :: u113 :: u114 :: u115 :: u116 :: u117 :: u118 :: u119 :: u120 :: u121 :: u122 :: u123 :: u124 :: u125 :: u126 :: u127 :: u128 :: u129 :: u130 :: u131 :: u132 :: u133 :: u134 :: u135 :: u136 :: u137 :: u138 :: u139 :: u140 :: u141 :: u142 :: u143 :: u144 :: u145 :: u146 :: u147 :: u148 :: u149 :: u150 :: u151 :: u152 :: u153 :: u154 :: u155 :: u156 :: u157 :: u158 :: u159 :: u160 :: u161 :: u162 :: u163 :: u164 :: u165 :: u166 :: u167 :: u168 :: u169 :: u170 :: u171 :: u172 :: u173 :: u174 :: u175 :: u176 :: u177 :: u178 :: u179 :: u180 :: u181 :: u182 :: u183 :: u184 :: u185 :: u186 :: u187 :: u188 :: u189 :: u190 :: u191 :: u192 :: u193 :: u194 :: u195 :: u196 :: u197 :: u198 :: u199 :: u200 :: u201 :: u202 :: u203 :: u204 :: [])), []⟩ w9 := by
  conv => arg 2; whnf
  conv at hK9 => intro a w; arg 1; arg 2; whnf
  have HRB := Lib.hid (rate_back r hr)
  have HOR := Lib.hid (fun (wx : World) => ofrate_is r wx hr)
  have HEND := Lib.hid hend
  obtain ⟨ex, hex⟩ : ∃ x, rexp r = x := ⟨_, rfl⟩
  rw [hex] at HRB HOR
  obtain ⟨mt, hmt⟩ : ∃ x, r / 2 ^ ex = x := ⟨_, rfl⟩
  rw [hmt] at HRB HOR
  have HRT := Lib.hid (fun (wx : World) => rate_is ⟨4, 0, 0, [], [], ex, mt, []⟩ (.slice none 0 0) (.slice none 0 0) (.slice none 0 0) wx (by have := HRB.out; show mt < 4294967296; omega) (by have := HRB.out; show ex < 256; omega))
  have HRI := Lib.hid (fun (wx : World) => by
    have := fright_is ⟨4, 0, 0, [], [], ex, mt, []⟩ (.slice none 0 0) (.slice none 0 0) (.slice none 0 0) wx ⟨RdP.nil _, RdO.nil _, Rd.nil _ _⟩ (by simp) (by have := HRB.out; show mt < 4294967296; omega) (by have := HRB.out; show ex < 256; omega)
    have hq : rightMs ⟨4, 0, 0, [], [], ex, mt, []⟩ = true := decide_eq_true (by have := HRB.out; unfold okMs; simp; omega)
    rw [hq] at this
    exact this)
  have hbk := HRB.out
  simp only at HRT
  obtain ⟨bk, hbke⟩ : ∃ x, rateOf mt ex = x := ⟨_, rfl⟩
  rw [hbke] at HRT hbk
  obtain ⟨dd, hdd⟩ : ∃ x, r - bk = x := ⟨_, rfl⟩
  obtain ⟨qq, hqq⟩ : ∃ x, r / 131072 = x := ⟨_, rfl⟩
  rw [hdd, hqq] at hbk
  have z1 : (bk : Int) ≤ (r : Int) := by omega
  have z2 : IntKind.u64.wrap ((r : Int) - (bk : Int)) = (dd : Int) := by rw [IntKind.wrap_u64]; omega
  have z2b : (r : Int) - (bk : Int) = (dd : Int) := by omega
  have z5 : IntKind.u64.wrap (dd : Int) = (dd : Int) := by rw [IntKind.wrap_u64]; omega
  have z3 : (r : Int) / 131072 = (qq : Int) := by omega
  have z4 : (dd : Int) ≤ (qq : Int) := by omega
  clear hdd hqq
  clear hr hend hex hmt hbke hbk HRB
  go_upto_region 30 with (first
    | (go_at_call 28; refine (HOR.out _).mono ?_; rintro e w10 ⟨rfl, ho10⟩; have O10 := Lib.hid ho10; clear ho10)
    | (refine wpList_store_is rfl 27 _ _ rfl w10.heap.size ((⟨4, 0, 0, [], [], ex, mt, []⟩ : Ms).cls (.slice none 0 0) (.slice none 0 0) (.slice none 0 0)) rfl rfl 27 _ (Is.made w10 _ _) Try.sizeMe rfl (by simp [Ms.cls, Value.oneCell']) ?_; intro w11 hi11 ho11; have o11 := fb_made ho11; have T11 := Lib.hid hi11; have O11 := Lib.hid (O10.out.trans o11 (fun _ _ e => e)); clear hi11 ho11 o11))
  obtain ⟨tb, htb⟩ : ∃ k, w10.heap.size = k := ⟨_, rfl⟩
  rw [htb] at T11 ⊢
  clear htb O10 HOR
  go_upto_region 31 with (first
    | (refine wpList_load_want (o := ⟨some 185, _, _, _, _, _⟩) rfl _ _ rfl tb rfl _ _ _ T11.out Try.underlying27 rfl Try.sizeMe ?_)
    | (go_at_call 19; refine (HRT.out _).mono ?_; rintro e w12 ⟨rfl, ho12⟩; have T12 := Lib.hid (T11.out.only ho12 (by simp)); have O12 := Lib.hid (O11.out.trans ho12 (fun _ _ e => e)); clear ho12))
  clear T11 O11 HRT
  go_wp2_with (first
    | (refine wpList_load_want (o := ⟨some 187, _, _, _, _, _⟩) rfl _ _ rfl tb rfl _ _ _ T12.out Try.underlying27 rfl Try.sizeMe ?_)
    | (go_at_call 15; refine (HRI.out _).mono ?_; rintro e w13 ⟨rfl, ho13⟩; have O13 := Lib.hid (O12.out.trans ho13 (fun _ _ e => e)); clear ho13)
    | (go_at_call 9; refine (fworks_any _).mono ?_; rintro e w14 ⟨rfl, ho14⟩; have O14 := Lib.hid (O13.out.trans ho14 (fun _ _ e => e)); clear ho14))
  refine HEND.out _ _ _ _ _ _ _ _ _ _ _ _ _ _ _ _ _ _ _ _ _ _ _ _ _ _ _ _ _ _ _ _ _ ?_
  exact O14.out
end Go.Proofs.Ytefcimkopgcagaa
