/- FeedbackBack's first if. Conditions: as it says. -/
import Derived.Test.YtefcimkopgcagaaFeE
import Derived.Test.YtefcimkopgcagaaBase
set_option linter.unusedVariables false
set_option linter.unusedSimpArgs false
namespace Go.Proofs.Ytefcimkopgcagaa
open Go.RowKit

noncomputable def fb4_a : Code := match Try.f6.body.bind (codeIf 4) with | some (.seq a _) => a | _ => .skip
noncomputable def fb4_b : Code := match Try.f6.body.bind (codeIf 4) with | some (.seq _ b) => b | _ => .skip
set_option maxRecDepth 100000 in
set_option maxHeartbeats 8000000 in
theorem fb4 (m : Ms) (p1 o1 s1 u : Value) (ma xb : Nat) (er : Int) (her : er = erOf m) (hlm : m.pairs.length ≤ 300 ∧ m.orders.length ≤ 300 ∧ m.srcs.length ≤ 300) (hfm : MFit m) (u0 u1 u2 u3 u5 u6 u7 u8 u11 u12 u13 u14 u15 u16 u17 u18 u19 u20 u21 u22 u23 u24 u25 u26 u27 u28 u29 u30 u31 u32 u33 u34 u35 u36 u37 u38 u39 u40 u41 u42 u43 u44 u45 u46 u47 u48 u49 u50 u51 u52 u53 u54 u55 u56 u57 u58 u59 u60 u61 u62 u63 u64 u65 u66 u67 u68 u69 u70 u71 u72 u73 u74 u75 u76 u77 u78 u79 u80 u81 u82 u83 u84 u85 u86 u87 u88 u89 u90 u91 u92 u93 u94 u95 u96 u97 u98 u99 u100 u101 u102 u103 u104 u105 u106 u107 u108 u109 u110 u111 u112 u113 u114 u115 u116 u117 u118 u119 u120 u121 u122 u123 u124 u125 u126 u127 u128 u129 u130 u131 u132 u133 u134 u135 u136 u137 u138 u139 u140 u141 u142 u143 u144 u145 u146 u147 u148 u149 u150 u151 u152 u153 u154 u155 u156 u157 u158 u159 u160 u161 u162 u163 u164 u165 u166 u167 u168 u169 u170 u171 u172 u173 u174 u175 u176 u177 u178 u179 u180 u181 u182 u183 u184 u185 u186 u187 u188 u189 u190 u191 u192 u193 u194 u195 u196 u197 u198 u199 u200 u201 u202 u203 u204 : Value) (Q : Exit → Act → World → Prop) (K9 : Act → World → Prop) (w5 : World) (hM : Is w5 ma 27 (m.cls p1 o1 s1)) (hX : Is w5 xb 41 (pkC (msPk m) u)) (hD : RdM m p1 o1 s1 w5) (hs : Src w5 u (msPk m).body) (hK9 : ∀ a w, Code.wp Try.prog fb4_b Q a w → K9 a w)
    (hend : ∀ (y11 y12 y47 y48 y49 y50 y51 y52 y53 y54 y55 y56 y57 y58 y59 y60 y61 y62 y63 y64 y65 y66 y67 y68 y69 y70 y71 : Value) (w' : World), Only (fun _ => False) w5 w' → Q .normal ⟨(List.toArray (u0 :: u1 :: u2 :: u3 :: .pointer (some ⟨ma, 0, none⟩) :: u5 :: u6 :: u7 :: u8 :: .pointer (some ⟨xb, 0, none⟩) :: .int .i64 er :: y11 :: y12 :: u13 :: u14 :: u15 :: u16 :: u17 :: u18 :: u19 :: u20 :: u21 :: u22 :: u23 :: u24 :: u25 :: u26 :: u27 :: u28 :: u29 :: u30 :: u31 :: u32 :: u33 :: u34 :: u35 :: u36 :: u37 :: u38 :: u39 :: u40 :: u41 :: u42 :: u43 :: u44 :: u45 :: u46 :: y47 :: y48 :: y49 :: y50 :: y51 :: y52 :: y53 :: y54 :: y55 :: y56 :: y57 :: y58 :: y59 :: y60 :: y61 :: y62 :: y63 :: y64 :: y65 :: y66 :: y67 :: y68 :: y69 :: y70 :: y71 :: u72 :: u73 :: u74 :: u75 :: u76 :: u77 :: u78 :: u79 :: u80 :: u81 :: u82 :: u83 :: u84 :: u85 :: u86 :: u87 :: u88 :: u89 :: u90 :: u91 :: u92 :: u93 :: u94 :: u95 :: u96 :: u97 :: u98 :: u99 :: u100 :: u101 :: u102 :: u103 :: u104 :: u105 :: u106 :: u107 :: u108 :: u109 :: u110 :: u111 :: u112 :: u113 :: u114 :: u115 :: u116 :: u117 :: u118 :: u119 :: u120 :: u121 :: u122 :: u123 :: u124 :: u125 :: u126 :: u127 :: u128 :: u129 :: u130 :: u131 :: u132 :: u133 :: u134 :: u135 :: u136 :: u137 :: u138 :: u139 :: u140 :: u141 :: u142 :: u143 :: u144 :: u145 :: u146 :: u147 :: u148 :: u149 :: u150 :: u151 :: u152 :: u153 :: u154 :: u155 :: u156 :: u157 :: u158 :: u159 :: u160 :: u161 :: u162 :: u163 :: u164 :: u165 :: u166 :: u167 :: u168 :: u169 :: u170 :: u171 :: u172 :: u173 :: u174 :: u175 :: u176 :: u177 :: u178 :: u179 :: u180 :: u181 :: u182 :: u183 :: u184 :: u185 :: u186 :: u187 :: u188 :: u189 :: u190 :: u191 :: u192 :: u193 :: u194 :: u195 :: u196 :: u197 :: u198 :: u199 :: u200 :: u201 :: u202 :: u203 :: u204 :: [])), []⟩ w') :
    Code.wp Try.prog fb4_a (Exit.then K9 Q) ⟨(List.toArray (u0 :: u1 :: u2 :: u3 :: .pointer (some ⟨ma, 0, none⟩) :: u5 :: u6 :: u7 :: u8 :: .pointer (some ⟨xb, 0, none⟩) :: .int .i64 er :: u11 :: u12 :: u13 :: u14 :: u15 :: u16 :: u17 :: u18 :: u19 :: u20 :: u21 :: u22 :: u23 :: u24 :: u25 :: u26 :: u27 :: u28 :: u29 :: u30 :: u31 :: u32 :: u33 :: u34 :: u35 :: u36 :: u37 :: u38 :: u39 :: u40 :: u41 :: u42 :: u43 :: u44 :: u45 :: u46 :: u47 :: u48 :: u49 :: u50 :: u51 :: u52 :: u53 :: u54 :: u55 :: u56 :: u57 :: u58 :: u59 :: u60 :: u61 :: u62 :: u63 :: u64 :: u65 :: u66 :: u67 :: u68 :: u69 :: u70 :: u71 :: u72 :: u73 :: u74 :: u75 :: u76 :: u77 :: u78 :: u79 :: u80 :: u81 :: u82 :: u83 :: u84 :: u85 :: u86 :: u87 :: u88 :: u89 :: u90 :: u91 :: u92 :: u93 :: u94 :: u95 :: u96 :: u97 :: u98 :: u99 :: u100 :: u101 :: u102 :: u103 :: u104 :: u105 :: u106 :: u107 :: u108 :: u109 :: u110 :: u111 :: u112 :: u113 :: u114 :: u115 :: u116 :: u117 :: u118 :: u119 :: u120 :: u121 :: u122 :: u123 :: u124 :: u125 :: u126 :: u127 :: u128 :: u129 :: u130 :: u131 :: u132 :: u133 :: u134 :: u135 :: u136 :: u137 :: u138 :: u139 :: u140 :: u141 :: u142 :: u143 :: u144 :: u145 :: u146 :: u147 :: u148 :: u149 :: u150 :: u151 :: u152 :: u153 :: u154 :: u155 :: u156 :: u157 :: u158 :: u159 :: u160 :: u161 :: u162 :: u163 :: u164 :: u165 :: u166 :: u167 :: u168 :: u169 :: u170 :: u171 :: u172 :: u173 :: u174 :: u175 :: u176 :: u177 :: u178 :: u179 :: u180 :: u181 :: u182 :: u183 :: u184 :: u185 :: u186 :: u187 :: u188 :: u189 :: u190 :: u191 :: u192 :: u193 :: u194 :: u195 :: u196 :: u197 :: u198 :: u199 :: u200 :: u201 :: u202 :: u203 :: u204 :: [])), []⟩ w5 := by
  conv => arg 2; whnf
  conv at hK9 => intro a w; arg 1; arg 2; whnf
  by_cases hrt : rightMs m = true
  · have e0 : er = 0 := by rw [her]; exact if_pos hrt
    have z0 : (er == 0) = true := by rw [beq_iff_eq]; exact e0
    have epk : msPk m = ⟨ctOf m.sort, kdOf m.sort, 0, bodyB m⟩ := if_pos hrt
    rw [epk] at hX hs
    have HRT := Lib.hid hrt
    have HLM := Lib.hid hlm
    have HFM := Lib.hid hfm
    have X6 := Lib.hid (show Is w5 xb 41 #[.int .u8 (ctOf m.sort : Nat), .int .u8 (kdOf m.sort : Nat), u, .int .u8 (0 : Nat)] from hX)
    have SU := Lib.hid (show Src w5 u (bodyB m) from hs)
    have IA5 := Lib.hid hM
    have D1 := Lib.hid hD
    have HEND := Lib.hid hend
    have HPA := Lib.hid (fun (wx : World) (h : Only (fun _ => False) w5 wx) => by
      have := fparse_is (kdOf m.sort) (ctOf m.sort) 0 u (bodyB m) wx (SU.out.of_only h) (put_ok m HRT.out HFM.out HLM.out).2.bytes (by have := (body_long m HRT.out).2.2 HLM.out; omega)
      unfold FParsed at this
      rw [parse_put m HRT.out HFM.out] at this
      exact this)
    clear hrt e0 epk hX hs hM hD hend hlm hfm her
    go_upto_region 6 with (first
      | (refine wpList_load_want (o := ⟨some 50, _, _, _, _, _⟩) rfl _ _ rfl xb rfl _ _ _ X6.out Try.underlying41 rfl Try.sizeRt ?_)
      | (go_at_call 23; refine (HPA.out _ (Only.refl _ _)).mono ?_; rintro e w6 ⟨p2, o2, s2, rfl, hd6, ho6⟩; have O6 := Lib.hid ho6; have D6 := Lib.hid hd6.rd; clear ho6 hd6)
      | (refine wpList_store_is rfl 27 _ _ rfl w6.heap.size (m.cls p2 o2 s2) rfl rfl 27 _ (Is.made w6 _ _) Try.sizeMe rfl (Ms.one m (by obtain ⟨x, y, h, -⟩ := D6.out.p; exact ⟨_, _, _, h⟩) (by obtain ⟨x, y, h, -⟩ := D6.out.o; exact ⟨_, _, _, h⟩) (by obtain ⟨x, y, h, -⟩ := D6.out.s; exact ⟨_, _, _, h⟩)) ?_; intro w7 hi7 ho7; have o7 := fb_made ho7; have Y7 := Lib.hid hi7; have D7 := Lib.hid (D6.out.only o7); have O7 := Lib.hid (O6.out.trans o7 (fun _ _ e => e)); clear hi7 ho7 o7))
    obtain ⟨yb, hyb⟩ : ∃ k, w6.heap.size = k := ⟨_, rfl⟩
    rw [hyb] at Y7 ⊢
    clear hyb D6 O6 HPA
    refine fk6 m p1 o1 s1 p2 o2 s2 u ma xb yb HLM.out HRT.out HFM.out _ _ _ _ _ _ _ _ _ _ _ _ _ _ _ _ _ _ _ _ _ _ _ _ _ _ _ _ _ _ _ _ _ _ _ _ _ _ _ _ _ _ _ _ _ _ _ _ _ _ _ _ _ _ _ _ _ _ _ _ _ _ _ _ _ _ _ _ _ _ _ _ _ _ _ _ _ _ _ _ _ _ _ _ _ _ _ _ _ _ _ _ _ _ _ _ _ _ _ _ _ _ _ _ _ _ _ _ _ _ _ _ _ _ _ _ _ _ _ _ _ _ _ _ _ _ _ _ _ _ _ _ _ _ _ _ _ _ _ _ _ _ _ _ _ _ _ _ _ _ _ _ _ _ _ _ _ _ _ _ _ _ _ _ _ _ _ _ _ _ _ _ _ _ _ _ _ _ _ _ _ _ _ _ _ _ _ _ _ _ _ _ _ _ _ _ _ _ _ _ _ _ w7 (IA5.out.only O7.out (by simp)) (X6.out.only O7.out (by simp)) Y7.out (D1.out.only O7.out) D7.out (SU.out.of_only O7.out) ?_
    rintro y54 y55 y56 y57 y58 y59 y60 y61 y62 y63 y64 y65 y66 y67 y68 y69 y70 w8 ho8
    have O8 := Lib.hid (O7.out.trans ho8 (fun _ _ e => e))
    clear ho8
    go_wp2_with fail
    refine HEND.out _ _ _ _ _ _ _ _ _ _ _ _ _ _ _ _ _ _ _ _ _ _ _ _ _ _ _ _ ?_
    exact O8.out
  · have e0 : er = 2 := by rw [her]; exact if_neg hrt
    have z0 : (er == 0) = false := by rw [e0]; rfl
    have HEND := Lib.hid hend
    clear hrt e0 hX hs hM hD hend hlm hfm her
    go_wp2_with fail
    refine HEND.out _ _ _ _ _ _ _ _ _ _ _ _ _ _ _ _ _ _ _ _ _ _ _ _ _ _ _ _ ?_
    exact Only.refl _ _
end Go.Proofs.Ytefcimkopgcagaa
