/- FeedbackBack's second if. Conditions: as it says. -/
import Derived.Test.YtefcimkopgcagaaFeE
import Derived.Test.YtefcimkopgcagaaBase
set_option linter.unusedVariables false
set_option linter.unusedSimpArgs false
namespace Go.Proofs.Ytefcimkopgcagaa
open Go.RowKit

noncomputable def fb9_a : Code := match Try.f6.body.bind (codeIf 9) with | some (.seq a _) => a | _ => .skip
noncomputable def fb9_b : Code := match Try.f6.body.bind (codeIf 9) with | some (.seq _ b) => b | _ => .skip
set_option maxRecDepth 100000 in
set_option maxHeartbeats 8000000 in
theorem fb9 (y : Ms) (p2 o2 s2 : Value) (A : Option Addr) (kd ct pad L c pb yb : Nat) (fe : Int) (bs : List Nat) (hb : ∀ x ∈ bs, x < 256) (hlb : bs.length ≤ 1200) (hL : bs.length = L) (hrq : rparse kd ct bs = (y, fe)) (u0 u1 u2 u3 u4 u6 u7 u8 u9 u10 u11 u12 u15 u16 u17 u18 u19 u20 u21 u22 u23 u24 u25 u26 u27 u28 u29 u30 u31 u32 u33 u34 u35 u36 u37 u38 u39 u40 u41 u42 u43 u44 u45 u46 u47 u48 u49 u50 u51 u52 u53 u54 u55 u56 u57 u58 u59 u60 u61 u62 u63 u64 u65 u66 u67 u68 u69 u70 u71 u72 u73 u74 u75 u76 u77 u78 u79 u80 u81 u82 u83 u84 u85 u86 u87 u88 u89 u90 u91 u92 u93 u94 u95 u96 u97 u98 u99 u100 u101 u102 u103 u104 u105 u106 u107 u108 u109 u110 u111 u112 u113 u114 u115 u116 u117 u118 u119 u120 u121 u122 u123 u124 u125 u126 u127 u128 u129 u130 u131 u132 u133 u134 u135 u136 u137 u138 u139 u140 u141 u142 u143 u144 u145 u146 u147 u148 u149 u150 u151 u152 u153 u154 u155 u156 u157 u158 u159 u160 u161 u162 u163 u164 u165 u166 u167 u168 u169 u170 u171 u172 u173 u174 u175 u176 u177 u178 u179 u180 u181 u182 u183 u184 u185 u186 u187 u188 u189 u190 u191 u192 u193 u194 u195 u196 u197 u198 u199 u200 u201 u202 u203 u204 : Value) (Q : Exit → Act → World → Prop) (K9 : Act → World → Prop) (w8 : World) (hP : Is w8 pb 41 #[.int .u8 (ct : Nat), .int .u8 (kd : Nat), .slice A L c, .int .u8 (pad : Nat)]) (hY : Is w8 yb 27 (y.cls p2 o2 s2)) (hD : RdM y p2 o2 s2 w8) (hs : Src w8 (.slice A L c) bs) (hK9 : ∀ a w, Code.wp Try.prog fb9_b Q a w → K9 a w)
    (hend : ∀ (y15 y16 y17 y18 y77 y78 y79 y80 y81 y82 y83 y84 y85 y86 y87 y88 y89 y90 y91 y92 y93 y94 y95 y96 y97 y98 y99 y100 y101 y102 y103 y104 y105 y106 y107 y108 y109 y110 y111 y112 y113 y114 y115 y116 y117 y118 y119 y120 y121 y122 y123 y124 y125 y126 y127 y128 y129 y130 y131 y132 y133 y134 y135 y136 y137 y138 y139 y140 y141 : Value) (w' : World), Only (fun _ => False) w8 w' → Q .normal ⟨(List.toArray (u0 :: u1 :: u2 :: u3 :: u4 :: .pointer (some ⟨pb, 0, none⟩) :: u6 :: u7 :: u8 :: u9 :: u10 :: u11 :: u12 :: .pointer (some ⟨yb, 0, none⟩) :: .int .i64 fe :: y15 :: y16 :: y17 :: y18 :: u19 :: u20 :: u21 :: u22 :: u23 :: u24 :: u25 :: u26 :: u27 :: u28 :: u29 :: u30 :: u31 :: u32 :: u33 :: u34 :: u35 :: u36 :: u37 :: u38 :: u39 :: u40 :: u41 :: u42 :: u43 :: u44 :: u45 :: u46 :: u47 :: u48 :: u49 :: u50 :: u51 :: u52 :: u53 :: u54 :: u55 :: u56 :: u57 :: u58 :: u59 :: u60 :: u61 :: u62 :: u63 :: u64 :: u65 :: u66 :: u67 :: u68 :: u69 :: u70 :: u71 :: u72 :: u73 :: u74 :: u75 :: u76 :: y77 :: y78 :: y79 :: y80 :: y81 :: y82 :: y83 :: y84 :: y85 :: y86 :: y87 :: y88 :: y89 :: y90 :: y91 :: y92 :: y93 :: y94 :: y95 :: y96 :: y97 :: y98 :: y99 :: y100 :: y101 :: y102 :: y103 :: y104 :: y105 :: y106 :: y107 :: y108 :: y109 :: y110 :: y111 :: y112 :: y113 :: y114 :: y115 :: y116 :: y117 :: y118 :: y119 :: y120 :: y121 :: y122 :: y123 :: y124 :: y125 :: y126 :: y127 :: y128 :: y129 :: y130 :: y131 :: y132 :: y133 :: y134 :: y135 :: y136 :: y137 :: y138 :: y139 :: y140 :: y141 :: u142 :: u143 :: u144 :: u145 :: u146 :: u147 :: u148 :: u149 :: u150 :: u151 :: u152 :: u153 :: u154 :: u155 :: u156 :: u157 :: u158 :: u159 :: u160 :: u161 :: u162 :: u163 :: u164 :: u165 :: u166 :: u167 :: u168 :: u169 :: u170 :: u171 :: u172 :: u173 :: u174 :: u175 :: u176 :: u177 :: u178 :: u179 :: u180 :: u181 :: u182 :: u183 :: u184 :: u185 :: u186 :: u187 :: u188 :: u189 :: u190 :: u191 :: u192 :: u193 :: u194 :: u195 :: u196 :: u197 :: u198 :: u199 :: u200 :: u201 :: u202 :: u203 :: u204 :: [])), []⟩ w') :
    Code.wp Try.prog fb9_a (Exit.then K9 Q) ⟨(List.toArray (u0 :: u1 :: u2 :: u3 :: u4 :: .pointer (some ⟨pb, 0, none⟩) :: u6 :: u7 :: u8 :: u9 :: u10 :: u11 :: u12 :: .pointer (some ⟨yb, 0, none⟩) :: .int .i64 fe :: u15 :: u16 :: u17 :: u18 :: u19 :: u20 :: u21 :: u22 :: u23 :: u24 :: u25 :: u26 :: u27 :: u28 :: u29 :: u30 :: u31 :: u32 :: u33 :: u34 :: u35 :: u36 :: u37 :: u38 :: u39 :: u40 :: u41 :: u42 :: u43 :: u44 :: u45 :: u46 :: u47 :: u48 :: u49 :: u50 :: u51 :: u52 :: u53 :: u54 :: u55 :: u56 :: u57 :: u58 :: u59 :: u60 :: u61 :: u62 :: u63 :: u64 :: u65 :: u66 :: u67 :: u68 :: u69 :: u70 :: u71 :: u72 :: u73 :: u74 :: u75 :: u76 :: u77 :: u78 :: u79 :: u80 :: u81 :: u82 :: u83 :: u84 :: u85 :: u86 :: u87 :: u88 :: u89 :: u90 :: u91 :: u92 :: u93 :: u94 :: u95 :: u96 :: u97 :: u98 :: u99 :: u100 :: u101 :: u102 :: u103 :: u104 :: u105 :: u106 :: u107 :: u108 :: u109 :: u110 :: u111 :: u112 :: u113 :: u114 :: u115 :: u116 :: u117 :: u118 :: u119 :: u120 :: u121 :: u122 :: u123 :: u124 :: u125 :: u126 :: u127 :: u128 :: u129 :: u130 :: u131 :: u132 :: u133 :: u134 :: u135 :: u136 :: u137 :: u138 :: u139 :: u140 :: u141 :: u142 :: u143 :: u144 :: u145 :: u146 :: u147 :: u148 :: u149 :: u150 :: u151 :: u152 :: u153 :: u154 :: u155 :: u156 :: u157 :: u158 :: u159 :: u160 :: u161 :: u162 :: u163 :: u164 :: u165 :: u166 :: u167 :: u168 :: u169 :: u170 :: u171 :: u172 :: u173 :: u174 :: u175 :: u176 :: u177 :: u178 :: u179 :: u180 :: u181 :: u182 :: u183 :: u184 :: u185 :: u186 :: u187 :: u188 :: u189 :: u190 :: u191 :: u192 :: u193 :: u194 :: u195 :: u196 :: u197 :: u198 :: u199 :: u200 :: u201 :: u202 :: u203 :: u204 :: [])), []⟩ w8 := by
  conv => arg 2; whnf
  conv at hK9 => intro a w; arg 1; arg 2; whnf
  by_cases he0 : fe = 0
  · subst he0
    have HBK := Lib.hid (put_parse kd ct bs y hb hlb hrq)
    have HPUT := Lib.hid (fun (wx : World) (h : Only (fun _ => False) w8 wx) => by
      have := fput_any y p2 o2 s2 wx (hD.only h) (by have := HBK.out.few; omega) HBK.out.fit
      unfold msPk erOf at this
      rw [if_pos HBK.out.right, if_pos HBK.out.right, HBK.out.kd, HBK.out.ct] at this
      exact this)
    have HLB := Lib.hid hlb
    have HL := Lib.hid hL
    have Y8 := Lib.hid hY
    have D8 := Lib.hid hD
    have IB8 := Lib.hid hP
    have HS := Lib.hid hs
    have HEND := Lib.hid hend
    clear hb hlb hrq hL hY hD hP hs hend
    go_upto_region 11 with (first
      | (refine wpList_load_want (o := ⟨some 80, _, _, _, _, _⟩) rfl _ _ rfl yb rfl _ _ _ Y8.out Try.underlying27 rfl Try.sizeMe ?_)
      | (go_at_call 12; refine (HPUT.out _ (Only.refl _ _)).mono ?_; rintro e w9 ⟨u, rfl, hu9, ho9⟩; have O9 := Lib.hid ho9; have U9 := Lib.hid hu9; have UE := Lib.hid (own_slice hu9); clear ho9 hu9)
      | (refine wpList_store_is rfl 41 _ _ rfl w9.heap.size (pkC ⟨ct, kd, 0, bodyB y⟩ u) rfl rfl 41 _ (Is.made w9 _ _) Try.sizeRt rfl (by obtain ⟨x, y, h, -⟩ := UE.out; rw [h]; simp [Value.oneCell']) ?_; intro w10 hi10 ho10; have o10 := fb_made ho10; have Z10 := Lib.hid hi10; have U10 := Lib.hid (owned_only U9.out o10 (by simp)); have O10 := Lib.hid (O9.out.trans o10 (fun _ _ e => e)); clear hi10 ho10 o10))
    obtain ⟨zb, hzb⟩ : ∃ k, w9.heap.size = k := ⟨_, rfl⟩
    rw [hzb] at Z10 ⊢
    clear hzb U9 O9 HPUT
    have Z11 := Lib.hid (show Is w10 zb 41 #[.int .u8 (ct : Nat), .int .u8 (kd : Nat), u, .int .u8 (0 : Nat)] from Z10.out)
    have SU := Lib.hid (show Src w10 u (bodyB y) from Src.of_own U10.out)
    have HPA := Lib.hid (fun (wx : World) (h : Only (fun _ => False) w10 wx) => by
      have hby := (put_ok y HBK.out.right HBK.out.fit HBK.out.few).2.bytes
      have := fparse_is kd ct 0 u (bodyB y) wx (SU.out.of_only h) hby (by have := (body_long y HBK.out.right).2.2 HBK.out.few; omega)
      unfold FParsed at this
      have hq := parse_put y HBK.out.right HBK.out.fit
      rw [HBK.out.kd, HBK.out.ct] at hq
      rw [hq] at this
      exact this)
    clear Z10 U10
    go_upto_region 12 with (first
      | (refine wpList_load_want (o := ⟨some 85, _, _, _, _, _⟩) rfl _ _ rfl zb rfl _ _ _ Z11.out Try.underlying41 rfl Try.sizeRt ?_)
      | (go_at_call 23; refine (HPA.out _ (Only.refl _ _)).mono ?_; rintro e w11 ⟨p3, o3, s3, rfl, hd11, ho11⟩; have O11 := Lib.hid (O10.out.trans ho11 (fun _ _ e => e)); have P11 := Lib.hid ho11; have D11 := Lib.hid hd11.rd; clear ho11 hd11)
      | (refine wpList_store_is rfl 27 _ _ rfl w11.heap.size (y.cls p3 o3 s3) rfl rfl 27 _ (Is.made w11 _ _) Try.sizeMe rfl (Ms.one y (by obtain ⟨x, y, h, -⟩ := D11.out.p; exact ⟨_, _, _, h⟩) (by obtain ⟨x, y, h, -⟩ := D11.out.o; exact ⟨_, _, _, h⟩) (by obtain ⟨x, y, h, -⟩ := D11.out.s; exact ⟨_, _, _, h⟩)) ?_; intro w12 hi12 ho12; have o12 := fb_made ho12; have W12 := Lib.hid hi12; have D12 := Lib.hid (D11.out.only o12); have O12 := Lib.hid (O11.out.trans o12 (fun _ _ e => e)); have P12 := Lib.hid (P11.out.trans o12 (fun _ _ e => e)); clear hi12 ho12 o12))
    obtain ⟨wb, hwb⟩ : ∃ k, w11.heap.size = k := ⟨_, rfl⟩
    rw [hwb] at W12 ⊢
    clear hwb D11 O10 O11 P11 HPA
    obtain ⟨Au, cu, rfl, -⟩ := UE.out
    have HLY := Lib.hid (show (bodyB y).length = L from by rw [HBK.out.len, HL.out])
    have hly := HLY.out
    clear UE
    simp only [hly] at Z11 SU
    by_cases h3 : y.sort = 3
    · refine fk12b y p2 o2 s2 p3 o3 s3 Au A ct kd pad L cu c pb yb zb wb bs HBK.out.few HBK.out.right HBK.out.fit h3 _ _ _ _ _ _ _ _ _ _ _ _ _ _ _ _ _ _ _ _ _ _ _ _ _ _ _ _ _ _ _ _ _ _ _ _ _ _ _ _ _ _ _ _ _ _ _ _ _ _ _ _ _ _ _ _ _ _ _ _ _ _ _ _ _ _ _ _ _ _ _ _ _ _ _ _ _ _ _ _ _ _ _ _ _ _ _ _ _ _ _ _ _ _ _ _ _ _ _ _ _ _ _ _ _ _ _ _ _ _ _ _ _ _ _ _ _ _ _ _ _ _ _ _ _ _ _ _ _ _ _ _ _ _ _ _ _ _ _ _ _ _ _ _ _ _ _ _ _ _ _ _ _ _ _ _ _ _ _ _ _ _ _ _ _ _ _ _ _ _ _ _ _ _ _ _ _ _ _ _ _ _ _ _ _ _ _ _ _ _ _ _ _ _ _ _ _ _ _ _ w12 (IB8.out.only O12.out (by simp)) (Y8.out.only O12.out (by simp)) (Z11.out.only P12.out (by simp)) W12.out (D8.out.only O12.out) D12.out ?_
      rintro y89 y90 y91 y92 y93 y94 y95 y96 y97 y98 y99 y100 y101 y102 y103 y104 y105 y106 y107 y108 y109 y110 y111 y112 y113 y114 y115 y116 y117 y118 y119 y120 y121 y122 y123 y124 y125 y126 y127 y128 y129 y130 y131 y132 y133 y134 y135 y136 y137 y138 y139 y140 w13 ho13
      have O13 := Lib.hid (O12.out.trans ho13 (fun _ _ e => e))
      clear ho13 h3 hly
      go_wp2_with fail
      refine HEND.out _ _ _ _ _ _ _ _ _ _ _ _ _ _ _ _ _ _ _ _ _ _ _ _ _ _ _ _ _ _ _ _ _ _ _ _ _ _ _ _ _ _ _ _ _ _ _ _ _ _ _ _ _ _ _ _ _ _ _ _ _ _ _ _ _ _ _ _ _ _ ?_
      exact O13.out
    · have HSB := Lib.hid (HBK.out.same h3)
      refine fk12a y p2 o2 s2 p3 o3 s3 Au A ct kd pad L cu c pb yb zb wb bs HBK.out.few HBK.out.right HBK.out.fit h3 HLB.out _ _ _ _ _ _ _ _ _ _ _ _ _ _ _ _ _ _ _ _ _ _ _ _ _ _ _ _ _ _ _ _ _ _ _ _ _ _ _ _ _ _ _ _ _ _ _ _ _ _ _ _ _ _ _ _ _ _ _ _ _ _ _ _ _ _ _ _ _ _ _ _ _ _ _ _ _ _ _ _ _ _ _ _ _ _ _ _ _ _ _ _ _ _ _ _ _ _ _ _ _ _ _ _ _ _ _ _ _ _ _ _ _ _ _ _ _ _ _ _ _ _ _ _ _ _ _ _ _ _ _ _ _ _ _ _ _ _ _ _ _ _ _ _ _ _ _ _ _ _ _ _ _ _ _ _ _ _ _ _ _ _ _ _ _ _ _ _ _ _ _ _ _ _ _ _ _ _ _ _ _ _ _ _ _ _ _ _ _ _ _ _ _ _ _ _ _ _ _ _ w12 (IB8.out.only O12.out (by simp)) (Y8.out.only O12.out (by simp)) (Z11.out.only P12.out (by simp)) W12.out (D8.out.only O12.out) D12.out (by have := SU.out.of_only P12.out; rwa [HSB.out] at this) (HS.out.of_only O12.out) ?_
      rintro y89 y90 y91 y92 y93 y94 y95 y96 y97 y98 y99 y100 y101 y102 y103 y104 y105 y106 y107 y108 y109 y110 y111 y112 y113 y114 y115 y116 y117 y118 y119 y120 y121 y122 y123 y124 y125 y126 y127 y128 y129 y130 y131 y132 y133 y134 y135 y136 y137 y138 y139 y140 w13 ho13
      have O13 := Lib.hid (O12.out.trans ho13 (fun _ _ e => e))
      clear ho13 h3 hly
      go_wp2_with fail
      refine HEND.out _ _ _ _ _ _ _ _ _ _ _ _ _ _ _ _ _ _ _ _ _ _ _ _ _ _ _ _ _ _ _ _ _ _ _ _ _ _ _ _ _ _ _ _ _ _ _ _ _ _ _ _ _ _ _ _ _ _ _ _ _ _ _ _ _ _ _ _ _ _ ?_
      exact O13.out
  · have z0 : (fe == 0) = false := by rw [beq_eq_false_iff_ne]; exact he0
    have HEND := Lib.hid hend
    clear he0 hb hlb hrq hL hY hD hP hs hend
    go_wp2_with fail
    refine HEND.out _ _ _ _ _ _ _ _ _ _ _ _ _ _ _ _ _ _ _ _ _ _ _ _ _ _ _ _ _ _ _ _ _ _ _ _ _ _ _ _ _ _ _ _ _ _ _ _ _ _ _ _ _ _ _ _ _ _ _ _ _ _ _ _ _ _ _ _ _ _ ?_
    exact Only.refl _ _
end Go.Proofs.Ytefcimkopgcagaa
