/- floor: FloorOrder's round. Conditions: as each says. -/
import Derived.Test.YtelfeedaadkhnaaFoI
set_option linter.unusedVariables false
set_option linter.unusedSimpArgs false
namespace Go.Proofs.Ytelfeedaadkhnaa
open Go Go.RowKit

theorem Try.sizeA13 : (Try.prog.info? 40).map (·.size) = some 5 := by kernel_rfl
theorem asked_two (l : List Nat) (p who c : Nat) : (if p = 1 ∧ c = 0 then (if (p = 2 ∨ p = 3) ∧ c = 0 then l ++ [who] else l).filter (fun x => x != who) else (if (p = 2 ∨ p = 3) ∧ c = 0 then l ++ [who] else l)) = askedBy l p who c := by
  unfold askedBy
  by_cases h : (p = 2 ∨ p = 3) ∧ c = 0
  · have hn : ¬ (p = 1 ∧ c = 0) := by omega
    simp only [if_pos h, if_neg hn]
  · simp only [if_neg h]
/-- What a round leaves. -/
def Rnd (w0 : World) (b mb bd t k0 : Nat) (v10 v11 v9 : Value) (w' : World) : Prop := ∃ m' : Fl, v10 = .int .u64 (t : Int) ∧ v11 = .int .i64 (m'.gs.length : Int) ∧ m'.bound = bd ∧ m'.Inv t k0 ∧ Fs w0 b mb m' (fun j => v9.ownBlock = some j) w' ∧ Tl w' w0.heap.size v9 m'.wt
noncomputable def pfM_a : Code := match Try.f4.body.bind (codeIf 13) with | some (.seq a _) => a | _ => .skip
noncomputable def pfM_b : Code := match Try.f4.body.bind (codeIf 13) with | some (.seq _ b) => b | _ => .skip
set_option maxRecDepth 100000 in
set_option maxHeartbeats 8000000 in
theorem pfM (b mb bd now k0 k n cn ag ao t : Nat) (d : Int) (who other by_ p : Nat) (flag : Bool) (m : Fl) (v9 : Value) (w0 : World) (hk : k < n) (hn : n ≤ 1000) (hd : -9223372036854775808 ≤ d ∧ d ≤ 9223372036854775807) (hp : d % 9 = (p : Int)) (h1 : who < 4294967296) (h2 : other < 4294967296) (h3 : by_ < 256) (ht0 : now + by_ = t) (hnow : t ≤ 1000000) (hi : m.Inv now k0) (hk0 : k0 + 1 ≤ 900) (hbd : m.bound = bd)  (u1 u3 u4 u5 u6 u8 u13 u14 u15 u16 u17 u18 u19 u20 u21 u22 u23 u24 u25 u26 u27 u28 u29 u30 u31 u32 u33 u34 u35 u36 u37 u38 u39 u40 u41 u42 u43 u44 u45 u46 u47 u48 u49 u50 u51 u52 u53 u54 u55 u56 u57 u58 u59 u60 u61 u62 u63 u64 u65 u66 u67 u68 u69 u70 u71 u72 u73 u74 u75 u76 u77 u78 u79 u80 u81 u82 u83 u84 u85 u86 u87 u88 u89 u90 u91 u92 u93 u94 u95 u96 u97 u98 u99 u100 u101 u102 u103 u104 u105 u106 u107 u108 u109 u110 u111 u112 u113 u114 u115 u116 u117 u118 u119 u120 u121 u122 u123 u124 u125 u126 u127 u128 u129 u130 u131 u132 u133 u134 u135 u136 u137 u138 u139 u140 u141 u142 u143 u144 u145 u146 u147 u148 u149 u150 u151 u152 u153 u154 u155 u156 u157 u158 u159 u160 u161 u162 u163 u164 u165 u166 u167 u168 u169 u170 u171 u172 u173 u174 u175 u176 u177 u178 u179 u180 u181 u182 u183 u184 u185 u186 u187 u188 u189 u190 u191 u192 u193 u194 u195 u196 u197 u198 u199 u200 u201 u202 u203 u204 u205 u206 u207 u208 u209 u210 u211 u212 u213 u214 u215 u216 u217 u218 u219 u220 u221 u222 u223 u224 u225 u226 u227 u228 : Value) (Q : Exit → Act → World → Prop) (K9 : Act → World → Prop) (w : World) (hr : w.rangeAt ag (ao + k * 5) (actC d who other flag by_).toList) (hf : Fs w0 b mb m (fun j => v9.ownBlock = some j) w) (ht : Tl w w0.heap.size v9 m.wt) (hK9 : ∀ a w, Code.wp Try.prog pfM_b Q a w → K9 a w)
    (hend : ∀ (y6 y9 y10 y11 y13 y14 y15 y16 y17 y18 y19 y20 y21 y22 y23 y45 y46 y47 y48 y49 y50 y51 y52 y53 y54 y55 y56 y57 y58 y59 y60 y61 y62 y63 y64 y65 y66 y67 y68 y69 y70 y71 y72 y73 y74 y75 y76 y77 y78 y79 y80 y81 y82 y83 y84 y85 y86 y87 y88 y89 y90 y91 y92 y93 y94 y95 y96 y97 y98 y99 y100 y101 y102 y103 y104 y105 y106 y107 y108 y109 y110 y111 y112 y113 y114 y115 y116 y117 y118 y119 y120 y121 y122 y123 y124 y125 y126 y127 y128 y129 y130 y131 y132 y133 y134 y135 y136 y137 y138 y139 y140 y141 y142 y143 y144 y145 y146 y147 y148 y149 y150 y151 y152 y153 y154 y155 y156 y157 y158 y159 y160 y161 y162 y163 y164 y165 y166 y167 y168 y169 y170 y171 y172 y173 y174 y175 y176 y177 y178 y179 y180 y181 y182 y183 y184 y185 y186 y187 y188 y189 y190 y191 y192 y193 y194 y195 y196 y197 y198 y199 y200 y201 y202 y203 y204 y205 y206 y207 y208 y209 y210 y211 y212 y213 y214 y215 y216 y217 y218 y219 y220 y221 y222 y223 y224 y225 y226 y227 : Value) (w' : World), (Rnd w0 b mb bd t (k0 + 1) y10 y11 y9 w') → Q .normal ⟨(List.toArray (.int .i64 (bd : Int) :: u1 :: .slice (some ⟨ag, ao, none⟩) n cn :: u3 :: u4 :: u5 :: y6 :: .pointer (some ⟨b, 0, none⟩) :: u8 :: y9 :: y10 :: y11 :: .int .i64 (k : Int) :: y13 :: y14 :: y15 :: y16 :: y17 :: y18 :: y19 :: y20 :: y21 :: y22 :: y23 :: u24 :: u25 :: u26 :: u27 :: u28 :: u29 :: u30 :: u31 :: u32 :: u33 :: u34 :: u35 :: u36 :: u37 :: u38 :: u39 :: u40 :: u41 :: u42 :: u43 :: u44 :: y45 :: y46 :: y47 :: y48 :: y49 :: y50 :: y51 :: y52 :: y53 :: y54 :: y55 :: y56 :: y57 :: y58 :: y59 :: y60 :: y61 :: y62 :: y63 :: y64 :: y65 :: y66 :: y67 :: y68 :: y69 :: y70 :: y71 :: y72 :: y73 :: y74 :: y75 :: y76 :: y77 :: y78 :: y79 :: y80 :: y81 :: y82 :: y83 :: y84 :: y85 :: y86 :: y87 :: y88 :: y89 :: y90 :: y91 :: y92 :: y93 :: y94 :: y95 :: y96 :: y97 :: y98 :: y99 :: y100 :: y101 :: y102 :: y103 :: y104 :: y105 :: y106 :: y107 :: y108 :: y109 :: y110 :: y111 :: y112 :: y113 :: y114 :: y115 :: y116 :: y117 :: y118 :: y119 :: y120 :: y121 :: y122 :: y123 :: y124 :: y125 :: y126 :: y127 :: y128 :: y129 :: y130 :: y131 :: y132 :: y133 :: y134 :: y135 :: y136 :: y137 :: y138 :: y139 :: y140 :: y141 :: y142 :: y143 :: y144 :: y145 :: y146 :: y147 :: y148 :: y149 :: y150 :: y151 :: y152 :: y153 :: y154 :: y155 :: y156 :: y157 :: y158 :: y159 :: y160 :: y161 :: y162 :: y163 :: y164 :: y165 :: y166 :: y167 :: y168 :: y169 :: y170 :: y171 :: y172 :: y173 :: y174 :: y175 :: y176 :: y177 :: y178 :: y179 :: y180 :: y181 :: y182 :: y183 :: y184 :: y185 :: y186 :: y187 :: y188 :: y189 :: y190 :: y191 :: y192 :: y193 :: y194 :: y195 :: y196 :: y197 :: y198 :: y199 :: y200 :: y201 :: y202 :: y203 :: y204 :: y205 :: y206 :: y207 :: y208 :: y209 :: y210 :: y211 :: y212 :: y213 :: y214 :: y215 :: y216 :: y217 :: y218 :: y219 :: y220 :: y221 :: y222 :: y223 :: y224 :: y225 :: y226 :: y227 :: u228 :: [])), []⟩ w') :
    Code.wp Try.prog pfM_a (Exit.then K9 Q) ⟨(List.toArray (.int .i64 (bd : Int) :: u1 :: .slice (some ⟨ag, ao, none⟩) n cn :: u3 :: u4 :: u5 :: u6 :: .pointer (some ⟨b, 0, none⟩) :: u8 :: v9 :: .int .u64 (now : Int) :: .int .i64 (m.gs.length : Int) :: .int .i64 (k : Int) :: u13 :: u14 :: u15 :: u16 :: u17 :: u18 :: u19 :: u20 :: u21 :: u22 :: u23 :: u24 :: u25 :: u26 :: u27 :: u28 :: u29 :: u30 :: u31 :: u32 :: u33 :: u34 :: u35 :: u36 :: u37 :: u38 :: u39 :: u40 :: u41 :: u42 :: u43 :: u44 :: u45 :: u46 :: u47 :: u48 :: u49 :: u50 :: u51 :: u52 :: u53 :: u54 :: u55 :: u56 :: u57 :: u58 :: u59 :: u60 :: u61 :: u62 :: u63 :: u64 :: u65 :: u66 :: u67 :: u68 :: u69 :: u70 :: u71 :: u72 :: u73 :: u74 :: u75 :: u76 :: u77 :: u78 :: u79 :: u80 :: u81 :: u82 :: u83 :: u84 :: u85 :: u86 :: u87 :: u88 :: u89 :: u90 :: u91 :: u92 :: u93 :: u94 :: u95 :: u96 :: u97 :: u98 :: u99 :: u100 :: u101 :: u102 :: u103 :: u104 :: u105 :: u106 :: u107 :: u108 :: u109 :: u110 :: u111 :: u112 :: u113 :: u114 :: u115 :: u116 :: u117 :: u118 :: u119 :: u120 :: u121 :: u122 :: u123 :: u124 :: u125 :: u126 :: u127 :: u128 :: u129 :: u130 :: u131 :: u132 :: u133 :: u134 :: u135 :: u136 :: u137 :: u138 :: u139 :: u140 :: u141 :: u142 :: u143 :: u144 :: u145 :: u146 :: u147 :: u148 :: u149 :: u150 :: u151 :: u152 :: u153 :: u154 :: u155 :: u156 :: u157 :: u158 :: u159 :: u160 :: u161 :: u162 :: u163 :: u164 :: u165 :: u166 :: u167 :: u168 :: u169 :: u170 :: u171 :: u172 :: u173 :: u174 :: u175 :: u176 :: u177 :: u178 :: u179 :: u180 :: u181 :: u182 :: u183 :: u184 :: u185 :: u186 :: u187 :: u188 :: u189 :: u190 :: u191 :: u192 :: u193 :: u194 :: u195 :: u196 :: u197 :: u198 :: u199 :: u200 :: u201 :: u202 :: u203 :: u204 :: u205 :: u206 :: u207 :: u208 :: u209 :: u210 :: u211 :: u212 :: u213 :: u214 :: u215 :: u216 :: u217 :: u218 :: u219 :: u220 :: u221 :: u222 :: u223 :: u224 :: u225 :: u226 :: u227 :: u228 :: [])), []⟩ w := by
  conv => arg 2; whnf
  conv at hK9 => intro a w; arg 1; arg 2; whnf
  have HEND := Lib.hid hend
  have HF := Lib.hid hf
  have HT := Lib.hid ht
  have HI := Lib.hid (hi.mono (now' := t) (by omega) (Nat.le_refl _))
  have HBD := Lib.hid hbd
  have hwl : m.wt.length ≤ 32 := by have := hi.core.wl; have := hi.core.bound; omega
  have hgl : m.gs.length ≤ 1000 := by have := hi.core.gl; omega
  have eC : IntKind.u64.wrap (by_ : Int) = (by_ : Int) := by rw [IntKind.wrap_u64]; omega
  have eN : IntKind.u64.wrap ((now : Int) + (by_ : Int)) = (t : Int) := by rw [IntKind.wrap_u64]; omega
  have HT0 := Lib.hid ht0
  have hkI : (k : Int) < (n : Int) := by omega
  have HP := Lib.hid (fun w => pick_is d 9 w hd (by decide) (by decide))
  rw [hp] at HP
  clear hend hf ht hi hbd ht0
  have hr' : w.rangeAt ag (ao + k * 5) [.int .i64 d, .int .u32 (who : Int), .int .u32 (other : Int), .bool flag, .int .u8 (by_ : Int)] := hr
  go_upto_region 14 with (refine wpList_load_midW (op := ⟨some 48, _, _, _, _, _⟩) rfl 40 _ rfl ag (ao + k * 5) rfl _ _ hr' Try.underlying40 rfl Try.sizeA13 ?_)
  obtain ⟨w1, hw1⟩ : ∃ w1, w1 = w.alloc (.cells #[.int .i64 d, .int .u32 (who : Int), .int .u32 (other : Int), .bool flag, .int .u8 (by_ : Int)] 40) := ⟨_, rfl⟩
  have I1 := Lib.hid (show Is w1 w.heap.size 40 (actC d who other flag by_) from by rw [hw1]; exact Is.made _ _ _)
  have O1 := Lib.hid (show Only (fun _ => False) w w1 ∧ w1.heap.size = w.heap.size + 1 from by rw [hw1]; exact ⟨(Only.refl _ _).alloc _, by simp⟩)
  have hne : v9.ownBlock ≠ some w.heap.size := fun e => by have := (HT.out.lt _ e).2; omega
  have hlo := HF.out.only.size
  generalize ha0 : w.heap.size = a0 at *
  rw [← hw1]
  clear hw1 hr hr'
  have F1 := Lib.hid (show Fs w0 b mb m (fun j => v9.ownBlock = some j ∨ j = a0) w1 from HF.out.more O1.out.1 (fun j hj => by
    rcases hj with hj | hj
    · exact .inl hj
    · exact .inr (by have := O1.out.2; omega)))
  have T1 := Lib.hid (HT.out.only O1.out.1 (by simp))
  have HA0 := Lib.hid ha0
  clear ha0
  have c4 : w1.cell? ⟨a0, 4, none⟩ = some (.int .u8 (by_ : Int)) := I1.out.cell 4
  go_wp2_with (refine wpList_load_want rfl _ _ rfl a0 rfl _ _ _ I1.out Try.underlying40 rfl Try.sizeA13 ?_)
  refine (does_fs w0 b mb m _ w1 d who other t by_ flag p hd hp F1.out h1 h2 (by omega) (by have := HI.out.heard; omega) (by omega) (by omega) HI.out.core.bound).mono ?_
  rintro e w2 ⟨rfl, hf2, ho2⟩
  obtain ⟨ext, hst⟩ := step_act HI.out who other flag p (by omega)
  obtain ⟨m', hm'⟩ : ∃ m', (m.act who other t flag p).1 = m' := ⟨_, rfl⟩
  obtain ⟨c, hc⟩ : ∃ c, (m.act who other t flag p).2 = c := ⟨_, rfl⟩
  rw [hm'] at hf2
  rw [hm', hc] at hst
  have hf2 := hf2
  simp only [hc]
  have HX := Lib.hid (show Fx w0 b mb m' m.wt v9 a0 d who other flag by_ w2 from ⟨hf2, T1.out.only ho2 (fun j hj h => h (.inl hj)), I1.out.only ho2 (fun h => h (.inr rfl)), hlo⟩)
  have HS := Lib.hid hst
  obtain rfl : m'.bound = bd := hst.bound.trans HBD.out
  clear hf2 ho2 hst hm' hc F1 T1 I1 O1 c4 HF HT
  have c0 : w2.cell? ⟨a0, 0, none⟩ = some (.int .i64 d) := HX.out.ac.cell 0
  go_wp2_with fail
  refine (HP.out _).mono ?_
  rintro e w3 ⟨rfl, rfl⟩
  clear c0 HP
  go_upto_region 17 with (fail)
  refine pfA b mb a0 who other by_ c p flag d m' m.wt v9 w0 (by omega) hne _ _ _ _ _ _ _ _ _ _ _ _ _ _ _ _ _ _ _ _ _ _ _ _ _ _ _ _ _ _ _ _ _ _ _ _ _ _ _ _ _ _ _ _ _ _ _ _ _ _ _ _ _ _ _ _ _ _ _ _ _ _ _ _ _ _ _ _ _ _ _ _ _ _ _ _ _ _ _ _ _ _ _ _ _ _ _ _ _ _ _ _ _ _ _ _ _ _ _ _ _ _ _ _ _ _ _ _ _ _ _ _ _ _ _ _ _ _ _ _ _ _ _ _ _ _ _ _ _ _ _ _ _ _ _ _ _ _ _ _ _ _ _ _ _ _ _ _ _ _ _ _ _ _ _ _ _ _ _ _ _ _ _ _ _ _ _ _ _ _ _ _ _ _ _ _ _ _ _ _ _ _ _ _ _ _ _ _ _ _ _ _ _ _ _ _ _ _ _ _ _ _ _ _ _ _ _ _ _ _ _ _ _ _ _ _ _ _ _ _ _ _ _ _ _ _ _ w2 HX.out (by assumption) ?_
  rintro q9 q61 q62 q63 q64 q65 q66 q67 q68 q69 q70 q71 q72 q73 q74 q75 w4 hx4
  have HX4 := Lib.hid hx4
  clear hx4 HX
  go_upto_region 19 with (fail)
  refine pfB b mb a0 who other by_ c p flag d m' _ q9 w0 ?_ _ _ _ _ _ _ _ _ _ _ _ _ _ _ _ _ _ _ _ _ _ _ _ _ _ _ _ _ _ _ _ _ _ _ _ _ _ _ _ _ _ _ _ _ _ _ _ _ _ _ _ _ _ _ _ _ _ _ _ _ _ _ _ _ _ _ _ _ _ _ _ _ _ _ _ _ _ _ _ _ _ _ _ _ _ _ _ _ _ _ _ _ _ _ _ _ _ _ _ _ _ _ _ _ _ _ _ _ _ _ _ _ _ _ _ _ _ _ _ _ _ _ _ _ _ _ _ _ _ _ _ _ _ _ _ _ _ _ _ _ _ _ _ _ _ _ _ _ _ _ _ _ _ _ _ _ _ _ _ _ _ _ _ _ _ _ _ _ _ _ _ _ _ _ _ _ _ _ _ _ _ _ _ _ _ _ _ _ _ _ _ _ _ _ _ _ _ _ _ _ _ _ _ _ _ _ _ _ _ _ _ _ _ _ _ _ _ _ _ _ _ _ _ _ _ _ _ w4 HX4.out (by assumption) ?_
  · split
    · rw [List.length_append, List.length_singleton]; omega
    · omega
  rintro r9 r16 r17 r76 r77 r78 r79 r80 r81 r82 r83 r84 r85 r86 r87 r88 r89 r90 r91 r92 r93 r94 r95 r96 r97 r98 r99 r100 r101 r102 w5 hx5
  rw [asked_two, HS.out.asked] at hx5
  have HX5 := Lib.hid hx5
  clear hx5 HX4
  go_upto_region 27 with (fail)
  refine pfE b mb t (k0 + 1) w0.heap.size m.gs.length m' ext _ r9 w0 HS.out.inv (by omega) (by rw [HS.out.gs, List.length_append]) (fun j => by rw [HS.out.gs, List.getElem?_append_right (by omega)]; congr 1; omega) _ _ _ _ _ _ _ _ _ _ _ _ _ _ _ _ _ _ _ _ _ _ _ _ _ _ _ _ _ _ _ _ _ _ _ _ _ _ _ _ _ _ _ _ _ _ _ _ _ _ _ _ _ _ _ _ _ _ _ _ _ _ _ _ _ _ _ _ _ _ _ _ _ _ _ _ _ _ _ _ _ _ _ _ _ _ _ _ _ _ _ _ _ _ _ _ _ _ _ _ _ _ _ _ _ _ _ _ _ _ _ _ _ _ _ _ _ _ _ _ _ _ _ _ _ _ _ _ _ _ _ _ _ _ _ _ _ _ _ _ _ _ _ _ _ _ _ _ _ _ _ _ _ _ _ _ _ _ _ _ _ _ _ _ _ _ _ _ _ _ _ _ _ _ _ _ _ _ _ _ _ _ _ _ _ _ _ _ _ _ _ _ _ _ _ _ _ _ _ _ _ _ _ _ _ _ _ _ _ _ _ _ _ _ _ _ _ _ _ _ _ _ _ _ _ _ w5 HX5.out.fs HX5.out.tl (by assumption) ?_
  rintro s6 s9 s11 s18 s19 s20 s21 s22 s23 s103 s104 s105 s106 s107 s108 s109 s110 s111 s112 s113 s114 s115 s116 s117 s118 s119 s120 s121 s122 s123 s124 s125 s126 s127 s128 s129 s130 s131 s132 s133 s134 s135 s136 s137 s138 s139 s140 s141 s142 s143 s144 s145 s146 s147 s148 s149 s150 s151 s152 s153 s154 s155 s156 s157 s158 s159 s160 s161 s162 s163 s164 s165 s166 s167 s168 s169 s170 s171 s172 s173 s174 s175 s176 s177 s178 s179 s180 s181 s182 s183 s184 s185 s186 s187 s188 s189 s190 s191 s192 s193 s194 s195 s196 s197 s198 s199 s200 s201 s202 s203 s204 s205 s206 s207 s208 s209 s210 s211 s212 s213 s214 s215 s216 s217 s218 s219 s220 s221 s222 s223 s224 s225 s226 s227 w6 ⟨ho6, rfl, ht6, hb6⟩
  refine HEND.out _ _ _ _ _ _ _ _ _ _ _ _ _ _ _ _ _ _ _ _ _ _ _ _ _ _ _ _ _ _ _ _ _ _ _ _ _ _ _ _ _ _ _ _ _ _ _ _ _ _ _ _ _ _ _ _ _ _ _ _ _ _ _ _ _ _ _ _ _ _ _ _ _ _ _ _ _ _ _ _ _ _ _ _ _ _ _ _ _ _ _ _ _ _ _ _ _ _ _ _ _ _ _ _ _ _ _ _ _ _ _ _ _ _ _ _ _ _ _ _ _ _ _ _ _ _ _ _ _ _ _ _ _ _ _ _ _ _ _ _ _ _ _ _ _ _ _ _ _ _ _ _ _ _ _ _ _ _ _ _ _ _ _ _ _ _ _ _ _ _ _ _ _ _ _ _ _ _ _ _ _ _ _ _ _ _ _ _ _ _ _ _ _ _ _ _ _ _ _ ⟨m', rfl, rfl, rfl, HS.out.inv, ?_, ht6⟩
  exact (HX5.out.fs.go ho6).sub (fun j hj => .inl (hb6 j hj))

end Go.Proofs.Ytelfeedaadkhnaa
