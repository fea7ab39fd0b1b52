/- floor: FloorOrder's round from Grants on: the grants follow those who asked. Conditions: as each says. -/
import Derived.Test.YtelfeedaadkhnaaFoH
set_option linter.unusedVariables false
set_option linter.unusedSimpArgs false
namespace Go.Proofs.Ytelfeedaadkhnaa
open Go Go.RowKit

theorem Tl.tail {w : World} {B ga oa z c x : Nat} {l : List Nat} (h : Tl w B (.slice (some ⟨ga, oa, none⟩) z c) (x :: l)) : Tl w B (.slice (some ⟨ga, oa + 1, none⟩) (z - 1) (c - 1)) l := by
  obtain ⟨ao, cap, e, h1, h2, h3, h4⟩ := h
  injection e with e1 e2 e3
  subst e1 e2 e3
  obtain ⟨b, off, cur, e, h5, h6, h7⟩ := h4 (by simp at h1; omega)
  injection e with e
  injection e with e1 e2
  subst e1 e2
  rw [List.length_cons] at h1 ⊢
  refine ⟨_, c - 1, rfl, by omega, by omega, h3, fun hc => ⟨ga, oa + 1, cur, rfl, h5, by omega, fun j y hy => ?_⟩⟩
  have := h7 (j + 1) y (by simpa using hy)
  rw [← this]
  congr 1
  omega
theorem Tl.last {w : World} {B ga oa x : Nat} {l : List Nat} (h : Tl w B (.slice (some ⟨ga, oa, none⟩) 1 1) (x :: l)) : Tl w B (.slice (some ⟨ga, oa, none⟩) 0 0) l := by
  obtain ⟨ao, cap, e, h1, h2, h3, h4⟩ := h
  injection e with e1 e2 e3
  rw [List.length_cons] at e2
  obtain rfl : l = [] := List.eq_nil_of_length_eq_zero (by omega)
  subst e1
  exact ⟨_, 0, rfl, by simp, by decide, h3, fun h => by omega⟩
theorem Tl.first {w : World} {B z c x : Nat} {A : Option Addr} {l : List Nat} (h : Tl w B (.slice A z c) (x :: l)) : z = l.length + 1 ∧ z ≤ c ∧ ∃ ga oa, A = some ⟨ga, oa, none⟩ ∧ w.cell? ⟨ga, oa, none⟩ = some (.int .u32 (x : Int)) := by
  obtain ⟨ao, cap, e, h1, h2, h3, h4⟩ := h
  injection e with e1 e2 e3
  subst e1 e2 e3
  simp at h1
  obtain ⟨b, off, cur, e, h5, h6, h7⟩ := h4 (by omega)
  refine ⟨by simp, by simp; omega, b, off, e, ?_⟩
  rw [h5.cell]
  exact h7 0 x rfl
theorem drop_map_cons {ext : List (Nat × Nat × Nat)} {j : Nat} {g : Nat × Nat × Nat} (h : ext[j]? = some g) : (ext.map (·.2.1)).drop j = g.2.1 :: (ext.map (·.2.1)).drop (j + 1) := by
  obtain ⟨h1, h2⟩ := List.getElem?_eq_some_iff.1 h
  rw [List.drop_eq_getElem_cons (by simpa using h1)]
  simp [h2]
noncomputable def pfE_a : Code := match Try.f4.body.bind (codeIf 27) with | some (.seq a _) => a | _ => .skip
noncomputable def pfE_b : Code := match Try.f4.body.bind (codeIf 27) with | some (.seq _ b) => b | _ => .skip
set_option maxRecDepth 100000 in
set_option maxHeartbeats 8000000 in
theorem pfE (b mb now k0 B9 G0 : Nat) (m : Fl) (ext : List (Nat × Nat × Nat)) (S : Nat → Prop) (v9 : Value) (w0 : World) (hi : m.Inv now k0) (hk0 : k0 ≤ 1000) (hL : m.gs.length = G0 + ext.length) (hx : ∀ j, m.gs[G0 + j]? = ext[j]?)  (u1 u2 u3 u4 u5 u6 u8 u12 u13 u14 u15 u16 u17 u18 u19 u20 u21 u22 u23 u24 u25 u26 u27 u28 u29 u30 u31 u32 u33 u34 u35 u36 u37 u38 u39 u40 u41 u42 u43 u44 u45 u46 u47 u48 u49 u50 u51 u52 u53 u54 u55 u56 u57 u58 u59 u60 u61 u62 u63 u64 u65 u66 u67 u68 u69 u70 u71 u72 u73 u74 u75 u76 u77 u78 u79 u80 u81 u82 u83 u84 u85 u86 u87 u88 u89 u90 u91 u92 u93 u94 u95 u96 u97 u98 u99 u100 u101 u102 u103 u104 u105 u106 u107 u108 u109 u110 u111 u112 u113 u114 u115 u116 u117 u118 u119 u120 u121 u122 u123 u124 u125 u126 u127 u128 u129 u130 u131 u132 u133 u134 u135 u136 u137 u138 u139 u140 u141 u142 u143 u144 u145 u146 u147 u148 u149 u150 u151 u152 u153 u154 u155 u156 u157 u158 u159 u160 u161 u162 u163 u164 u165 u166 u167 u168 u169 u170 u171 u172 u173 u174 u175 u176 u177 u178 u179 u180 u181 u182 u183 u184 u185 u186 u187 u188 u189 u190 u191 u192 u193 u194 u195 u196 u197 u198 u199 u200 u201 u202 u203 u204 u205 u206 u207 u208 u209 u210 u211 u212 u213 u214 u215 u216 u217 u218 u219 u220 u221 u222 u223 u224 u225 u226 u227 u228 : Value) (Q : Exit → Act → World → Prop) (K9 : Act → World → Prop) (w : World) (hf : Fs w0 b mb m S w) (ht : Tl w B9 v9 (ext.map (·.2.1) ++ m.wt)) (hK9 : ∀ a w, Code.wp Try.prog pfE_b Q a w → K9 a w)
    (hend : ∀ (y6 y9 y11 y18 y19 y20 y21 y22 y23 y103 y104 y105 y106 y107 y108 y109 y110 y111 y112 y113 y114 y115 y116 y117 y118 y119 y120 y121 y122 y123 y124 y125 y126 y127 y128 y129 y130 y131 y132 y133 y134 y135 y136 y137 y138 y139 y140 y141 y142 y143 y144 y145 y146 y147 y148 y149 y150 y151 y152 y153 y154 y155 y156 y157 y158 y159 y160 y161 y162 y163 y164 y165 y166 y167 y168 y169 y170 y171 y172 y173 y174 y175 y176 y177 y178 y179 y180 y181 y182 y183 y184 y185 y186 y187 y188 y189 y190 y191 y192 y193 y194 y195 y196 y197 y198 y199 y200 y201 y202 y203 y204 y205 y206 y207 y208 y209 y210 y211 y212 y213 y214 y215 y216 y217 y218 y219 y220 y221 y222 y223 y224 y225 y226 y227 : Value) (w' : World), (Only (fun _ => False) w w' ∧ y11 = .int .i64 (m.gs.length : Int) ∧ Tl w' B9 y9 m.wt ∧ ∀ k, y9.ownBlock = some k → v9.ownBlock = some k) → Q .normal ⟨(List.toArray (.int .i64 (m.bound : Int) :: u1 :: u2 :: u3 :: u4 :: u5 :: y6 :: .pointer (some ⟨b, 0, none⟩) :: u8 :: y9 :: .int .u64 (now : Int) :: y11 :: u12 :: u13 :: u14 :: u15 :: u16 :: u17 :: y18 :: y19 :: y20 :: y21 :: y22 :: y23 :: u24 :: u25 :: u26 :: u27 :: u28 :: u29 :: u30 :: u31 :: u32 :: u33 :: u34 :: u35 :: u36 :: u37 :: u38 :: u39 :: u40 :: u41 :: u42 :: u43 :: u44 :: u45 :: u46 :: u47 :: u48 :: u49 :: u50 :: u51 :: u52 :: u53 :: u54 :: u55 :: u56 :: u57 :: u58 :: u59 :: u60 :: u61 :: u62 :: u63 :: u64 :: u65 :: u66 :: u67 :: u68 :: u69 :: u70 :: u71 :: u72 :: u73 :: u74 :: u75 :: u76 :: u77 :: u78 :: u79 :: u80 :: u81 :: u82 :: u83 :: u84 :: u85 :: u86 :: u87 :: u88 :: u89 :: u90 :: u91 :: u92 :: u93 :: u94 :: u95 :: u96 :: u97 :: u98 :: u99 :: u100 :: u101 :: u102 :: y103 :: y104 :: y105 :: y106 :: y107 :: y108 :: y109 :: y110 :: y111 :: y112 :: y113 :: y114 :: y115 :: y116 :: y117 :: y118 :: y119 :: y120 :: y121 :: y122 :: y123 :: y124 :: y125 :: y126 :: y127 :: y128 :: y129 :: y130 :: y131 :: y132 :: y133 :: y134 :: y135 :: y136 :: y137 :: y138 :: y139 :: y140 :: y141 :: y142 :: y143 :: y144 :: y145 :: y146 :: y147 :: y148 :: y149 :: y150 :: y151 :: y152 :: y153 :: y154 :: y155 :: y156 :: y157 :: y158 :: y159 :: y160 :: y161 :: y162 :: y163 :: y164 :: y165 :: y166 :: y167 :: y168 :: y169 :: y170 :: y171 :: y172 :: y173 :: y174 :: y175 :: y176 :: y177 :: y178 :: y179 :: y180 :: y181 :: y182 :: y183 :: y184 :: y185 :: y186 :: y187 :: y188 :: y189 :: y190 :: y191 :: y192 :: y193 :: y194 :: y195 :: y196 :: y197 :: y198 :: y199 :: y200 :: y201 :: y202 :: y203 :: y204 :: y205 :: y206 :: y207 :: y208 :: y209 :: y210 :: y211 :: y212 :: y213 :: y214 :: y215 :: y216 :: y217 :: y218 :: y219 :: y220 :: y221 :: y222 :: y223 :: y224 :: y225 :: y226 :: y227 :: u228 :: [])), []⟩ w') :
    Code.wp Try.prog pfE_a (Exit.then K9 Q) ⟨(List.toArray (.int .i64 (m.bound : Int) :: u1 :: u2 :: u3 :: u4 :: u5 :: u6 :: .pointer (some ⟨b, 0, none⟩) :: u8 :: v9 :: .int .u64 (now : Int) :: .int .i64 (G0 : Int) :: u12 :: u13 :: u14 :: u15 :: u16 :: u17 :: u18 :: u19 :: u20 :: u21 :: u22 :: u23 :: u24 :: u25 :: u26 :: u27 :: u28 :: u29 :: u30 :: u31 :: u32 :: u33 :: u34 :: u35 :: u36 :: u37 :: u38 :: u39 :: u40 :: u41 :: u42 :: u43 :: u44 :: u45 :: u46 :: u47 :: u48 :: u49 :: u50 :: u51 :: u52 :: u53 :: u54 :: u55 :: u56 :: u57 :: u58 :: u59 :: u60 :: u61 :: u62 :: u63 :: u64 :: u65 :: u66 :: u67 :: u68 :: u69 :: u70 :: u71 :: u72 :: u73 :: u74 :: u75 :: u76 :: u77 :: u78 :: u79 :: u80 :: u81 :: u82 :: u83 :: u84 :: u85 :: u86 :: u87 :: u88 :: u89 :: u90 :: u91 :: u92 :: u93 :: u94 :: u95 :: u96 :: u97 :: u98 :: u99 :: u100 :: u101 :: u102 :: u103 :: u104 :: u105 :: u106 :: u107 :: u108 :: u109 :: u110 :: u111 :: u112 :: u113 :: u114 :: u115 :: u116 :: u117 :: u118 :: u119 :: u120 :: u121 :: u122 :: u123 :: u124 :: u125 :: u126 :: u127 :: u128 :: u129 :: u130 :: u131 :: u132 :: u133 :: u134 :: u135 :: u136 :: u137 :: u138 :: u139 :: u140 :: u141 :: u142 :: u143 :: u144 :: u145 :: u146 :: u147 :: u148 :: u149 :: u150 :: u151 :: u152 :: u153 :: u154 :: u155 :: u156 :: u157 :: u158 :: u159 :: u160 :: u161 :: u162 :: u163 :: u164 :: u165 :: u166 :: u167 :: u168 :: u169 :: u170 :: u171 :: u172 :: u173 :: u174 :: u175 :: u176 :: u177 :: u178 :: u179 :: u180 :: u181 :: u182 :: u183 :: u184 :: u185 :: u186 :: u187 :: u188 :: u189 :: u190 :: u191 :: u192 :: u193 :: u194 :: u195 :: u196 :: u197 :: u198 :: u199 :: u200 :: u201 :: u202 :: u203 :: u204 :: u205 :: u206 :: u207 :: u208 :: u209 :: u210 :: u211 :: u212 :: u213 :: u214 :: u215 :: u216 :: u217 :: u218 :: u219 :: u220 :: u221 :: u222 :: u223 :: u224 :: u225 :: u226 :: u227 :: u228 :: [])), []⟩ w := by
  conv => arg 2; whnf
  conv at hK9 => intro a w; arg 1; arg 2; whnf
  have HEND := Lib.hid hend
  have HF := Lib.hid hf
  have HI := Lib.hid hi
  have HX := Lib.hid hx
  obtain ⟨A0, c9, rfl, -⟩ := id ht
  have HT0 := Lib.hid ht
  obtain ⟨z0, hz0⟩ : ∃ z0, (ext.map (·.2.1) ++ m.wt).length = z0 := ⟨_, rfl⟩
  rw [hz0] at HT0 HEND ⊢
  clear hend hf hi hx ht hz0
  have hgl0 : m.gs.length ≤ 1000 := Nat.le_trans HI.out.core.gl hk0
  obtain ⟨L, hLL⟩ : ∃ L, m.gs.length = L := ⟨_, rfl⟩
  have HLL := Lib.hid hLL
  rw [hLL] at hL hgl0
  have HLE := Lib.hid hL
  have hGL : G0 ≤ L := by omega
  clear hLL hL
  go_wp2_with fail
  obtain ⟨vw, vg, hfl, -, -⟩ := HF.out
  refine (grants_is _ b mb m vw vg _ hfl (by rw [HLL.out]; exact hgl0)).mono ?_
  rintro e w1 ⟨vl, rfl, hvl, ho1⟩
  have VL := Lib.hid hvl
  have O1 := Lib.hid ho1
  clear hvl ho1 hfl
  obtain ⟨Al, cl, rfl, -⟩ := VL.out.slice
  rw [show (grRows m.gs).length = L from by simp [grRows, HLL.out]] at VL ⊢
  go_wp2
  go_loopw [9, 11] (fun s9 s11 wr => ∃ (q : Nat) (A : Option Addr) (z c : Nat), (G0 ≤ q ∧ q ≤ L) ∧ s9 = .slice A z c ∧ s11 = .int .i64 q ∧ Hid (Only (fun _ => False) w wr ∧ Tl wr B9 (.slice A z c) ((ext.map (·.2.1)).drop (q - G0) ++ m.wt) ∧ (∀ k, (Value.slice A z c).ownBlock = some k → (Value.slice A0 z0 c9).ownBlock = some k) ∧ OwnS wr w.heap.size 48 3 (.slice Al L cl) (grRows m.gs))) (fun s9 s11 _ => L - (intOf s11).toNat)
  case atStart => exact ⟨G0, A0, z0, c9, by omega, rfl, rfl, Lib.hid ⟨O1.out, by rw [Nat.sub_self, List.drop_zero]; exact HT0.out.only O1.out (by simp), fun _ h => h, VL.out⟩⟩
  case round =>
    obtain ⟨q, A, z, c, hq, rfl, rfl, HR⟩ := hrel
    by_cases hql : q < L
    · have hqI : (q : Int) < (L : Int) := by omega
      obtain ⟨g, hg⟩ : ∃ g, m.gs[q]? = some g := ⟨_, List.getElem?_eq_getElem (by rw [HLL.out]; exact hql)⟩
      have he : ext[q - G0]? = some g := by rw [← HX.out, show G0 + (q - G0) = q by omega]; exact hg
      have hT := HR.out.2.1
      rw [drop_map_cons he, List.cons_append, show q - G0 + 1 = q + 1 - G0 by omega] at hT
      obtain ⟨hz, hzc, ga, oa, rfl, hc0⟩ := hT.first
      obtain ⟨hn1, hn2⟩ := HI.out.core.num q g hg
      have HV := HR.out.2.2.2
      obtain ⟨gb, cl', e, -⟩ := HV.at_ (by simp [grRows]; rw [HLL.out]; omega)
      injection e with e1 e2 e3
      subst e1
      clear e2 e3
      have hrg := HV.range (g := gb) (i := q) (xs := grCells g) rfl (by simp [grRows, hg])
      have HFG := Lib.hid (show Fg ga oa gb q g.2.1 g.2.2 wr wr from ⟨hc0, by have := hrg 0 _ rfl; rw [hn1] at this; simpa using this, hrg 1 _ rfl, hrg 2 _ rfl, Only.refl _ _⟩)
      have HT := Lib.hid hT
      have e0 : ((z : Int) == 0) = false := by simp; omega
      have hz0 : 0 < z := by omega
      have hz1 : 1 ≤ z := by omega
      have hnn : ¬ now < g.2.2 := by omega
      clear hT hc0 hrg HV he hg hn1 hn2 hz
      generalize g.2.1 = who at *
      generalize g.2.2 = at_ at *
      go_upto_region 29 with (fail)
      refine fo29 ga oa gb q z c L cl who at_ now wr hz0 hql e0 hnn (by omega) _ _ _ _ _ _ _ _ _ _ _ _ _ _ _ _ _ _ _ _ _ _ _ _ _ _ _ _ _ _ _ _ _ _ _ _ _ _ _ _ _ _ _ _ _ _ _ _ _ _ _ _ _ _ _ _ _ _ _ _ _ _ _ _ _ _ _ _ _ _ _ _ _ _ _ _ _ _ _ _ _ _ _ _ _ _ _ _ _ _ _ _ _ _ _ _ _ _ _ _ _ _ _ _ _ _ _ _ _ _ _ _ _ _ _ _ _ _ _ _ _ _ _ _ _ _ _ _ _ _ _ _ _ _ _ _ _ _ _ _ _ _ _ _ _ _ _ _ _ _ _ _ _ _ _ _ _ _ _ _ _ _ _ _ _ _ _ _ _ _ _ _ _ _ _ _ _ _ _ _ _ _ _ _ _ _ _ _ _ _ _ _ _ _ _ _ _ _ _ _ _ _ _ _ _ _ _ _ _ _ _ _ _ _ _ _ _ _ _ _ _ _ _ _ _ _ wr HFG.out ?_
      rintro q109 q110 q111 q112 q113 q114 q115 q116 q117 q118 q119 q120 q121 q122 q123 q124 q125 q126 q127 q128 q129 q130 q131 q132 q133 q134 q135 q136 q137 q138 q139 q140 q141 w2 ho2
      have O2 := Lib.hid ho2
      have hqw : IntKind.i64.wrap ((q : Int) + 1) = (q : Int) + 1 := by rw [IntKind.wrap_i64]; omega
      have hz1I : (1 : Int) ≤ (z : Int) := by omega
      clear ho2 HFG hnn e0
      by_cases hc1 : c = 1
      · subst hc1
        obtain rfl : z = 1 := by omega
        go_wp2
        exact ⟨⟨q + 1, _, _, _, by omega, rfl, by go_num, Lib.hid ⟨HR.out.1.trans O2.out (fun _ _ e => e), (HT.out.only O2.out (by simp)).last, HR.out.2.2.1, HR.out.2.2.2.only O2.out (by simp)⟩⟩, by simp [intOf]; omega⟩
      · have hz63 : (1 : Int) ≤ (z : Int) ∧ (0 : Int) ≤ 1 := by omega
        go_wp2
        exact ⟨⟨q + 1, _, _, _, by omega, rfl, by go_num, Lib.hid ⟨HR.out.1.trans O2.out (fun _ _ e => e), (HT.out.only O2.out (by simp)).tail, HR.out.2.2.1, HR.out.2.2.2.only O2.out (by simp)⟩⟩, by simp [intOf]; omega⟩
    · obtain rfl : q = L := by omega
      have hd : (ext.map (·.2.1)).drop (q - G0) = [] := List.drop_eq_nil_of_le (by have := HLE.out; simp; omega)
      have hT := HR.out.2.1
      rw [hd, List.nil_append] at hT
      have HT := Lib.hid hT
      clear hT hd
      go_upto_region 33 with (fail)
      rw [← HLL.out]
      refine pfD b mb now k0 B9 w.heap.size m S (.slice A z c) _ w0 HI.out (by rw [HLL.out]; exact hgl0) _ _ _ _ _ _ _ _ _ _ _ _ _ _ _ _ _ _ _ _ _ _ _ _ _ _ _ _ _ _ _ _ _ _ _ _ _ _ _ _ _ _ _ _ _ _ _ _ _ _ _ _ _ _ _ _ _ _ _ _ _ _ _ _ _ _ _ _ _ _ _ _ _ _ _ _ _ _ _ _ _ _ _ _ _ _ _ _ _ _ _ _ _ _ _ _ _ _ _ _ _ _ _ _ _ _ _ _ _ _ _ _ _ _ _ _ _ _ _ _ _ _ _ _ _ _ _ _ _ _ _ _ _ _ _ _ _ _ _ _ _ _ _ _ _ _ _ _ _ _ _ _ _ _ _ _ _ _ _ _ _ _ _ _ _ _ _ _ _ _ _ _ _ _ _ _ _ _ _ _ _ _ _ _ _ _ _ _ _ _ _ _ _ _ _ _ _ _ _ _ _ _ _ _ _ _ _ _ _ _ _ _ _ _ _ _ _ _ _ _ _ _ _ _ _ _ wr (HF.out.go HR.out.1) HT.out (by have := HR.out.2.2.2; rw [← HLL.out] at this; exact this) (by assumption) ?_
      rintro y6 y19 y20 y21 y22 y23 y147 y148 y149 y150 y151 y152 y153 y154 y155 y156 y157 y158 y159 y160 y161 y162 y163 y164 y165 y166 y167 y168 y169 y170 y171 y172 y173 y174 y175 y176 y177 y178 y179 y180 y181 y182 y183 y184 y185 y186 y187 y188 y189 y190 y191 y192 y193 y194 y195 y196 y197 y198 y199 y200 y201 y202 y203 y204 y205 y206 y207 y208 y209 y210 y211 y212 y213 y214 y215 y216 y217 y218 y219 y220 y221 y222 y223 y224 y225 y226 y227 w3 ho3
      have O3 := Lib.hid ho3
      clear ho3
      exact HEND.out _ _ _ _ _ _ _ _ _ _ _ _ _ _ _ _ _ _ _ _ _ _ _ _ _ _ _ _ _ _ _ _ _ _ _ _ _ _ _ _ _ _ _ _ _ _ _ _ _ _ _ _ _ _ _ _ _ _ _ _ _ _ _ _ _ _ _ _ _ _ _ _ _ _ _ _ _ _ _ _ _ _ _ _ _ _ _ _ _ _ _ _ _ _ _ _ _ _ _ _ _ _ _ _ _ _ _ _ _ _ _ _ _ _ _ _ _ _ _ _ _ _ _ _ _ _ _ _ _ _ _ _ _ _ _ ⟨HR.out.1.trans O3.out (fun _ _ e => e), rfl, HT.out.only O3.out (by simp), HR.out.2.2.1⟩

end Go.Proofs.Ytelfeedaadkhnaa
