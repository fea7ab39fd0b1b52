/- floor: the end of FloorOrder's round: what is looked at. Conditions: as each says. -/
import Derived.Test.YtelfeedaadkhnaaFoG
import Derived.Test.YtelfeedaadkhnaaFoD
import Derived.Test.YtelfeedaadkhnaaFoE
set_option linter.unusedVariables false
set_option linter.unusedSimpArgs false
namespace Go.Proofs.Ytelfeedaadkhnaa
open Go Go.RowKit

theorem mem_keys {m : Fl} {ys : List Nat} {x : Nat} (h : ys.Perm ((msV m.ms).map (·.1))) (hx : m.has x = true) : x ∈ ys := by
  rw [h.mem_iff]
  obtain ⟨y, hy, e⟩ := List.any_eq_true.1 hx
  simp only [msV, List.map_map, List.mem_map, Function.comp]
  exact ⟨y, hy, by simpa using e⟩
theorem has_yes (n : Nat) (v : Value) (l : List Nat) (w : World) (hv : Rd .u32 w v (nats l)) (hl : l.length ≤ 1000000) (h : n ∈ l) : Calls Try.prog 18 #[v, .int .u32 (n : Int)] w fun e w' => e = .returned (.bool true) ∧ w = w' := by
  have := has_is n v l w hv hl
  rwa [decide_eq_true h] at this
theorem has_no (n : Nat) (v : Value) (l : List Nat) (w : World) (hv : Rd .u32 w v (nats l)) (hl : l.length ≤ 1000000) (h : n ∉ l) : Calls Try.prog 18 #[v, .int .u32 (n : Int)] w fun e w' => e = .returned (.bool false) ∧ w = w' := by
  have := has_is n v l w hv hl
  rwa [decide_eq_false h] at this
theorem fsame_yes (va vb : Value) (l : List Nat) (w : World) (ha : Rd .u32 w va (nats l)) (hb : Rd .u32 w vb (nats l)) (hl : l.length ≤ 1000000) : Calls Try.prog 19 #[va, vb] w (SaysF (.bool true) w) := by
  have := fsame_is va vb l l w ha hb hl
  rwa [decide_eq_true rfl] at this
theorem nodup_drop {l : List Nat} {k x : Nat} (h : l.Nodup) (hx : l[k]? = some x) : x ∉ l.drop (k + 1) := by
  intro hm
  have h1 := (List.getElem?_eq_some_iff.1 hx).1
  have hxt : x ∈ l.take (k + 1) := List.mem_of_getElem? (i := k) (by rw [List.getElem?_take, if_pos (Nat.lt_succ_self k)]; exact hx)
  rw [← List.take_append_drop (k + 1) l] at h
  exact (List.nodup_append.1 h).2.2 x hxt x hm rfl
theorem last_row {gs : List (Nat × Nat × Nat)} {g : Nat × Nat × Nat} (h : gs.getLast? = some g) : 0 < gs.length ∧ (grRows gs)[gs.length - 1]? = some (grCells g) := by
  have hne : gs ≠ [] := by intro e; rw [e] at h; cases h
  refine ⟨List.length_pos_iff.2 hne, ?_⟩
  rw [List.getLast?_eq_getElem?] at h
  simp [grRows, h]
noncomputable def pfD_a : Code := match Try.f4.body.bind (codeIf 33) with | some (.seq a _) => a | _ => .skip
noncomputable def pfD_b : Code := match Try.f4.body.bind (codeIf 33) with | some (.seq _ b) => b | _ => .skip
set_option maxRecDepth 100000 in
set_option maxHeartbeats 8000000 in
theorem pfD (b mb now k0 B9 Bl : Nat) (m : Fl) (S : Nat → Prop) (v9 vl : Value) (w0 : World) (hi : m.Inv now k0) (hgl : m.gs.length ≤ 1000)  (u1 u2 u3 u4 u5 u6 u8 u10 u12 u13 u14 u15 u16 u17 u19 u20 u21 u22 u23 u24 u25 u26 u27 u28 u29 u30 u31 u32 u33 u34 u35 u36 u37 u38 u39 u40 u41 u42 u43 u44 u45 u46 u47 u48 u49 u50 u51 u52 u53 u54 u55 u56 u57 u58 u59 u60 u61 u62 u63 u64 u65 u66 u67 u68 u69 u70 u71 u72 u73 u74 u75 u76 u77 u78 u79 u80 u81 u82 u83 u84 u85 u86 u87 u88 u89 u90 u91 u92 u93 u94 u95 u96 u97 u98 u99 u100 u101 u102 u103 u104 u105 u106 u107 u108 u109 u110 u111 u112 u113 u114 u115 u116 u117 u118 u119 u120 u121 u122 u123 u124 u125 u126 u127 u128 u129 u130 u131 u132 u133 u134 u135 u136 u137 u138 u139 u140 u141 u142 u143 u144 u145 u146 u147 u148 u149 u150 u151 u152 u153 u154 u155 u156 u157 u158 u159 u160 u161 u162 u163 u164 u165 u166 u167 u168 u169 u170 u171 u172 u173 u174 u175 u176 u177 u178 u179 u180 u181 u182 u183 u184 u185 u186 u187 u188 u189 u190 u191 u192 u193 u194 u195 u196 u197 u198 u199 u200 u201 u202 u203 u204 u205 u206 u207 u208 u209 u210 u211 u212 u213 u214 u215 u216 u217 u218 u219 u220 u221 u222 u223 u224 u225 u226 u227 u228 : Value) (Q : Exit → Act → World → Prop) (K9 : Act → World → Prop) (w : World) (hf : Fs w0 b mb m S w) (ht : Tl w B9 v9 m.wt) (hgr : OwnS w Bl 48 3 vl (grRows m.gs)) (hK9 : ∀ a w, Code.wp Try.prog pfD_b Q a w → K9 a w)
    (hend : ∀ (y6 y19 y20 y21 y22 y23 y147 y148 y149 y150 y151 y152 y153 y154 y155 y156 y157 y158 y159 y160 y161 y162 y163 y164 y165 y166 y167 y168 y169 y170 y171 y172 y173 y174 y175 y176 y177 y178 y179 y180 y181 y182 y183 y184 y185 y186 y187 y188 y189 y190 y191 y192 y193 y194 y195 y196 y197 y198 y199 y200 y201 y202 y203 y204 y205 y206 y207 y208 y209 y210 y211 y212 y213 y214 y215 y216 y217 y218 y219 y220 y221 y222 y223 y224 y225 y226 y227 : Value) (w' : World), (Only (fun _ => False) w w') → Q .normal ⟨(List.toArray (.int .i64 (m.bound : Int) :: u1 :: u2 :: u3 :: u4 :: u5 :: y6 :: .pointer (some ⟨b, 0, none⟩) :: u8 :: v9 :: u10 :: .int .i64 (m.gs.length : Int) :: u12 :: u13 :: u14 :: u15 :: u16 :: u17 :: vl :: y19 :: y20 :: y21 :: y22 :: y23 :: u24 :: u25 :: u26 :: u27 :: u28 :: u29 :: u30 :: u31 :: u32 :: u33 :: u34 :: u35 :: u36 :: u37 :: u38 :: u39 :: u40 :: u41 :: u42 :: u43 :: u44 :: u45 :: u46 :: u47 :: u48 :: u49 :: u50 :: u51 :: u52 :: u53 :: u54 :: u55 :: u56 :: u57 :: u58 :: u59 :: u60 :: u61 :: u62 :: u63 :: u64 :: u65 :: u66 :: u67 :: u68 :: u69 :: u70 :: u71 :: u72 :: u73 :: u74 :: u75 :: u76 :: u77 :: u78 :: u79 :: u80 :: u81 :: u82 :: u83 :: u84 :: u85 :: u86 :: u87 :: u88 :: u89 :: u90 :: u91 :: u92 :: u93 :: u94 :: u95 :: u96 :: u97 :: u98 :: u99 :: u100 :: u101 :: u102 :: u103 :: u104 :: u105 :: u106 :: u107 :: u108 :: u109 :: u110 :: u111 :: u112 :: u113 :: u114 :: u115 :: u116 :: u117 :: u118 :: u119 :: u120 :: u121 :: u122 :: u123 :: u124 :: u125 :: u126 :: u127 :: u128 :: u129 :: u130 :: u131 :: u132 :: u133 :: u134 :: u135 :: u136 :: u137 :: u138 :: u139 :: u140 :: u141 :: u142 :: u143 :: u144 :: u145 :: u146 :: y147 :: y148 :: y149 :: y150 :: y151 :: y152 :: y153 :: y154 :: y155 :: y156 :: y157 :: y158 :: y159 :: y160 :: y161 :: y162 :: y163 :: y164 :: y165 :: y166 :: y167 :: y168 :: y169 :: y170 :: y171 :: y172 :: y173 :: y174 :: y175 :: y176 :: y177 :: y178 :: y179 :: y180 :: y181 :: y182 :: y183 :: y184 :: y185 :: y186 :: y187 :: y188 :: y189 :: y190 :: y191 :: y192 :: y193 :: y194 :: y195 :: y196 :: y197 :: y198 :: y199 :: y200 :: y201 :: y202 :: y203 :: y204 :: y205 :: y206 :: y207 :: y208 :: y209 :: y210 :: y211 :: y212 :: y213 :: y214 :: y215 :: y216 :: y217 :: y218 :: y219 :: y220 :: y221 :: y222 :: y223 :: y224 :: y225 :: y226 :: y227 :: u228 :: [])), []⟩ w') :
    Code.wp Try.prog pfD_a (Exit.then K9 Q) ⟨(List.toArray (.int .i64 (m.bound : Int) :: u1 :: u2 :: u3 :: u4 :: u5 :: u6 :: .pointer (some ⟨b, 0, none⟩) :: u8 :: v9 :: u10 :: .int .i64 (m.gs.length : Int) :: u12 :: u13 :: u14 :: u15 :: u16 :: u17 :: vl :: u19 :: u20 :: u21 :: u22 :: u23 :: u24 :: u25 :: u26 :: u27 :: u28 :: u29 :: u30 :: u31 :: u32 :: u33 :: u34 :: u35 :: u36 :: u37 :: u38 :: u39 :: u40 :: u41 :: u42 :: u43 :: u44 :: u45 :: u46 :: u47 :: u48 :: u49 :: u50 :: u51 :: u52 :: u53 :: u54 :: u55 :: u56 :: u57 :: u58 :: u59 :: u60 :: u61 :: u62 :: u63 :: u64 :: u65 :: u66 :: u67 :: u68 :: u69 :: u70 :: u71 :: u72 :: u73 :: u74 :: u75 :: u76 :: u77 :: u78 :: u79 :: u80 :: u81 :: u82 :: u83 :: u84 :: u85 :: u86 :: u87 :: u88 :: u89 :: u90 :: u91 :: u92 :: u93 :: u94 :: u95 :: u96 :: u97 :: u98 :: u99 :: u100 :: u101 :: u102 :: u103 :: u104 :: u105 :: u106 :: u107 :: u108 :: u109 :: u110 :: u111 :: u112 :: u113 :: u114 :: u115 :: u116 :: u117 :: u118 :: u119 :: u120 :: u121 :: u122 :: u123 :: u124 :: u125 :: u126 :: u127 :: u128 :: u129 :: u130 :: u131 :: u132 :: u133 :: u134 :: u135 :: u136 :: u137 :: u138 :: u139 :: u140 :: u141 :: u142 :: u143 :: u144 :: u145 :: u146 :: u147 :: u148 :: u149 :: u150 :: u151 :: u152 :: u153 :: u154 :: u155 :: u156 :: u157 :: u158 :: u159 :: u160 :: u161 :: u162 :: u163 :: u164 :: u165 :: u166 :: u167 :: u168 :: u169 :: u170 :: u171 :: u172 :: u173 :: u174 :: u175 :: u176 :: u177 :: u178 :: u179 :: u180 :: u181 :: u182 :: u183 :: u184 :: u185 :: u186 :: u187 :: u188 :: u189 :: u190 :: u191 :: u192 :: u193 :: u194 :: u195 :: u196 :: u197 :: u198 :: u199 :: u200 :: u201 :: u202 :: u203 :: u204 :: u205 :: u206 :: u207 :: u208 :: u209 :: u210 :: u211 :: u212 :: u213 :: u214 :: u215 :: u216 :: u217 :: u218 :: u219 :: u220 :: u221 :: u222 :: u223 :: u224 :: u225 :: u226 :: u227 :: u228 :: [])), []⟩ w := by
  conv => arg 2; whnf
  conv at hK9 => intro a w; arg 1; arg 2; whnf
  have HEND := Lib.hid hend
  have HF := Lib.hid hf
  have HT := Lib.hid ht
  have HL := Lib.hid hgr
  have HI := Lib.hid hi
  clear hend hf ht hgr hi
  go_wp2_with fail
  refine (fs_look HF.out (fun vw vg h => holder_is _ b mb m vw vg _ h)).mono ?_
  rintro e w1 ⟨rfl, ho1⟩
  have O1 := Lib.hid ho1
  clear ho1
  go_upto_region 34 with (fail)
  obtain ⟨w2, hw2⟩ : ∃ w2, w2 = w1.alloc (.cells #[.int .u64 (m.no : Int), .int .u32 (m.who : Int), .int .u64 (m.at_ : Int)] 48) := ⟨_, rfl⟩
  have R2 := Lib.hid (show Is w2 w1.heap.size 48 #[.int .u64 (m.no : Int), .int .u32 (m.who : Int), .int .u64 (m.at_ : Int)] from by rw [hw2]; exact Is.made _ _ _)
  have O2 := Lib.hid (show Only (fun _ => False) w w2 from by rw [hw2]; exact O1.out.alloc _)
  generalize hrb : w1.heap.size = rb at *
  rw [← hw2]
  clear hw2 hrb O1
  go_wp2_with fail
  obtain ⟨vw, vg, hfl, -, -⟩ := HF.out
  have FL := Lib.hid hfl
  clear hfl
  refine (waiting_is _ b mb m vw vg _ (FL.out.pure O2.out) (by have := HI.out.core.wl; have := HI.out.core.bound; omega)).mono ?_
  rintro e w3 ⟨v3, rfl, hv3, ho3⟩
  have V3 := Lib.hid hv3
  have O3 := Lib.hid (O2.out.trans ho3 (fun _ _ e => e))
  have R3 := Lib.hid (R2.out.only ho3 (by simp))
  clear hv3 ho3
  go_wp2_with fail
  refine (members_is _ b mb m vw vg _ (FL.out.pure O3.out) (by have := HI.out.core.few; omega)).mono ?_
  rintro e w4 ⟨v4, ys, rfl, hp4, -, hv4, ho4⟩
  have V4 := Lib.hid (own32 hv4)
  have V5 := Lib.hid (V3.out.only ho4 (by simp))
  have O4 := Lib.hid (O3.out.trans ho4 (fun _ _ e => e))
  have R4 := Lib.hid (R3.out.only ho4 (by simp))
  have P4 := Lib.hid hp4
  have hyl : ys.length ≤ 1000000 := by have := hp4.length_eq; have h2 := HI.out.core.few; simp [msV] at this; omega
  have hwl : m.wt.length ≤ 32 := by have := HI.out.core.wl; have := HI.out.core.bound; omega
  clear hv4 ho4 hp4 R2 R3 O2 O3 V3 FL
  obtain ⟨Aw, cw, rfl, hcw⟩ := V5.out.slice
  rw [rows32_length] at hcw V5 ⊢
  obtain ⟨Lw, hLw⟩ : ∃ Lw, m.wt.length = Lw := ⟨_, rfl⟩
  have eB : ¬ m.bound < Lw := by have := HI.out.core.wl; omega
  have HLW := Lib.hid hLw
  rw [hLw] at hcw hwl V5 ⊢
  clear hLw
  have HO := Lib.hid (show Fo Bl v4 (.slice Aw Lw cw) v9 vl ys m.wt m.wt m.gs rb m.no m.who m.at_ w4 w4 from ⟨V4.out, own32 V5.out, (HT.out.only O4.out (by simp)).rd, R4.out, HL.out.only O4.out (by simp), Only.refl _ _⟩)
  by_cases h0 : 0 < m.no
  · obtain ⟨k1, k2, k3⟩ := HI.out.hold h0
    obtain ⟨hgp, hrow⟩ := last_row k3
    have hgl3 : (grRows m.gs).length = m.gs.length := by simp [grRows]
    obtain ⟨gb, cl, hvl, -⟩ := HL.out.at_ (by rw [hgl3]; exact hgp)
    rw [hgl3] at hvl
    subst hvl
    obtain ⟨G, hG⟩ : ∃ G, m.gs.length = G := ⟨_, rfl⟩
    have HGG := Lib.hid hG
    rw [hG] at hgp hrow HO hgl ⊢
    have eG : ((G : Int) == 0) = false := by simp; omega
    have eS : IntKind.i64.wrap ((G : Int) - 1) = ((G - 1 : Nat) : Int) := by rw [IntKind.wrap_i64]; omega
    have hm4 := Lib.hid (fun w h => has_yes m.who v4 ys w h hyl (mem_keys P4.out k1))
    have hw4 := Lib.hid (fun w h => has_no m.who (.slice Aw Lw cw) m.wt w h (by rw [HLW.out]; omega) k2)
    have hs4 := Lib.hid (fun w h1 h2 => fsame_yes (.slice Aw Lw cw) v9 m.wt w h1 h2 (by rw [HLW.out]; omega))
    have HRW := Lib.hid hrow
    clear hrow k1 k2 k3 hG hgl3
    rw [decide_eq_true h0]
    clear h0
    go_upto_region 35 with (fail)
    refine fo35t Bl gb G (G - 1) cl Lw cw m.bound rb m.no m.who m.at_ Aw v4 v9 ys m.wt m.wt m.gs w4 HRW.out (by omega) eG eS eB hm4.out hw4.out hs4.out _ _ _ _ _ _ _ _ _ _ _ _ _ _ _ _ _ _ _ _ _ _ _ _ _ _ _ _ _ _ _ _ _ _ _ _ _ _ _ _ _ _ _ _ _ _ _ _ _ _ _ _ _ _ _ _ _ _ _ _ _ _ _ _ _ _ _ _ _ _ _ _ _ _ _ _ _ _ _ _ _ _ _ _ _ _ _ _ _ _ _ _ _ _ _ _ _ _ _ _ _ _ _ _ _ _ _ _ _ _ _ _ _ _ _ _ _ _ _ _ _ _ _ _ _ _ _ _ _ _ _ _ _ _ _ _ _ _ _ _ _ _ _ _ _ _ _ _ _ _ _ _ _ _ _ _ _ _ _ _ _ _ _ _ _ _ _ _ _ _ _ _ _ _ _ _ _ _ _ _ _ _ _ _ _ _ _ _ _ _ _ _ _ _ _ _ _ _ _ _ _ _ _ _ _ _ _ _ _ _ _ _ _ _ _ _ _ _ _ _ _ _ w4 HO.out ?_
    rintro q156 q157 q158 q159 q160 q161 q162 q163 q164 q165 q166 q167 q168 q169 q170 q171 q172 q173 q174 q175 q176 q177 q178 q179 q180 q181 q182 q183 q184 q185 q186 q187 q188 q189 q190 q191 q192 q193 q194 q195 q196 q197 q198 q199 q200 q201 q202 w5 ho5
    clear hm4 hw4 hs4 eG eS HRW
    have HR5 := Lib.hid (show Rd .u32 w5 v4 (nats ys) ∧ OwnS w5 w2.heap.size 30 1 _ (rows32 m.wt) from ⟨V4.out.only ho5 (by simp), V5.out.only ho5 (by simp)⟩)
    have O5 := Lib.hid (O4.out.trans ho5 (fun _ _ e => e))
    clear ho5
    go_wp2
    go_loopw [23] (fun s23 wr => ∃ k : Nat, k ≤ Lw ∧ s23 = .int .i64 k ∧ Hid (Only (fun _ => False) w wr ∧ Rd .u32 wr v4 (nats ys) ∧ OwnS wr w2.heap.size 30 1 (.slice Aw Lw cw) (rows32 m.wt))) (fun s23 _ => Lw - (intOf s23).toNat)
    case atStart => exact ⟨0, by omega, rfl, Lib.hid ⟨O5.out, HR5.out⟩⟩
    case round =>
      obtain ⟨k, hk, rfl, HR⟩ := hrel
      by_cases hkl : k < Lw
      · have hkI : (k : Int) < (Lw : Int) := by omega
        obtain ⟨gw, c', e, -⟩ := HR.out.2.2.at_ (by rw [rows32_length, HLW.out]; omega)
        injection e with e1 e2 e3
        subst e1
        clear e2 e3
        have hkx : k < m.wt.length := by rw [HLW.out]; exact hkl
        obtain ⟨y, hy⟩ : ∃ y, m.wt[k]? = some y := ⟨_, List.getElem?_eq_getElem hkx⟩
        have hm5 := Lib.hid (fun w h => has_yes y v4 ys w h hyl (mem_keys P4.out (HI.out.core.wh y (List.mem_of_getElem? hy))))
        have hw5 := Lib.hid (fun w v h => has_no y v (m.wt.drop (k + 1)) w h (by rw [List.length_drop, HLW.out]; omega) (nodup_drop HI.out.core.nd hy))
        have HQ := Lib.hid (show Fq w2.heap.size gw Lw cw v4 ys m.wt wr wr from ⟨HR.out.2.1, HR.out.2.2, Only.refl _ _⟩)
        have HY := Lib.hid hy
        clear hkx hy
        rcases (show cw = k + 1 ∨ k + 1 < cw by omega) with hcc | hcc
        · subst hcc
          go_upto_region 40 with (fail)
          refine fo40e w2.heap.size gw Lw k y v4 ys m.wt wr hkl trivial hcw (by omega) HY.out hm5.out hw5.out _ _ _ _ _ _ _ _ _ _ _ _ _ _ _ _ _ _ _ _ _ _ _ _ _ _ _ _ _ _ _ _ _ _ _ _ _ _ _ _ _ _ _ _ _ _ _ _ _ _ _ _ _ _ _ _ _ _ _ _ _ _ _ _ _ _ _ _ _ _ _ _ _ _ _ _ _ _ _ _ _ _ _ _ _ _ _ _ _ _ _ _ _ _ _ _ _ _ _ _ _ _ _ _ _ _ _ _ _ _ _ _ _ _ _ _ _ _ _ _ _ _ _ _ _ _ _ _ _ _ _ _ _ _ _ _ _ _ _ _ _ _ _ _ _ _ _ _ _ _ _ _ _ _ _ _ _ _ _ _ _ _ _ _ _ _ _ _ _ _ _ _ _ _ _ _ _ _ _ _ _ _ _ _ _ _ _ _ _ _ _ _ _ _ _ _ _ _ _ _ _ _ _ _ _ _ _ _ _ _ _ _ _ _ _ _ _ _ _ _ _ _ _ _ _ _ _ wr HQ.out ?_
          rintro q210 q211 q212 q213 q214 q215 q216 q217 q218 q219 q220 q221 q222 q223 q224 q225 q226 w6 ho6
          have O6 := Lib.hid ho6
          clear ho6 hm5 hw5 HQ HY
          go_wp2
          exact ⟨⟨k + 1, by omega, by go_num, Lib.hid ⟨HR.out.1.trans O6.out (fun _ _ e => e), HR.out.2.1.only O6.out (by simp), HR.out.2.2.only O6.out (by simp)⟩⟩, by simp [intOf]; omega⟩
        · go_upto_region 40 with (fail)
          refine fo40s w2.heap.size gw Lw cw k y v4 ys m.wt wr hkl hcc hcw (by omega) HY.out hm5.out hw5.out _ _ _ _ _ _ _ _ _ _ _ _ _ _ _ _ _ _ _ _ _ _ _ _ _ _ _ _ _ _ _ _ _ _ _ _ _ _ _ _ _ _ _ _ _ _ _ _ _ _ _ _ _ _ _ _ _ _ _ _ _ _ _ _ _ _ _ _ _ _ _ _ _ _ _ _ _ _ _ _ _ _ _ _ _ _ _ _ _ _ _ _ _ _ _ _ _ _ _ _ _ _ _ _ _ _ _ _ _ _ _ _ _ _ _ _ _ _ _ _ _ _ _ _ _ _ _ _ _ _ _ _ _ _ _ _ _ _ _ _ _ _ _ _ _ _ _ _ _ _ _ _ _ _ _ _ _ _ _ _ _ _ _ _ _ _ _ _ _ _ _ _ _ _ _ _ _ _ _ _ _ _ _ _ _ _ _ _ _ _ _ _ _ _ _ _ _ _ _ _ _ _ _ _ _ _ _ _ _ _ _ _ _ _ _ _ _ _ _ _ _ _ _ _ _ _ _ wr HQ.out ?_
          rintro q210 q211 q212 q213 q214 q215 q216 q217 q218 q219 q220 q221 q222 q223 q224 q225 q226 w6 ho6
          have O6 := Lib.hid ho6
          clear ho6 hm5 hw5 HQ HY
          go_wp2
          exact ⟨⟨k + 1, by omega, by go_num, Lib.hid ⟨HR.out.1.trans O6.out (fun _ _ e => e), HR.out.2.1.only O6.out (by simp), HR.out.2.2.only O6.out (by simp)⟩⟩, by simp [intOf]; omega⟩
      · obtain rfl : k = Lw := by omega
        go_wp2
        rw [← HGG.out]
        exact HEND.out _ _ _ _ _ _ _ _ _ _ _ _ _ _ _ _ _ _ _ _ _ _ _ _ _ _ _ _ _ _ _ _ _ _ _ _ _ _ _ _ _ _ _ _ _ _ _ _ _ _ _ _ _ _ _ _ _ _ _ _ _ _ _ _ _ _ _ _ _ _ _ _ _ _ _ _ _ _ _ _ _ _ _ _ _ _ _ _ HR.out.1
  · have hwt := HI.out.free (by omega)
    obtain rfl : Lw = 0 := by rw [← HLW.out, hwt]; rfl
    have hs4 := Lib.hid (fun w h1 h2 => fsame_yes (.slice Aw 0 cw) v9 m.wt w h1 h2 (by rw [HLW.out]; omega))
    rw [decide_eq_false h0]
    clear h0 hwt
    go_upto_region 35 with (fail)
    refine fo35f Bl m.gs.length cw m.bound rb m.no m.who m.at_ Aw v4 v9 vl ys m.wt m.wt m.gs w4 hs4.out _ _ _ _ _ _ _ _ _ _ _ _ _ _ _ _ _ _ _ _ _ _ _ _ _ _ _ _ _ _ _ _ _ _ _ _ _ _ _ _ _ _ _ _ _ _ _ _ _ _ _ _ _ _ _ _ _ _ _ _ _ _ _ _ _ _ _ _ _ _ _ _ _ _ _ _ _ _ _ _ _ _ _ _ _ _ _ _ _ _ _ _ _ _ _ _ _ _ _ _ _ _ _ _ _ _ _ _ _ _ _ _ _ _ _ _ _ _ _ _ _ _ _ _ _ _ _ _ _ _ _ _ _ _ _ _ _ _ _ _ _ _ _ _ _ _ _ _ _ _ _ _ _ _ _ _ _ _ _ _ _ _ _ _ _ _ _ _ _ _ _ _ _ _ _ _ _ _ _ _ _ _ _ _ _ _ _ _ _ _ _ _ _ _ _ _ _ _ _ _ _ _ _ _ _ _ _ _ _ _ _ _ _ _ _ _ _ _ _ _ _ _ w4 HO.out ?_
    rintro q156 q157 q158 q159 q160 q161 q162 q163 q164 q165 q166 q167 q168 q169 q170 q171 q172 q173 q174 q175 q176 q177 q178 q179 q180 q181 q182 q183 q184 q185 q186 q187 q188 q189 q190 q191 q192 q193 q194 q195 q196 q197 q198 q199 q200 q201 q202 w5 ho5
    clear hs4
    have HR5 := Lib.hid (show Rd .u32 w5 v4 (nats ys) ∧ OwnS w5 w2.heap.size 30 1 _ (rows32 m.wt) from ⟨V4.out.only ho5 (by simp), V5.out.only ho5 (by simp)⟩)
    have O5 := Lib.hid (O4.out.trans ho5 (fun _ _ e => e))
    clear ho5
    go_wp2
    go_loopw [23] (fun s23 wr => ∃ k : Nat, k ≤ 0 ∧ s23 = .int .i64 k ∧ Hid (Only (fun _ => False) w wr ∧ Rd .u32 wr v4 (nats ys) ∧ OwnS wr w2.heap.size 30 1 (.slice Aw 0 cw) (rows32 m.wt))) (fun s23 _ => 0 - (intOf s23).toNat)
    case atStart => exact ⟨0, by omega, rfl, Lib.hid ⟨O5.out, HR5.out⟩⟩
    case round =>
      obtain ⟨k, hk, rfl, HR⟩ := hrel
      obtain rfl : k = 0 := by omega
      go_wp2
      exact HEND.out _ _ _ _ _ _ _ _ _ _ _ _ _ _ _ _ _ _ _ _ _ _ _ _ _ _ _ _ _ _ _ _ _ _ _ _ _ _ _ _ _ _ _ _ _ _ _ _ _ _ _ _ _ _ _ _ _ _ _ _ _ _ _ _ _ _ _ _ _ _ _ _ _ _ _ _ _ _ _ _ _ _ _ _ _ _ _ _ HR.out.1

end Go.Proofs.Ytelfeedaadkhnaa
