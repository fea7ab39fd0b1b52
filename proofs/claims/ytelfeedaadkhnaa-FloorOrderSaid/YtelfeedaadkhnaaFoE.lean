/- floor: the regions of FloorOrder that draw their order: those who wait, one by one; the grants; those who left. Conditions: as each says. -/
import Derived.Test.YtelfeedaadkhnaaFoC
set_option linter.unusedVariables false
set_option linter.unusedSimpArgs false
namespace Go.Proofs.Ytelfeedaadkhnaa
open Go Go.RowKit

/-- Those who wait are read. -/
structure Fq (B gw Lw cw : Nat) (vm : Value) (ys wt : List Nat) (w0 wx : World) : Prop where
  m : Rd .u32 wx vm (nats ys)
  w : OwnS wx B 30 1 (.slice (some ⟨gw, 0, none⟩) Lw cw) (rows32 wt)
  pure : Only (fun _ => False) w0 wx
theorem Fq.go {B gw Lw cw : Nat} {vm : Value} {ys wt : List Nat} {w0 wx wy : World} (h : Fq B gw Lw cw vm ys wt w0 wx) (ho : Only (fun _ => False) wx wy) : Fq B gw Lw cw vm ys wt w0 wy :=
  ⟨h.m.only ho (by simp), h.w.only ho (by simp), h.pure.trans ho (fun _ _ e => e)⟩
theorem Fq.drop {B gw Lw cw : Nat} {vm : Value} {ys wt : List Nat} {w0 wx : World} (h : Fq B gw Lw cw vm ys wt w0 wx) (k c' o : Nat) (hk : k + 1 ≤ Lw) (hc : Lw - (k + 1) ≤ c') (ho : k + 1 < Lw → o = k + 1) : Rd .u32 wx (.slice (some ⟨gw, o, none⟩) (Lw - (k + 1)) c') (nats (wt.drop (k + 1))) := by
  obtain ⟨cur, -, -, hxc, hcm, hnx⟩ := own_is h.w
  rw [rows32_length] at hnx
  have e : (nats (wt.drop (k + 1))).length = Lw - (k + 1) := by rw [nats_length, List.length_drop, hnx]
  refine ⟨_, c', by rw [e], by rw [e]; exact hc, fun hp => ⟨gw, o, rfl, fun j hj => ?_⟩⟩
  rw [e] at hp hj
  rw [ho (by omega)]
  have hj' : k + 1 + j < wt.length := by omega
  rw [own32_cell h.w (List.getElem?_eq_getElem hj')]
  simp [nats]
def fo40s_A : List (List Nat) := ([] :: [] :: [] :: [1, 2] :: [3, 1, 2] :: [0, 4, 3, 1, 2] :: [5, 0, 4, 3, 1, 2] :: [6, 5, 0, 4, 3, 1, 2] :: (7 :: 6 :: 5 :: 0 :: 4 :: 3 :: 1 :: 2 :: []) :: (7 :: 6 :: 5 :: 0 :: 4 :: 3 :: 1 :: 2 :: []) :: (9 :: 7 :: 6 :: 5 :: 0 :: 4 :: 3 :: 1 :: 2 :: []) :: (8 :: 10 :: 7 :: 6 :: 5 :: 0 :: 4 :: 3 :: 1 :: 2 :: 9 :: []) :: (7 :: 6 :: 5 :: 0 :: 4 :: 3 :: 1 :: 2 :: []) :: (7 :: 6 :: 5 :: 0 :: 4 :: 3 :: 1 :: 2 :: []) :: (12 :: 13 :: 7 :: 6 :: 5 :: 0 :: 4 :: 3 :: 1 :: 2 :: []) :: (14 :: 7 :: 12 :: 13 :: 6 :: 5 :: 0 :: 4 :: 3 :: 1 :: 2 :: []) :: (11 :: 15 :: 7 :: 8 :: 10 :: 6 :: 5 :: 0 :: 4 :: 3 :: 1 :: 2 :: 9 :: 14 :: 12 :: 13 :: []) :: (7 :: 16 :: 6 :: 5 :: 0 :: 4 :: 3 :: 1 :: 2 :: 11 :: 15 :: 8 :: 10 :: 9 :: 14 :: 12 :: 13 :: []) :: [])
def fo40s_kill : List (List Nat) := ([] :: [] :: [] :: [] :: [] :: [] :: [] :: [] :: [] :: [] :: [] :: [] :: [] :: [] :: [] :: [] :: [] :: [] :: [])
def fo40s_uses : List (List Nat) := ([] :: [] :: [] :: [] :: [] :: [] :: [] :: [] :: [] :: [] :: [] :: [] :: [] :: [] :: [] :: [] :: [] :: [] :: [])
noncomputable def fo40s_code : Code := ((Try.f4.body.bind (codeRegion 40)).getD .skip)
set_option maxRecDepth 100000 in
set_option maxHeartbeats 4000000 in
theorem fo40s_in (B gw Lw cw k y : Nat) (vm : Value) (ys wt : List Nat) (w0 : World) (hk : k < Lw) (hc : k + 1 < cw) (hLc : Lw ≤ cw) (hkm : k < 1000) (hy : wt[k]? = some y)
    (hm : ∀ w, Rd .u32 w vm (nats ys) → Calls Try.prog 18 #[vm, .int .u32 (y : Int)] w fun e w' => e = .returned (.bool true) ∧ w = w')
    (hw : ∀ w v, Rd .u32 w v (nats (wt.drop (k + 1))) → Calls Try.prog 18 #[v, .int .u32 (y : Int)] w fun e w' => e = .returned (.bool false) ∧ w = w')  (u0 u1 u2 u3 u4 u5 u6 u7 u8 u9 u10 u11 u12 u13 u14 u15 u16 u17 u18 u19 u20 u24 u25 u26 u27 u28 u29 u30 u31 u32 u33 u34 u35 u36 u37 u38 u39 u40 u41 u42 u43 u44 u45 u46 u47 u48 u49 u50 u51 u52 u53 u54 u55 u56 u57 u58 u59 u60 u61 u62 u63 u64 u65 u66 u67 u68 u69 u70 u71 u72 u73 u74 u75 u76 u77 u78 u79 u80 u81 u82 u83 u84 u85 u86 u87 u88 u89 u90 u91 u92 u93 u94 u95 u96 u97 u98 u99 u100 u101 u102 u103 u104 u105 u106 u107 u108 u109 u110 u111 u112 u113 u114 u115 u116 u117 u118 u119 u120 u121 u122 u123 u124 u125 u126 u127 u128 u129 u130 u131 u132 u133 u134 u135 u136 u137 u138 u139 u140 u141 u142 u143 u144 u145 u146 u147 u148 u149 u150 u151 u152 u153 u154 u155 u156 u157 u158 u159 u160 u161 u162 u163 u164 u165 u166 u167 u168 u169 u170 u171 u172 u173 u174 u175 u176 u177 u178 u179 u180 u181 u182 u183 u184 u185 u186 u187 u188 u189 u190 u191 u192 u193 u194 u195 u196 u197 u198 u199 u200 u201 u202 u203 u204 u205 u206 u207 u208 u209 u210 u211 u212 u213 u214 u215 u216 u217 u218 u219 u220 u221 u222 u223 u224 u225 u226 u227 u228 : Value) (w : World) (hG : Fq B gw Lw cw vm ys wt w0 w) :
    Code.wp Try.prog fo40s_code (fun e a w' => ∃ y210 y211 y212 y213 y214 y215 y216 y217 y218 y219 y220 y221 y222 y223 y224 y225 y226 : Value, a = ⟨(List.toArray (u0 :: u1 :: u2 :: u3 :: u4 :: u5 :: u6 :: u7 :: u8 :: u9 :: u10 :: u11 :: u12 :: u13 :: u14 :: u15 :: u16 :: u17 :: u18 :: u19 :: u20 :: .slice (some ⟨gw, 0, none⟩) Lw cw :: vm :: .int .i64 (k : Int) :: u24 :: u25 :: u26 :: u27 :: u28 :: u29 :: u30 :: u31 :: u32 :: u33 :: u34 :: u35 :: u36 :: u37 :: u38 :: u39 :: u40 :: u41 :: u42 :: u43 :: u44 :: u45 :: u46 :: u47 :: u48 :: u49 :: u50 :: u51 :: u52 :: u53 :: u54 :: u55 :: u56 :: u57 :: u58 :: u59 :: u60 :: u61 :: u62 :: u63 :: u64 :: u65 :: u66 :: u67 :: u68 :: u69 :: u70 :: u71 :: u72 :: u73 :: u74 :: u75 :: u76 :: u77 :: u78 :: u79 :: u80 :: u81 :: u82 :: u83 :: u84 :: u85 :: u86 :: u87 :: u88 :: u89 :: u90 :: u91 :: u92 :: u93 :: u94 :: u95 :: u96 :: u97 :: u98 :: u99 :: u100 :: u101 :: u102 :: u103 :: u104 :: u105 :: u106 :: u107 :: u108 :: u109 :: u110 :: u111 :: u112 :: u113 :: u114 :: u115 :: u116 :: u117 :: u118 :: u119 :: u120 :: u121 :: u122 :: u123 :: u124 :: u125 :: u126 :: u127 :: u128 :: u129 :: u130 :: u131 :: u132 :: u133 :: u134 :: u135 :: u136 :: u137 :: u138 :: u139 :: u140 :: u141 :: u142 :: u143 :: u144 :: u145 :: u146 :: u147 :: u148 :: u149 :: u150 :: u151 :: u152 :: u153 :: u154 :: u155 :: u156 :: u157 :: u158 :: u159 :: u160 :: u161 :: u162 :: u163 :: u164 :: u165 :: u166 :: u167 :: u168 :: u169 :: u170 :: u171 :: u172 :: u173 :: u174 :: u175 :: u176 :: u177 :: u178 :: u179 :: u180 :: u181 :: u182 :: u183 :: u184 :: u185 :: u186 :: u187 :: u188 :: u189 :: u190 :: u191 :: u192 :: u193 :: u194 :: u195 :: u196 :: u197 :: u198 :: u199 :: u200 :: u201 :: u202 :: u203 :: u204 :: u205 :: u206 :: u207 :: u208 :: u209 :: y210 :: y211 :: y212 :: y213 :: y214 :: y215 :: y216 :: y217 :: y218 :: y219 :: y220 :: y221 :: y222 :: y223 :: y224 :: y225 :: y226 :: (.bool false) :: u228 :: [])), []⟩ ∧ e = .normal ∧ (Only (fun _ => False) w0 w')) ⟨(List.toArray (u0 :: u1 :: u2 :: u3 :: u4 :: u5 :: u6 :: u7 :: u8 :: u9 :: u10 :: u11 :: u12 :: u13 :: u14 :: u15 :: u16 :: u17 :: u18 :: u19 :: u20 :: .slice (some ⟨gw, 0, none⟩) Lw cw :: vm :: .int .i64 (k : Int) :: u24 :: u25 :: u26 :: u27 :: u28 :: u29 :: u30 :: u31 :: u32 :: u33 :: u34 :: u35 :: u36 :: u37 :: u38 :: u39 :: u40 :: u41 :: u42 :: u43 :: u44 :: u45 :: u46 :: u47 :: u48 :: u49 :: u50 :: u51 :: u52 :: u53 :: u54 :: u55 :: u56 :: u57 :: u58 :: u59 :: u60 :: u61 :: u62 :: u63 :: u64 :: u65 :: u66 :: u67 :: u68 :: u69 :: u70 :: u71 :: u72 :: u73 :: u74 :: u75 :: u76 :: u77 :: u78 :: u79 :: u80 :: u81 :: u82 :: u83 :: u84 :: u85 :: u86 :: u87 :: u88 :: u89 :: u90 :: u91 :: u92 :: u93 :: u94 :: u95 :: u96 :: u97 :: u98 :: u99 :: u100 :: u101 :: u102 :: u103 :: u104 :: u105 :: u106 :: u107 :: u108 :: u109 :: u110 :: u111 :: u112 :: u113 :: u114 :: u115 :: u116 :: u117 :: u118 :: u119 :: u120 :: u121 :: u122 :: u123 :: u124 :: u125 :: u126 :: u127 :: u128 :: u129 :: u130 :: u131 :: u132 :: u133 :: u134 :: u135 :: u136 :: u137 :: u138 :: u139 :: u140 :: u141 :: u142 :: u143 :: u144 :: u145 :: u146 :: u147 :: u148 :: u149 :: u150 :: u151 :: u152 :: u153 :: u154 :: u155 :: u156 :: u157 :: u158 :: u159 :: u160 :: u161 :: u162 :: u163 :: u164 :: u165 :: u166 :: u167 :: u168 :: u169 :: u170 :: u171 :: u172 :: u173 :: u174 :: u175 :: u176 :: u177 :: u178 :: u179 :: u180 :: u181 :: u182 :: u183 :: u184 :: u185 :: u186 :: u187 :: u188 :: u189 :: u190 :: u191 :: u192 :: u193 :: u194 :: u195 :: u196 :: u197 :: u198 :: u199 :: u200 :: u201 :: u202 :: u203 :: u204 :: u205 :: u206 :: u207 :: u208 :: u209 :: u210 :: u211 :: u212 :: u213 :: u214 :: u215 :: u216 :: u217 :: u218 :: u219 :: u220 :: u221 :: u222 :: u223 :: u224 :: u225 :: u226 :: u227 :: u228 :: [])), []⟩ w := by
  conv => arg 2; whnf
  have Hm := Lib.hid hm
  have Hw := Lib.hid hw
  have hy := Lib.hid hy
  clear hm hw
  have eW : IntKind.i64.wrap ((k : Int) + 1) = ((k + 1 : Nat) : Int) := by rw [IntKind.wrap_i64]; omega
  have hkI : (k : Int) < (Lw : Int) := by omega
  have hk1 : k + 1 ≤ Lw := hk
  have hk0 : (0 : Int) ≤ (k : Int) + 1 := by omega
  have hk2 : (k : Int) + 1 ≤ (Lw : Int) := by omega
  have hne : ¬ cw = k + 1 := by omega
  refine wp_region_posts fo40s_A [] [] fo40s_kill fo40s_uses [] [] [] []
      (some ?v0 :: some ?v1 :: some ?v2 :: some ?v3 :: some ?v4 :: some ((.bool true)) :: some ?v6 :: some ?v7 :: some ?v8 :: some ?v9 :: some ?v10 :: some ?v11 :: some ?v12 :: some ?v13 :: some ?v14 :: some ?v15 :: some ((.bool false)) :: some ?v17 :: [])
      ?T (fun wx => Fq B gw Lw cw vm ys wt w0 wx) ?W ?E (by kernel_rfl) (by kernel_rfl) (by kernel_rfl) (fun x => ?hT) ?hF ?hini (Reg.all_ops ?runs) ?pres ?fin
  case W => exact fun j x w' => True
  case E => exact fun i wx wy => Only (fun _ => False) wx wy
  case hT =>
    simp only [Reg.fillV, Act.put, List.setIfInBounds_toArray, List.set_cons_zero, List.set_cons_succ]
    rfl
  case runs =>
    refine And.intro ?_ ?_
    · refine Reg.ob_pure (fun _ => rfl) rfl rfl rfl rfl (fun x w1 hF => ?_)
      have r1 : w1.cell? ⟨gw, k, none⟩ = some (.int .u32 (y : Int)) := own32_cell hF.w hy.out
      go_simp
      with_reducible rfl
    refine And.intro ?_ ?_
    · refine Reg.ob_pure (fun _ => rfl) rfl rfl rfl rfl (fun x w1 hF => ?_)
      have r1 : w1.cell? ⟨gw, k, none⟩ = some (.int .u32 (y : Int)) := own32_cell hF.w hy.out
      go_simp
      with_reducible rfl
    refine And.intro ?_ ?_
    · refine Reg.ob_pure (fun _ => rfl) rfl rfl rfl rfl (fun x w1 hF => ?_)
      have r1 : w1.cell? ⟨gw, k, none⟩ = some (.int .u32 (y : Int)) := own32_cell hF.w hy.out
      go_simp
      with_reducible rfl
    refine And.intro ?_ ?_
    · refine Reg.ob_pure (fun _ => rfl) rfl rfl rfl rfl (fun x w1 hF => ?_)
      have r1 : w1.cell? ⟨gw, k, none⟩ = some (.int .u32 (y : Int)) := own32_cell hF.w hy.out
      go_simp
      with_reducible rfl
    refine And.intro ?_ ?_
    · refine Reg.ob_pure (fun _ => rfl) rfl rfl rfl rfl (fun x w1 hF => ?_)
      have r1 : w1.cell? ⟨gw, k, none⟩ = some (.int .u32 (y : Int)) := own32_cell hF.w hy.out
      go_simp
      with_reducible rfl
    refine And.intro ?_ ?_
    · refine Reg.ob_known (fun _ => rfl) rfl rfl (fun x w1 hF hU K hK => ?_)
      replace hF := hF rfl
      go_simp
      refine (Hm.out w1 hF.m).mono ?_
      rintro e w5 ⟨rfl, rfl⟩
      exact hK _ (fun _ _ _ => hF) rfl
    refine And.intro ?_ ?_
    · refine Reg.ob_pure (fun _ => rfl) rfl rfl rfl rfl (fun x w1 hF => ?_)
      have r1 : w1.cell? ⟨gw, k, none⟩ = some (.int .u32 (y : Int)) := own32_cell hF.w hy.out
      go_simp
      with_reducible rfl
    refine And.intro ?_ ?_
    · refine Reg.ob_pure (fun _ => rfl) rfl rfl rfl rfl (fun x w1 hF => ?_)
      have r1 : w1.cell? ⟨gw, k, none⟩ = some (.int .u32 (y : Int)) := own32_cell hF.w hy.out
      go_simp
      with_reducible rfl
    refine And.intro ?_ ?_
    · refine Reg.ob_pure (fun _ => rfl) rfl rfl rfl rfl (fun x w1 hF => ?_)
      have r1 : w1.cell? ⟨gw, k, none⟩ = some (.int .u32 (y : Int)) := own32_cell hF.w hy.out
      go_simp
      with_reducible rfl
    refine And.intro ?_ ?_
    · refine Reg.ob_pure (fun _ => rfl) rfl rfl rfl rfl (fun x w1 hF => ?_)
      have r1 : w1.cell? ⟨gw, k, none⟩ = some (.int .u32 (y : Int)) := own32_cell hF.w hy.out
      go_simp
      with_reducible rfl
    refine And.intro ?_ ?_
    · refine Reg.ob_pure (fun _ => rfl) rfl rfl rfl rfl (fun x w1 hF => ?_)
      have r1 : w1.cell? ⟨gw, k, none⟩ = some (.int .u32 (y : Int)) := own32_cell hF.w hy.out
      go_simp
      with_reducible rfl
    refine And.intro ?_ ?_
    · refine Reg.ob_pure (fun _ => rfl) rfl rfl rfl rfl (fun x w1 hF => ?_)
      have r1 : w1.cell? ⟨gw, k, none⟩ = some (.int .u32 (y : Int)) := own32_cell hF.w hy.out
      go_simp
      with_reducible rfl
    refine And.intro ?_ ?_
    · refine Reg.ob_pure (fun _ => rfl) rfl rfl rfl rfl (fun x w1 hF => ?_)
      have r1 : w1.cell? ⟨gw, k, none⟩ = some (.int .u32 (y : Int)) := own32_cell hF.w hy.out
      go_simp
      with_reducible rfl
    refine And.intro ?_ ?_
    · refine Reg.ob_pure (fun _ => rfl) rfl rfl rfl rfl (fun x w1 hF => ?_)
      have r1 : w1.cell? ⟨gw, k, none⟩ = some (.int .u32 (y : Int)) := own32_cell hF.w hy.out
      go_simp
      with_reducible rfl
    refine And.intro ?_ ?_
    · refine Reg.ob_pure (fun _ => rfl) rfl rfl rfl rfl (fun x w1 hF => ?_)
      have r1 : w1.cell? ⟨gw, k, none⟩ = some (.int .u32 (y : Int)) := own32_cell hF.w hy.out
      go_simp
      with_reducible rfl
    refine And.intro ?_ ?_
    · refine Reg.ob_pure (fun _ => rfl) rfl rfl rfl rfl (fun x w1 hF => ?_)
      have r1 : w1.cell? ⟨gw, k, none⟩ = some (.int .u32 (y : Int)) := own32_cell hF.w hy.out
      go_simp
      with_reducible rfl
    refine And.intro ?_ ?_
    · refine Reg.ob_known (fun _ => rfl) rfl rfl (fun x w1 hF hU K hK => ?_)
      replace hF := hF rfl
      go_simp
      refine (Hw.out w1 _ (by exact hF.drop k _ _ hk1 (by omega) (fun _ => rfl))).mono ?_
      rintro e w5 ⟨rfl, rfl⟩
      exact hK _ (fun _ _ _ => hF) rfl
    refine And.intro ?_ ?_
    · refine Reg.ob_pure (fun _ => rfl) rfl rfl rfl rfl (fun x w1 hF => ?_)
      have r1 : w1.cell? ⟨gw, k, none⟩ = some (.int .u32 (y : Int)) := own32_cell hF.w hy.out
      go_simp
      with_reducible rfl
    exact trivial
  case hF =>
    exact hG.go ((Only.refl _ _).drewN 1)
  case hini =>
    exact trivial
  case pres =>
    intro i hi
    simp at hi
  case fin =>
    rintro x w9 hF hU
    repeat apply Exists.intro
    exact ⟨rfl, rfl, (hF rfl).pure⟩

set_option maxRecDepth 100000 in
set_option maxHeartbeats 4000000 in
theorem fo40s (B gw Lw cw k y : Nat) (vm : Value) (ys wt : List Nat) (w0 : World) (hk : k < Lw) (hc : k + 1 < cw) (hLc : Lw ≤ cw) (hkm : k < 1000) (hy : wt[k]? = some y)
    (hm : ∀ w, Rd .u32 w vm (nats ys) → Calls Try.prog 18 #[vm, .int .u32 (y : Int)] w fun e w' => e = .returned (.bool true) ∧ w = w')
    (hw : ∀ w v, Rd .u32 w v (nats (wt.drop (k + 1))) → Calls Try.prog 18 #[v, .int .u32 (y : Int)] w fun e w' => e = .returned (.bool false) ∧ w = w')  (u0 u1 u2 u3 u4 u5 u6 u7 u8 u9 u10 u11 u12 u13 u14 u15 u16 u17 u18 u19 u20 u24 u25 u26 u27 u28 u29 u30 u31 u32 u33 u34 u35 u36 u37 u38 u39 u40 u41 u42 u43 u44 u45 u46 u47 u48 u49 u50 u51 u52 u53 u54 u55 u56 u57 u58 u59 u60 u61 u62 u63 u64 u65 u66 u67 u68 u69 u70 u71 u72 u73 u74 u75 u76 u77 u78 u79 u80 u81 u82 u83 u84 u85 u86 u87 u88 u89 u90 u91 u92 u93 u94 u95 u96 u97 u98 u99 u100 u101 u102 u103 u104 u105 u106 u107 u108 u109 u110 u111 u112 u113 u114 u115 u116 u117 u118 u119 u120 u121 u122 u123 u124 u125 u126 u127 u128 u129 u130 u131 u132 u133 u134 u135 u136 u137 u138 u139 u140 u141 u142 u143 u144 u145 u146 u147 u148 u149 u150 u151 u152 u153 u154 u155 u156 u157 u158 u159 u160 u161 u162 u163 u164 u165 u166 u167 u168 u169 u170 u171 u172 u173 u174 u175 u176 u177 u178 u179 u180 u181 u182 u183 u184 u185 u186 u187 u188 u189 u190 u191 u192 u193 u194 u195 u196 u197 u198 u199 u200 u201 u202 u203 u204 u205 u206 u207 u208 u209 u210 u211 u212 u213 u214 u215 u216 u217 u218 u219 u220 u221 u222 u223 u224 u225 u226 u227 u228 : Value) (Q : Exit → Act → World → Prop) (w : World) (hG : Fq B gw Lw cw vm ys wt w0 w)
    (hend : ∀ (y210 y211 y212 y213 y214 y215 y216 y217 y218 y219 y220 y221 y222 y223 y224 y225 y226 : Value) (w' : World), (Only (fun _ => False) w0 w') → Q .normal ⟨(List.toArray (u0 :: u1 :: u2 :: u3 :: u4 :: u5 :: u6 :: u7 :: u8 :: u9 :: u10 :: u11 :: u12 :: u13 :: u14 :: u15 :: u16 :: u17 :: u18 :: u19 :: u20 :: .slice (some ⟨gw, 0, none⟩) Lw cw :: vm :: .int .i64 (k : Int) :: u24 :: u25 :: u26 :: u27 :: u28 :: u29 :: u30 :: u31 :: u32 :: u33 :: u34 :: u35 :: u36 :: u37 :: u38 :: u39 :: u40 :: u41 :: u42 :: u43 :: u44 :: u45 :: u46 :: u47 :: u48 :: u49 :: u50 :: u51 :: u52 :: u53 :: u54 :: u55 :: u56 :: u57 :: u58 :: u59 :: u60 :: u61 :: u62 :: u63 :: u64 :: u65 :: u66 :: u67 :: u68 :: u69 :: u70 :: u71 :: u72 :: u73 :: u74 :: u75 :: u76 :: u77 :: u78 :: u79 :: u80 :: u81 :: u82 :: u83 :: u84 :: u85 :: u86 :: u87 :: u88 :: u89 :: u90 :: u91 :: u92 :: u93 :: u94 :: u95 :: u96 :: u97 :: u98 :: u99 :: u100 :: u101 :: u102 :: u103 :: u104 :: u105 :: u106 :: u107 :: u108 :: u109 :: u110 :: u111 :: u112 :: u113 :: u114 :: u115 :: u116 :: u117 :: u118 :: u119 :: u120 :: u121 :: u122 :: u123 :: u124 :: u125 :: u126 :: u127 :: u128 :: u129 :: u130 :: u131 :: u132 :: u133 :: u134 :: u135 :: u136 :: u137 :: u138 :: u139 :: u140 :: u141 :: u142 :: u143 :: u144 :: u145 :: u146 :: u147 :: u148 :: u149 :: u150 :: u151 :: u152 :: u153 :: u154 :: u155 :: u156 :: u157 :: u158 :: u159 :: u160 :: u161 :: u162 :: u163 :: u164 :: u165 :: u166 :: u167 :: u168 :: u169 :: u170 :: u171 :: u172 :: u173 :: u174 :: u175 :: u176 :: u177 :: u178 :: u179 :: u180 :: u181 :: u182 :: u183 :: u184 :: u185 :: u186 :: u187 :: u188 :: u189 :: u190 :: u191 :: u192 :: u193 :: u194 :: u195 :: u196 :: u197 :: u198 :: u199 :: u200 :: u201 :: u202 :: u203 :: u204 :: u205 :: u206 :: u207 :: u208 :: u209 :: y210 :: y211 :: y212 :: y213 :: y214 :: y215 :: y216 :: y217 :: y218 :: y219 :: y220 :: y221 :: y222 :: y223 :: y224 :: y225 :: y226 :: (.bool false) :: u228 :: [])), []⟩ w') :
    Code.wp Try.prog fo40s_code Q ⟨(List.toArray (u0 :: u1 :: u2 :: u3 :: u4 :: u5 :: u6 :: u7 :: u8 :: u9 :: u10 :: u11 :: u12 :: u13 :: u14 :: u15 :: u16 :: u17 :: u18 :: u19 :: u20 :: .slice (some ⟨gw, 0, none⟩) Lw cw :: vm :: .int .i64 (k : Int) :: u24 :: u25 :: u26 :: u27 :: u28 :: u29 :: u30 :: u31 :: u32 :: u33 :: u34 :: u35 :: u36 :: u37 :: u38 :: u39 :: u40 :: u41 :: u42 :: u43 :: u44 :: u45 :: u46 :: u47 :: u48 :: u49 :: u50 :: u51 :: u52 :: u53 :: u54 :: u55 :: u56 :: u57 :: u58 :: u59 :: u60 :: u61 :: u62 :: u63 :: u64 :: u65 :: u66 :: u67 :: u68 :: u69 :: u70 :: u71 :: u72 :: u73 :: u74 :: u75 :: u76 :: u77 :: u78 :: u79 :: u80 :: u81 :: u82 :: u83 :: u84 :: u85 :: u86 :: u87 :: u88 :: u89 :: u90 :: u91 :: u92 :: u93 :: u94 :: u95 :: u96 :: u97 :: u98 :: u99 :: u100 :: u101 :: u102 :: u103 :: u104 :: u105 :: u106 :: u107 :: u108 :: u109 :: u110 :: u111 :: u112 :: u113 :: u114 :: u115 :: u116 :: u117 :: u118 :: u119 :: u120 :: u121 :: u122 :: u123 :: u124 :: u125 :: u126 :: u127 :: u128 :: u129 :: u130 :: u131 :: u132 :: u133 :: u134 :: u135 :: u136 :: u137 :: u138 :: u139 :: u140 :: u141 :: u142 :: u143 :: u144 :: u145 :: u146 :: u147 :: u148 :: u149 :: u150 :: u151 :: u152 :: u153 :: u154 :: u155 :: u156 :: u157 :: u158 :: u159 :: u160 :: u161 :: u162 :: u163 :: u164 :: u165 :: u166 :: u167 :: u168 :: u169 :: u170 :: u171 :: u172 :: u173 :: u174 :: u175 :: u176 :: u177 :: u178 :: u179 :: u180 :: u181 :: u182 :: u183 :: u184 :: u185 :: u186 :: u187 :: u188 :: u189 :: u190 :: u191 :: u192 :: u193 :: u194 :: u195 :: u196 :: u197 :: u198 :: u199 :: u200 :: u201 :: u202 :: u203 :: u204 :: u205 :: u206 :: u207 :: u208 :: u209 :: u210 :: u211 :: u212 :: u213 :: u214 :: u215 :: u216 :: u217 :: u218 :: u219 :: u220 :: u221 :: u222 :: u223 :: u224 :: u225 :: u226 :: u227 :: u228 :: [])), []⟩ w := by
  refine wp_mono (fo40s_in B gw Lw cw k y vm ys wt w0 hk hc hLc hkm hy hm hw _ _ _ _ _ _ _ _ _ _ _ _ _ _ _ _ _ _ _ _ _ _ _ _ _ _ _ _ _ _ _ _ _ _ _ _ _ _ _ _ _ _ _ _ _ _ _ _ _ _ _ _ _ _ _ _ _ _ _ _ _ _ _ _ _ _ _ _ _ _ _ _ _ _ _ _ _ _ _ _ _ _ _ _ _ _ _ _ _ _ _ _ _ _ _ _ _ _ _ _ _ _ _ _ _ _ _ _ _ _ _ _ _ _ _ _ _ _ _ _ _ _ _ _ _ _ _ _ _ _ _ _ _ _ _ _ _ _ _ _ _ _ _ _ _ _ _ _ _ _ _ _ _ _ _ _ _ _ _ _ _ _ _ _ _ _ _ _ _ _ _ _ _ _ _ _ _ _ _ _ _ _ _ _ _ _ _ _ _ _ _ _ _ _ _ _ _ _ _ _ _ _ _ _ _ _ _ _ _ _ _ _ _ _ _ _ _ _ _ _ _ _ _ _ _ _ w hG) ?_
  rintro e a w' h
  obtain ⟨y210, h⟩ := h
  obtain ⟨y211, h⟩ := h
  obtain ⟨y212, h⟩ := h
  obtain ⟨y213, h⟩ := h
  obtain ⟨y214, h⟩ := h
  obtain ⟨y215, h⟩ := h
  obtain ⟨y216, h⟩ := h
  obtain ⟨y217, h⟩ := h
  obtain ⟨y218, h⟩ := h
  obtain ⟨y219, h⟩ := h
  obtain ⟨y220, h⟩ := h
  obtain ⟨y221, h⟩ := h
  obtain ⟨y222, h⟩ := h
  obtain ⟨y223, h⟩ := h
  obtain ⟨y224, h⟩ := h
  obtain ⟨y225, h⟩ := h
  obtain ⟨y226, h⟩ := h
  obtain ⟨h, rfl, hq⟩ := h
  subst h
  exact hend y210 y211 y212 y213 y214 y215 y216 y217 y218 y219 y220 y221 y222 y223 y224 y225 y226 w' hq
def fo40e_A : List (List Nat) := ([] :: [] :: [] :: [1, 2] :: [3, 1, 2] :: [0, 4, 3, 1, 2] :: [5, 0, 4, 3, 1, 2] :: [6, 5, 0, 4, 3, 1, 2] :: (7 :: 6 :: 5 :: 0 :: 4 :: 3 :: 1 :: 2 :: []) :: (7 :: 6 :: 5 :: 0 :: 4 :: 3 :: 1 :: 2 :: []) :: (9 :: 7 :: 6 :: 5 :: 0 :: 4 :: 3 :: 1 :: 2 :: []) :: (8 :: 10 :: 7 :: 6 :: 5 :: 0 :: 4 :: 3 :: 1 :: 2 :: 9 :: []) :: (7 :: 6 :: 5 :: 0 :: 4 :: 3 :: 1 :: 2 :: []) :: (7 :: 6 :: 5 :: 0 :: 4 :: 3 :: 1 :: 2 :: []) :: (12 :: 13 :: 7 :: 6 :: 5 :: 0 :: 4 :: 3 :: 1 :: 2 :: []) :: (14 :: 7 :: 12 :: 13 :: 6 :: 5 :: 0 :: 4 :: 3 :: 1 :: 2 :: []) :: (11 :: 15 :: 7 :: 8 :: 10 :: 6 :: 5 :: 0 :: 4 :: 3 :: 1 :: 2 :: 9 :: 14 :: 12 :: 13 :: []) :: (7 :: 16 :: 6 :: 5 :: 0 :: 4 :: 3 :: 1 :: 2 :: 11 :: 15 :: 8 :: 10 :: 9 :: 14 :: 12 :: 13 :: []) :: [])
def fo40e_kill : List (List Nat) := ([] :: [] :: [] :: [] :: [] :: [] :: [] :: [] :: [] :: [] :: [] :: [] :: [] :: [] :: [] :: [] :: [] :: [] :: [])
def fo40e_uses : List (List Nat) := ([] :: [] :: [] :: [] :: [] :: [] :: [] :: [] :: [] :: [] :: [] :: [] :: [] :: [] :: [] :: [] :: [] :: [] :: [])
noncomputable def fo40e_code : Code := ((Try.f4.body.bind (codeRegion 40)).getD .skip)
set_option maxRecDepth 100000 in
set_option maxHeartbeats 4000000 in
theorem fo40e_in (B gw Lw k y : Nat) (vm : Value) (ys wt : List Nat) (w0 : World) (hk : k < Lw) (hc : True) (hLc : Lw ≤ k + 1) (hkm : k < 1000) (hy : wt[k]? = some y)
    (hm : ∀ w, Rd .u32 w vm (nats ys) → Calls Try.prog 18 #[vm, .int .u32 (y : Int)] w fun e w' => e = .returned (.bool true) ∧ w = w')
    (hw : ∀ w v, Rd .u32 w v (nats (wt.drop (k + 1))) → Calls Try.prog 18 #[v, .int .u32 (y : Int)] w fun e w' => e = .returned (.bool false) ∧ w = w')  (u0 u1 u2 u3 u4 u5 u6 u7 u8 u9 u10 u11 u12 u13 u14 u15 u16 u17 u18 u19 u20 u24 u25 u26 u27 u28 u29 u30 u31 u32 u33 u34 u35 u36 u37 u38 u39 u40 u41 u42 u43 u44 u45 u46 u47 u48 u49 u50 u51 u52 u53 u54 u55 u56 u57 u58 u59 u60 u61 u62 u63 u64 u65 u66 u67 u68 u69 u70 u71 u72 u73 u74 u75 u76 u77 u78 u79 u80 u81 u82 u83 u84 u85 u86 u87 u88 u89 u90 u91 u92 u93 u94 u95 u96 u97 u98 u99 u100 u101 u102 u103 u104 u105 u106 u107 u108 u109 u110 u111 u112 u113 u114 u115 u116 u117 u118 u119 u120 u121 u122 u123 u124 u125 u126 u127 u128 u129 u130 u131 u132 u133 u134 u135 u136 u137 u138 u139 u140 u141 u142 u143 u144 u145 u146 u147 u148 u149 u150 u151 u152 u153 u154 u155 u156 u157 u158 u159 u160 u161 u162 u163 u164 u165 u166 u167 u168 u169 u170 u171 u172 u173 u174 u175 u176 u177 u178 u179 u180 u181 u182 u183 u184 u185 u186 u187 u188 u189 u190 u191 u192 u193 u194 u195 u196 u197 u198 u199 u200 u201 u202 u203 u204 u205 u206 u207 u208 u209 u210 u211 u212 u213 u214 u215 u216 u217 u218 u219 u220 u221 u222 u223 u224 u225 u226 u227 u228 : Value) (w : World) (hG : Fq B gw Lw (k + 1) vm ys wt w0 w) :
    Code.wp Try.prog fo40e_code (fun e a w' => ∃ y210 y211 y212 y213 y214 y215 y216 y217 y218 y219 y220 y221 y222 y223 y224 y225 y226 : Value, a = ⟨(List.toArray (u0 :: u1 :: u2 :: u3 :: u4 :: u5 :: u6 :: u7 :: u8 :: u9 :: u10 :: u11 :: u12 :: u13 :: u14 :: u15 :: u16 :: u17 :: u18 :: u19 :: u20 :: .slice (some ⟨gw, 0, none⟩) Lw (k + 1) :: vm :: .int .i64 (k : Int) :: u24 :: u25 :: u26 :: u27 :: u28 :: u29 :: u30 :: u31 :: u32 :: u33 :: u34 :: u35 :: u36 :: u37 :: u38 :: u39 :: u40 :: u41 :: u42 :: u43 :: u44 :: u45 :: u46 :: u47 :: u48 :: u49 :: u50 :: u51 :: u52 :: u53 :: u54 :: u55 :: u56 :: u57 :: u58 :: u59 :: u60 :: u61 :: u62 :: u63 :: u64 :: u65 :: u66 :: u67 :: u68 :: u69 :: u70 :: u71 :: u72 :: u73 :: u74 :: u75 :: u76 :: u77 :: u78 :: u79 :: u80 :: u81 :: u82 :: u83 :: u84 :: u85 :: u86 :: u87 :: u88 :: u89 :: u90 :: u91 :: u92 :: u93 :: u94 :: u95 :: u96 :: u97 :: u98 :: u99 :: u100 :: u101 :: u102 :: u103 :: u104 :: u105 :: u106 :: u107 :: u108 :: u109 :: u110 :: u111 :: u112 :: u113 :: u114 :: u115 :: u116 :: u117 :: u118 :: u119 :: u120 :: u121 :: u122 :: u123 :: u124 :: u125 :: u126 :: u127 :: u128 :: u129 :: u130 :: u131 :: u132 :: u133 :: u134 :: u135 :: u136 :: u137 :: u138 :: u139 :: u140 :: u141 :: u142 :: u143 :: u144 :: u145 :: u146 :: u147 :: u148 :: u149 :: u150 :: u151 :: u152 :: u153 :: u154 :: u155 :: u156 :: u157 :: u158 :: u159 :: u160 :: u161 :: u162 :: u163 :: u164 :: u165 :: u166 :: u167 :: u168 :: u169 :: u170 :: u171 :: u172 :: u173 :: u174 :: u175 :: u176 :: u177 :: u178 :: u179 :: u180 :: u181 :: u182 :: u183 :: u184 :: u185 :: u186 :: u187 :: u188 :: u189 :: u190 :: u191 :: u192 :: u193 :: u194 :: u195 :: u196 :: u197 :: u198 :: u199 :: u200 :: u201 :: u202 :: u203 :: u204 :: u205 :: u206 :: u207 :: u208 :: u209 :: y210 :: y211 :: y212 :: y213 :: y214 :: y215 :: y216 :: y217 :: y218 :: y219 :: y220 :: y221 :: y222 :: y223 :: y224 :: y225 :: y226 :: (.bool false) :: u228 :: [])), []⟩ ∧ e = .normal ∧ (Only (fun _ => False) w0 w')) ⟨(List.toArray (u0 :: u1 :: u2 :: u3 :: u4 :: u5 :: u6 :: u7 :: u8 :: u9 :: u10 :: u11 :: u12 :: u13 :: u14 :: u15 :: u16 :: u17 :: u18 :: u19 :: u20 :: .slice (some ⟨gw, 0, none⟩) Lw (k + 1) :: vm :: .int .i64 (k : Int) :: u24 :: u25 :: u26 :: u27 :: u28 :: u29 :: u30 :: u31 :: u32 :: u33 :: u34 :: u35 :: u36 :: u37 :: u38 :: u39 :: u40 :: u41 :: u42 :: u43 :: u44 :: u45 :: u46 :: u47 :: u48 :: u49 :: u50 :: u51 :: u52 :: u53 :: u54 :: u55 :: u56 :: u57 :: u58 :: u59 :: u60 :: u61 :: u62 :: u63 :: u64 :: u65 :: u66 :: u67 :: u68 :: u69 :: u70 :: u71 :: u72 :: u73 :: u74 :: u75 :: u76 :: u77 :: u78 :: u79 :: u80 :: u81 :: u82 :: u83 :: u84 :: u85 :: u86 :: u87 :: u88 :: u89 :: u90 :: u91 :: u92 :: u93 :: u94 :: u95 :: u96 :: u97 :: u98 :: u99 :: u100 :: u101 :: u102 :: u103 :: u104 :: u105 :: u106 :: u107 :: u108 :: u109 :: u110 :: u111 :: u112 :: u113 :: u114 :: u115 :: u116 :: u117 :: u118 :: u119 :: u120 :: u121 :: u122 :: u123 :: u124 :: u125 :: u126 :: u127 :: u128 :: u129 :: u130 :: u131 :: u132 :: u133 :: u134 :: u135 :: u136 :: u137 :: u138 :: u139 :: u140 :: u141 :: u142 :: u143 :: u144 :: u145 :: u146 :: u147 :: u148 :: u149 :: u150 :: u151 :: u152 :: u153 :: u154 :: u155 :: u156 :: u157 :: u158 :: u159 :: u160 :: u161 :: u162 :: u163 :: u164 :: u165 :: u166 :: u167 :: u168 :: u169 :: u170 :: u171 :: u172 :: u173 :: u174 :: u175 :: u176 :: u177 :: u178 :: u179 :: u180 :: u181 :: u182 :: u183 :: u184 :: u185 :: u186 :: u187 :: u188 :: u189 :: u190 :: u191 :: u192 :: u193 :: u194 :: u195 :: u196 :: u197 :: u198 :: u199 :: u200 :: u201 :: u202 :: u203 :: u204 :: u205 :: u206 :: u207 :: u208 :: u209 :: u210 :: u211 :: u212 :: u213 :: u214 :: u215 :: u216 :: u217 :: u218 :: u219 :: u220 :: u221 :: u222 :: u223 :: u224 :: u225 :: u226 :: u227 :: u228 :: [])), []⟩ w := by
  conv => arg 2; whnf
  have Hm := Lib.hid hm
  have Hw := Lib.hid hw
  have hy := Lib.hid hy
  clear hm hw
  have eW : IntKind.i64.wrap ((k : Int) + 1) = ((k + 1 : Nat) : Int) := by rw [IntKind.wrap_i64]; omega
  have hkI : (k : Int) < (Lw : Int) := by omega
  have hk1 : k + 1 ≤ Lw := hk
  have hk0 : (0 : Int) ≤ (k : Int) + 1 := by omega
  have hk2 : (k : Int) + 1 ≤ (Lw : Int) := by omega
  refine wp_region_posts fo40e_A [] [] fo40e_kill fo40e_uses [] [] [] []
      (some ?v0 :: some ?v1 :: some ?v2 :: some ?v3 :: some ?v4 :: some ((.bool true)) :: some ?v6 :: some ?v7 :: some ?v8 :: some ?v9 :: some ?v10 :: some ?v11 :: some ?v12 :: some ?v13 :: some ?v14 :: some ?v15 :: some ((.bool false)) :: some ?v17 :: [])
      ?T (fun wx => Fq B gw Lw (k + 1) vm ys wt w0 wx) ?W ?E (by kernel_rfl) (by kernel_rfl) (by kernel_rfl) (fun x => ?hT) ?hF ?hini (Reg.all_ops ?runs) ?pres ?fin
  case W => exact fun j x w' => True
  case E => exact fun i wx wy => Only (fun _ => False) wx wy
  case hT =>
    simp only [Reg.fillV, Act.put, List.setIfInBounds_toArray, List.set_cons_zero, List.set_cons_succ]
    rfl
  case runs =>
    refine And.intro ?_ ?_
    · refine Reg.ob_pure (fun _ => rfl) rfl rfl rfl rfl (fun x w1 hF => ?_)
      have r1 : w1.cell? ⟨gw, k, none⟩ = some (.int .u32 (y : Int)) := own32_cell hF.w hy.out
      go_simp
      with_reducible rfl
    refine And.intro ?_ ?_
    · refine Reg.ob_pure (fun _ => rfl) rfl rfl rfl rfl (fun x w1 hF => ?_)
      have r1 : w1.cell? ⟨gw, k, none⟩ = some (.int .u32 (y : Int)) := own32_cell hF.w hy.out
      go_simp
      with_reducible rfl
    refine And.intro ?_ ?_
    · refine Reg.ob_pure (fun _ => rfl) rfl rfl rfl rfl (fun x w1 hF => ?_)
      have r1 : w1.cell? ⟨gw, k, none⟩ = some (.int .u32 (y : Int)) := own32_cell hF.w hy.out
      go_simp
      with_reducible rfl
    refine And.intro ?_ ?_
    · refine Reg.ob_pure (fun _ => rfl) rfl rfl rfl rfl (fun x w1 hF => ?_)
      have r1 : w1.cell? ⟨gw, k, none⟩ = some (.int .u32 (y : Int)) := own32_cell hF.w hy.out
      go_simp
      with_reducible rfl
    refine And.intro ?_ ?_
    · refine Reg.ob_pure (fun _ => rfl) rfl rfl rfl rfl (fun x w1 hF => ?_)
      have r1 : w1.cell? ⟨gw, k, none⟩ = some (.int .u32 (y : Int)) := own32_cell hF.w hy.out
      go_simp
      with_reducible rfl
    refine And.intro ?_ ?_
    · refine Reg.ob_known (fun _ => rfl) rfl rfl (fun x w1 hF hU K hK => ?_)
      replace hF := hF rfl
      go_simp
      refine (Hm.out w1 hF.m).mono ?_
      rintro e w5 ⟨rfl, rfl⟩
      exact hK _ (fun _ _ _ => hF) rfl
    refine And.intro ?_ ?_
    · refine Reg.ob_pure (fun _ => rfl) rfl rfl rfl rfl (fun x w1 hF => ?_)
      have r1 : w1.cell? ⟨gw, k, none⟩ = some (.int .u32 (y : Int)) := own32_cell hF.w hy.out
      go_simp
      with_reducible rfl
    refine And.intro ?_ ?_
    · refine Reg.ob_pure (fun _ => rfl) rfl rfl rfl rfl (fun x w1 hF => ?_)
      have r1 : w1.cell? ⟨gw, k, none⟩ = some (.int .u32 (y : Int)) := own32_cell hF.w hy.out
      go_simp
      with_reducible rfl
    refine And.intro ?_ ?_
    · refine Reg.ob_pure (fun _ => rfl) rfl rfl rfl rfl (fun x w1 hF => ?_)
      have r1 : w1.cell? ⟨gw, k, none⟩ = some (.int .u32 (y : Int)) := own32_cell hF.w hy.out
      go_simp
      with_reducible rfl
    refine And.intro ?_ ?_
    · refine Reg.ob_pure (fun _ => rfl) rfl rfl rfl rfl (fun x w1 hF => ?_)
      have r1 : w1.cell? ⟨gw, k, none⟩ = some (.int .u32 (y : Int)) := own32_cell hF.w hy.out
      go_simp
      with_reducible rfl
    refine And.intro ?_ ?_
    · refine Reg.ob_pure (fun _ => rfl) rfl rfl rfl rfl (fun x w1 hF => ?_)
      have r1 : w1.cell? ⟨gw, k, none⟩ = some (.int .u32 (y : Int)) := own32_cell hF.w hy.out
      go_simp
      with_reducible rfl
    refine And.intro ?_ ?_
    · refine Reg.ob_pure (fun _ => rfl) rfl rfl rfl rfl (fun x w1 hF => ?_)
      have r1 : w1.cell? ⟨gw, k, none⟩ = some (.int .u32 (y : Int)) := own32_cell hF.w hy.out
      go_simp
      with_reducible rfl
    refine And.intro ?_ ?_
    · refine Reg.ob_pure (fun _ => rfl) rfl rfl rfl rfl (fun x w1 hF => ?_)
      have r1 : w1.cell? ⟨gw, k, none⟩ = some (.int .u32 (y : Int)) := own32_cell hF.w hy.out
      go_simp
      with_reducible rfl
    refine And.intro ?_ ?_
    · refine Reg.ob_pure (fun _ => rfl) rfl rfl rfl rfl (fun x w1 hF => ?_)
      have r1 : w1.cell? ⟨gw, k, none⟩ = some (.int .u32 (y : Int)) := own32_cell hF.w hy.out
      go_simp
      with_reducible rfl
    refine And.intro ?_ ?_
    · refine Reg.ob_pure (fun _ => rfl) rfl rfl rfl rfl (fun x w1 hF => ?_)
      have r1 : w1.cell? ⟨gw, k, none⟩ = some (.int .u32 (y : Int)) := own32_cell hF.w hy.out
      go_simp
      with_reducible rfl
    refine And.intro ?_ ?_
    · refine Reg.ob_pure (fun _ => rfl) rfl rfl rfl rfl (fun x w1 hF => ?_)
      have r1 : w1.cell? ⟨gw, k, none⟩ = some (.int .u32 (y : Int)) := own32_cell hF.w hy.out
      go_simp
      with_reducible rfl
    refine And.intro ?_ ?_
    · refine Reg.ob_known (fun _ => rfl) rfl rfl (fun x w1 hF hU K hK => ?_)
      replace hF := hF rfl
      go_simp
      refine (Hw.out w1 _ (by have h9 := hF.drop k 0 0 hk1 (by omega) (fun h => by omega); rw [show Lw - (k + 1) = 0 by omega] at h9; exact h9)).mono ?_
      rintro e w5 ⟨rfl, rfl⟩
      exact hK _ (fun _ _ _ => hF) rfl
    refine And.intro ?_ ?_
    · refine Reg.ob_pure (fun _ => rfl) rfl rfl rfl rfl (fun x w1 hF => ?_)
      have r1 : w1.cell? ⟨gw, k, none⟩ = some (.int .u32 (y : Int)) := own32_cell hF.w hy.out
      go_simp
      with_reducible rfl
    exact trivial
  case hF =>
    exact hG.go ((Only.refl _ _).drewN 1)
  case hini =>
    exact trivial
  case pres =>
    intro i hi
    simp at hi
  case fin =>
    rintro x w9 hF hU
    repeat apply Exists.intro
    exact ⟨rfl, rfl, (hF rfl).pure⟩

set_option maxRecDepth 100000 in
set_option maxHeartbeats 4000000 in
theorem fo40e (B gw Lw k y : Nat) (vm : Value) (ys wt : List Nat) (w0 : World) (hk : k < Lw) (hc : True) (hLc : Lw ≤ k + 1) (hkm : k < 1000) (hy : wt[k]? = some y)
    (hm : ∀ w, Rd .u32 w vm (nats ys) → Calls Try.prog 18 #[vm, .int .u32 (y : Int)] w fun e w' => e = .returned (.bool true) ∧ w = w')
    (hw : ∀ w v, Rd .u32 w v (nats (wt.drop (k + 1))) → Calls Try.prog 18 #[v, .int .u32 (y : Int)] w fun e w' => e = .returned (.bool false) ∧ w = w')  (u0 u1 u2 u3 u4 u5 u6 u7 u8 u9 u10 u11 u12 u13 u14 u15 u16 u17 u18 u19 u20 u24 u25 u26 u27 u28 u29 u30 u31 u32 u33 u34 u35 u36 u37 u38 u39 u40 u41 u42 u43 u44 u45 u46 u47 u48 u49 u50 u51 u52 u53 u54 u55 u56 u57 u58 u59 u60 u61 u62 u63 u64 u65 u66 u67 u68 u69 u70 u71 u72 u73 u74 u75 u76 u77 u78 u79 u80 u81 u82 u83 u84 u85 u86 u87 u88 u89 u90 u91 u92 u93 u94 u95 u96 u97 u98 u99 u100 u101 u102 u103 u104 u105 u106 u107 u108 u109 u110 u111 u112 u113 u114 u115 u116 u117 u118 u119 u120 u121 u122 u123 u124 u125 u126 u127 u128 u129 u130 u131 u132 u133 u134 u135 u136 u137 u138 u139 u140 u141 u142 u143 u144 u145 u146 u147 u148 u149 u150 u151 u152 u153 u154 u155 u156 u157 u158 u159 u160 u161 u162 u163 u164 u165 u166 u167 u168 u169 u170 u171 u172 u173 u174 u175 u176 u177 u178 u179 u180 u181 u182 u183 u184 u185 u186 u187 u188 u189 u190 u191 u192 u193 u194 u195 u196 u197 u198 u199 u200 u201 u202 u203 u204 u205 u206 u207 u208 u209 u210 u211 u212 u213 u214 u215 u216 u217 u218 u219 u220 u221 u222 u223 u224 u225 u226 u227 u228 : Value) (Q : Exit → Act → World → Prop) (w : World) (hG : Fq B gw Lw (k + 1) vm ys wt w0 w)
    (hend : ∀ (y210 y211 y212 y213 y214 y215 y216 y217 y218 y219 y220 y221 y222 y223 y224 y225 y226 : Value) (w' : World), (Only (fun _ => False) w0 w') → Q .normal ⟨(List.toArray (u0 :: u1 :: u2 :: u3 :: u4 :: u5 :: u6 :: u7 :: u8 :: u9 :: u10 :: u11 :: u12 :: u13 :: u14 :: u15 :: u16 :: u17 :: u18 :: u19 :: u20 :: .slice (some ⟨gw, 0, none⟩) Lw (k + 1) :: vm :: .int .i64 (k : Int) :: u24 :: u25 :: u26 :: u27 :: u28 :: u29 :: u30 :: u31 :: u32 :: u33 :: u34 :: u35 :: u36 :: u37 :: u38 :: u39 :: u40 :: u41 :: u42 :: u43 :: u44 :: u45 :: u46 :: u47 :: u48 :: u49 :: u50 :: u51 :: u52 :: u53 :: u54 :: u55 :: u56 :: u57 :: u58 :: u59 :: u60 :: u61 :: u62 :: u63 :: u64 :: u65 :: u66 :: u67 :: u68 :: u69 :: u70 :: u71 :: u72 :: u73 :: u74 :: u75 :: u76 :: u77 :: u78 :: u79 :: u80 :: u81 :: u82 :: u83 :: u84 :: u85 :: u86 :: u87 :: u88 :: u89 :: u90 :: u91 :: u92 :: u93 :: u94 :: u95 :: u96 :: u97 :: u98 :: u99 :: u100 :: u101 :: u102 :: u103 :: u104 :: u105 :: u106 :: u107 :: u108 :: u109 :: u110 :: u111 :: u112 :: u113 :: u114 :: u115 :: u116 :: u117 :: u118 :: u119 :: u120 :: u121 :: u122 :: u123 :: u124 :: u125 :: u126 :: u127 :: u128 :: u129 :: u130 :: u131 :: u132 :: u133 :: u134 :: u135 :: u136 :: u137 :: u138 :: u139 :: u140 :: u141 :: u142 :: u143 :: u144 :: u145 :: u146 :: u147 :: u148 :: u149 :: u150 :: u151 :: u152 :: u153 :: u154 :: u155 :: u156 :: u157 :: u158 :: u159 :: u160 :: u161 :: u162 :: u163 :: u164 :: u165 :: u166 :: u167 :: u168 :: u169 :: u170 :: u171 :: u172 :: u173 :: u174 :: u175 :: u176 :: u177 :: u178 :: u179 :: u180 :: u181 :: u182 :: u183 :: u184 :: u185 :: u186 :: u187 :: u188 :: u189 :: u190 :: u191 :: u192 :: u193 :: u194 :: u195 :: u196 :: u197 :: u198 :: u199 :: u200 :: u201 :: u202 :: u203 :: u204 :: u205 :: u206 :: u207 :: u208 :: u209 :: y210 :: y211 :: y212 :: y213 :: y214 :: y215 :: y216 :: y217 :: y218 :: y219 :: y220 :: y221 :: y222 :: y223 :: y224 :: y225 :: y226 :: (.bool false) :: u228 :: [])), []⟩ w') :
    Code.wp Try.prog fo40e_code Q ⟨(List.toArray (u0 :: u1 :: u2 :: u3 :: u4 :: u5 :: u6 :: u7 :: u8 :: u9 :: u10 :: u11 :: u12 :: u13 :: u14 :: u15 :: u16 :: u17 :: u18 :: u19 :: u20 :: .slice (some ⟨gw, 0, none⟩) Lw (k + 1) :: vm :: .int .i64 (k : Int) :: u24 :: u25 :: u26 :: u27 :: u28 :: u29 :: u30 :: u31 :: u32 :: u33 :: u34 :: u35 :: u36 :: u37 :: u38 :: u39 :: u40 :: u41 :: u42 :: u43 :: u44 :: u45 :: u46 :: u47 :: u48 :: u49 :: u50 :: u51 :: u52 :: u53 :: u54 :: u55 :: u56 :: u57 :: u58 :: u59 :: u60 :: u61 :: u62 :: u63 :: u64 :: u65 :: u66 :: u67 :: u68 :: u69 :: u70 :: u71 :: u72 :: u73 :: u74 :: u75 :: u76 :: u77 :: u78 :: u79 :: u80 :: u81 :: u82 :: u83 :: u84 :: u85 :: u86 :: u87 :: u88 :: u89 :: u90 :: u91 :: u92 :: u93 :: u94 :: u95 :: u96 :: u97 :: u98 :: u99 :: u100 :: u101 :: u102 :: u103 :: u104 :: u105 :: u106 :: u107 :: u108 :: u109 :: u110 :: u111 :: u112 :: u113 :: u114 :: u115 :: u116 :: u117 :: u118 :: u119 :: u120 :: u121 :: u122 :: u123 :: u124 :: u125 :: u126 :: u127 :: u128 :: u129 :: u130 :: u131 :: u132 :: u133 :: u134 :: u135 :: u136 :: u137 :: u138 :: u139 :: u140 :: u141 :: u142 :: u143 :: u144 :: u145 :: u146 :: u147 :: u148 :: u149 :: u150 :: u151 :: u152 :: u153 :: u154 :: u155 :: u156 :: u157 :: u158 :: u159 :: u160 :: u161 :: u162 :: u163 :: u164 :: u165 :: u166 :: u167 :: u168 :: u169 :: u170 :: u171 :: u172 :: u173 :: u174 :: u175 :: u176 :: u177 :: u178 :: u179 :: u180 :: u181 :: u182 :: u183 :: u184 :: u185 :: u186 :: u187 :: u188 :: u189 :: u190 :: u191 :: u192 :: u193 :: u194 :: u195 :: u196 :: u197 :: u198 :: u199 :: u200 :: u201 :: u202 :: u203 :: u204 :: u205 :: u206 :: u207 :: u208 :: u209 :: u210 :: u211 :: u212 :: u213 :: u214 :: u215 :: u216 :: u217 :: u218 :: u219 :: u220 :: u221 :: u222 :: u223 :: u224 :: u225 :: u226 :: u227 :: u228 :: [])), []⟩ w := by
  refine wp_mono (fo40e_in B gw Lw k y vm ys wt w0 hk hc hLc hkm hy hm hw _ _ _ _ _ _ _ _ _ _ _ _ _ _ _ _ _ _ _ _ _ _ _ _ _ _ _ _ _ _ _ _ _ _ _ _ _ _ _ _ _ _ _ _ _ _ _ _ _ _ _ _ _ _ _ _ _ _ _ _ _ _ _ _ _ _ _ _ _ _ _ _ _ _ _ _ _ _ _ _ _ _ _ _ _ _ _ _ _ _ _ _ _ _ _ _ _ _ _ _ _ _ _ _ _ _ _ _ _ _ _ _ _ _ _ _ _ _ _ _ _ _ _ _ _ _ _ _ _ _ _ _ _ _ _ _ _ _ _ _ _ _ _ _ _ _ _ _ _ _ _ _ _ _ _ _ _ _ _ _ _ _ _ _ _ _ _ _ _ _ _ _ _ _ _ _ _ _ _ _ _ _ _ _ _ _ _ _ _ _ _ _ _ _ _ _ _ _ _ _ _ _ _ _ _ _ _ _ _ _ _ _ _ _ _ _ _ _ _ _ _ _ _ _ _ _ w hG) ?_
  rintro e a w' h
  obtain ⟨y210, h⟩ := h
  obtain ⟨y211, h⟩ := h
  obtain ⟨y212, h⟩ := h
  obtain ⟨y213, h⟩ := h
  obtain ⟨y214, h⟩ := h
  obtain ⟨y215, h⟩ := h
  obtain ⟨y216, h⟩ := h
  obtain ⟨y217, h⟩ := h
  obtain ⟨y218, h⟩ := h
  obtain ⟨y219, h⟩ := h
  obtain ⟨y220, h⟩ := h
  obtain ⟨y221, h⟩ := h
  obtain ⟨y222, h⟩ := h
  obtain ⟨y223, h⟩ := h
  obtain ⟨y224, h⟩ := h
  obtain ⟨y225, h⟩ := h
  obtain ⟨y226, h⟩ := h
  obtain ⟨h, rfl, hq⟩ := h
  subst h
  exact hend y210 y211 y212 y213 y214 y215 y216 y217 y218 y219 y220 y221 y222 y223 y224 y225 y226 w' hq
end Go.Proofs.Ytelfeedaadkhnaa
