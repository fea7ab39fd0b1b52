/- floor: the regions of FloorOrder that draw their order: a grant; one who left. Conditions: as each says. -/
import Derived.Test.YtelfeedaadkhnaaFoC
set_option linter.unusedVariables false
set_option linter.unusedSimpArgs false
namespace Go.Proofs.Ytelfeedaadkhnaa
open Go Go.RowKit

/-- The first who asked, and a grant. -/
structure Fg (ga oa gb G who at_ : Nat) (w0 wx : World) : Prop where
  a : wx.cell? ⟨ga, oa, none⟩ = some (.int .u32 (who : Int))
  g0 : wx.cell? ⟨gb, G * 3, none⟩ = some (.int .u64 ((G : Int) + 1))
  g1 : wx.cell? ⟨gb, G * 3 + 1, none⟩ = some (.int .u32 (who : Int))
  g2 : wx.cell? ⟨gb, G * 3 + 2, none⟩ = some (.int .u64 (at_ : Int))
  pure : Only (fun _ => False) w0 wx
/-- One who asked, and a call's who. -/
structure Fz (ga oa a0 k x y : Nat) (w0 wx : World) : Prop where
  a : wx.cell? ⟨ga, oa + k, none⟩ = some (.int .u32 (x : Int))
  c : wx.cell? ⟨a0, 1, none⟩ = some (.int .u32 (y : Int))
  pure : Only (fun _ => False) w0 wx
def fo29_A : List (List Nat) := ([] :: [0] :: [1, 0] :: [2, 1, 0] :: [3, 2, 1, 0] :: [4, 3, 2, 1, 0] :: [5, 3, 4, 2, 1, 0] :: [3, 2, 1, 0] :: [3, 2, 1, 0] :: [7, 8, 3, 2, 1, 0] :: [9, 3, 7, 8, 2, 1, 0] :: (10 :: 3 :: 9 :: 7 :: 8 :: 2 :: 1 :: 0 :: []) :: (6 :: 11 :: 3 :: 5 :: 4 :: 2 :: 1 :: 0 :: 10 :: 9 :: 7 :: 8 :: []) :: (3 :: 12 :: 2 :: 1 :: 0 :: 6 :: 11 :: 5 :: 4 :: 10 :: 9 :: 7 :: 8 :: []) :: (13 :: 3 :: 12 :: 2 :: 1 :: 0 :: 6 :: 11 :: 5 :: 4 :: 10 :: 9 :: 7 :: 8 :: []) :: (14 :: 13 :: 3 :: 12 :: 2 :: 1 :: 0 :: 6 :: 11 :: 5 :: 4 :: 10 :: 9 :: 7 :: 8 :: []) :: (14 :: 13 :: 3 :: 12 :: 2 :: 1 :: 0 :: 6 :: 11 :: 5 :: 4 :: 10 :: 9 :: 7 :: 8 :: []) :: (15 :: 16 :: 14 :: 13 :: 3 :: 12 :: 2 :: 1 :: 0 :: 6 :: 11 :: 5 :: 4 :: 10 :: 9 :: 7 :: 8 :: []) :: (17 :: 14 :: 15 :: 16 :: 13 :: 3 :: 12 :: 2 :: 1 :: 0 :: 6 :: 11 :: 5 :: 4 :: 10 :: 9 :: 7 :: 8 :: []) :: (18 :: 14 :: 17 :: 15 :: 16 :: 13 :: 3 :: 12 :: 2 :: 1 :: 0 :: 6 :: 11 :: 5 :: 4 :: 10 :: 9 :: 7 :: 8 :: []) :: (14 :: 13 :: 3 :: 12 :: 2 :: 1 :: 0 :: 6 :: 11 :: 5 :: 4 :: 10 :: 9 :: 7 :: 8 :: []) :: (20 :: 14 :: 13 :: 3 :: 12 :: 2 :: 1 :: 0 :: 6 :: 11 :: 5 :: 4 :: 10 :: 9 :: 7 :: 8 :: []) :: (21 :: 14 :: 20 :: 13 :: 3 :: 12 :: 2 :: 1 :: 0 :: 6 :: 11 :: 5 :: 4 :: 10 :: 9 :: 7 :: 8 :: []) :: (19 :: 22 :: 14 :: 18 :: 17 :: 15 :: 16 :: 13 :: 3 :: 12 :: 2 :: 1 :: 0 :: 6 :: 11 :: 5 :: 4 :: 10 :: 9 :: 7 :: 8 :: 21 :: 20 :: []) :: (14 :: 23 :: 13 :: 3 :: 12 :: 2 :: 1 :: 0 :: 6 :: 11 :: 5 :: 4 :: 10 :: 9 :: 7 :: 8 :: 19 :: 22 :: 18 :: 17 :: 15 :: 16 :: 21 :: 20 :: []) :: (24 :: 14 :: 23 :: 13 :: 3 :: 12 :: 2 :: 1 :: 0 :: 6 :: 11 :: 5 :: 4 :: 10 :: 9 :: 7 :: 8 :: 19 :: 22 :: 18 :: 17 :: 15 :: 16 :: 21 :: 20 :: []) :: (25 :: 24 :: 14 :: 23 :: 13 :: 3 :: 12 :: 2 :: 1 :: 0 :: 6 :: 11 :: 5 :: 4 :: 10 :: 9 :: 7 :: 8 :: 19 :: 22 :: 18 :: 17 :: 15 :: 16 :: 21 :: 20 :: []) :: (25 :: 24 :: 14 :: 23 :: 13 :: 3 :: 12 :: 2 :: 1 :: 0 :: 6 :: 11 :: 5 :: 4 :: 10 :: 9 :: 7 :: 8 :: 19 :: 22 :: 18 :: 17 :: 15 :: 16 :: 21 :: 20 :: []) :: (26 :: 27 :: 25 :: 24 :: 14 :: 23 :: 13 :: 3 :: 12 :: 2 :: 1 :: 0 :: 6 :: 11 :: 5 :: 4 :: 10 :: 9 :: 7 :: 8 :: 19 :: 22 :: 18 :: 17 :: 15 :: 16 :: 21 :: 20 :: []) :: (28 :: 25 :: 26 :: 27 :: 24 :: 14 :: 23 :: 13 :: 3 :: 12 :: 2 :: 1 :: 0 :: 6 :: 11 :: 5 :: 4 :: 10 :: 9 :: 7 :: 8 :: 19 :: 22 :: 18 :: 17 :: 15 :: 16 :: 21 :: 20 :: []) :: (29 :: 25 :: 28 :: 26 :: 27 :: 24 :: 14 :: 23 :: 13 :: 3 :: 12 :: 2 :: 1 :: 0 :: 6 :: 11 :: 5 :: 4 :: 10 :: 9 :: 7 :: 8 :: 19 :: 22 :: 18 :: 17 :: 15 :: 16 :: 21 :: 20 :: []) :: (25 :: 24 :: 14 :: 23 :: 13 :: 3 :: 12 :: 2 :: 1 :: 0 :: 6 :: 11 :: 5 :: 4 :: 10 :: 9 :: 7 :: 8 :: 19 :: 22 :: 18 :: 17 :: 15 :: 16 :: 21 :: 20 :: []) :: (30 :: 31 :: 25 :: 29 :: 28 :: 26 :: 27 :: 24 :: 14 :: 23 :: 13 :: 3 :: 12 :: 2 :: 1 :: 0 :: 6 :: 11 :: 5 :: 4 :: 10 :: 9 :: 7 :: 8 :: 19 :: 22 :: 18 :: 17 :: 15 :: 16 :: 21 :: 20 :: []) :: (25 :: 32 :: 24 :: 14 :: 23 :: 13 :: 3 :: 12 :: 2 :: 1 :: 0 :: 6 :: 11 :: 5 :: 4 :: 10 :: 9 :: 7 :: 8 :: 19 :: 22 :: 18 :: 17 :: 15 :: 16 :: 21 :: 20 :: 30 :: 31 :: 29 :: 28 :: 26 :: 27 :: []) :: [])
def fo29_kill : List (List Nat) := ([] :: [] :: [] :: [] :: [] :: [] :: [] :: [] :: [] :: [] :: [] :: [] :: [] :: [] :: [] :: [] :: [] :: [] :: [] :: [] :: [] :: [] :: [] :: [] :: [] :: [] :: [] :: [] :: [] :: [] :: [] :: [] :: [] :: [] :: [])
def fo29_uses : List (List Nat) := ([] :: [] :: [] :: [] :: [] :: [] :: [] :: [] :: [] :: [] :: [] :: [] :: [] :: [] :: [] :: [] :: [] :: [] :: [] :: [] :: [] :: [] :: [] :: [] :: [] :: [] :: [] :: [] :: [] :: [] :: [] :: [] :: [] :: [] :: [])
noncomputable def fo29_code : Code := ((Try.f4.body.bind (codeRegion 29)).getD .skip)
set_option maxRecDepth 100000 in
set_option maxHeartbeats 4000000 in
theorem fo29_in (ga oa gb G n ca L cl who at_ now : Nat) (w0 : World) (h0 : 0 < n) (hG9 : G < L) (e0 : ((n : Int) == 0) = false) (hn : ¬ now < at_) (hL : L ≤ 10000)  (u0 u1 u2 u3 u4 u5 u6 u7 u8 u12 u13 u14 u15 u16 u17 u19 u20 u21 u22 u23 u24 u25 u26 u27 u28 u29 u30 u31 u32 u33 u34 u35 u36 u37 u38 u39 u40 u41 u42 u43 u44 u45 u46 u47 u48 u49 u50 u51 u52 u53 u54 u55 u56 u57 u58 u59 u60 u61 u62 u63 u64 u65 u66 u67 u68 u69 u70 u71 u72 u73 u74 u75 u76 u77 u78 u79 u80 u81 u82 u83 u84 u85 u86 u87 u88 u89 u90 u91 u92 u93 u94 u95 u96 u97 u98 u99 u100 u101 u102 u103 u104 u105 u106 u107 u108 u109 u110 u111 u112 u113 u114 u115 u116 u117 u118 u119 u120 u121 u122 u123 u124 u125 u126 u127 u128 u129 u130 u131 u132 u133 u134 u135 u136 u137 u138 u139 u140 u141 u142 u143 u144 u145 u146 u147 u148 u149 u150 u151 u152 u153 u154 u155 u156 u157 u158 u159 u160 u161 u162 u163 u164 u165 u166 u167 u168 u169 u170 u171 u172 u173 u174 u175 u176 u177 u178 u179 u180 u181 u182 u183 u184 u185 u186 u187 u188 u189 u190 u191 u192 u193 u194 u195 u196 u197 u198 u199 u200 u201 u202 u203 u204 u205 u206 u207 u208 u209 u210 u211 u212 u213 u214 u215 u216 u217 u218 u219 u220 u221 u222 u223 u224 u225 u226 u227 u228 : Value) (w : World) (hG : Fg ga oa gb G who at_ w0 w) :
    Code.wp Try.prog fo29_code (fun e a w' => ∃ y109 y110 y111 y112 y113 y114 y115 y116 y117 y118 y119 y120 y121 y122 y123 y124 y125 y126 y127 y128 y129 y130 y131 y132 y133 y134 y135 y136 y137 y138 y139 y140 y141 : Value, a = ⟨(List.toArray (u0 :: u1 :: u2 :: u3 :: u4 :: u5 :: u6 :: u7 :: u8 :: .slice (some ⟨ga, oa, none⟩) n ca :: .int .u64 (now : Int) :: .int .i64 (G : Int) :: u12 :: u13 :: u14 :: u15 :: u16 :: u17 :: .slice (some ⟨gb, 0, none⟩) L cl :: u19 :: u20 :: u21 :: u22 :: u23 :: u24 :: u25 :: u26 :: u27 :: u28 :: u29 :: u30 :: u31 :: u32 :: u33 :: u34 :: u35 :: u36 :: u37 :: u38 :: u39 :: u40 :: u41 :: u42 :: u43 :: u44 :: u45 :: u46 :: u47 :: u48 :: u49 :: u50 :: u51 :: u52 :: u53 :: u54 :: u55 :: u56 :: u57 :: u58 :: u59 :: u60 :: u61 :: u62 :: u63 :: u64 :: u65 :: u66 :: u67 :: u68 :: u69 :: u70 :: u71 :: u72 :: u73 :: u74 :: u75 :: u76 :: u77 :: u78 :: u79 :: u80 :: u81 :: u82 :: u83 :: u84 :: u85 :: u86 :: u87 :: u88 :: u89 :: u90 :: u91 :: u92 :: u93 :: u94 :: u95 :: u96 :: u97 :: u98 :: u99 :: u100 :: u101 :: u102 :: u103 :: u104 :: u105 :: u106 :: u107 :: u108 :: y109 :: y110 :: y111 :: y112 :: y113 :: y114 :: y115 :: y116 :: y117 :: y118 :: y119 :: y120 :: y121 :: y122 :: y123 :: y124 :: y125 :: y126 :: y127 :: y128 :: y129 :: y130 :: y131 :: y132 :: y133 :: y134 :: y135 :: y136 :: y137 :: y138 :: y139 :: y140 :: y141 :: (.bool false) :: u143 :: u144 :: u145 :: u146 :: u147 :: u148 :: u149 :: u150 :: u151 :: u152 :: u153 :: u154 :: u155 :: u156 :: u157 :: u158 :: u159 :: u160 :: u161 :: u162 :: u163 :: u164 :: u165 :: u166 :: u167 :: u168 :: u169 :: u170 :: u171 :: u172 :: u173 :: u174 :: u175 :: u176 :: u177 :: u178 :: u179 :: u180 :: u181 :: u182 :: u183 :: u184 :: u185 :: u186 :: u187 :: u188 :: u189 :: u190 :: u191 :: u192 :: u193 :: u194 :: u195 :: u196 :: u197 :: u198 :: u199 :: u200 :: u201 :: u202 :: u203 :: u204 :: u205 :: u206 :: u207 :: u208 :: u209 :: u210 :: u211 :: u212 :: u213 :: u214 :: u215 :: u216 :: u217 :: u218 :: u219 :: u220 :: u221 :: u222 :: u223 :: u224 :: u225 :: u226 :: u227 :: u228 :: [])), []⟩ ∧ e = .normal ∧ (Only (fun _ => False) w0 w')) ⟨(List.toArray (u0 :: u1 :: u2 :: u3 :: u4 :: u5 :: u6 :: u7 :: u8 :: .slice (some ⟨ga, oa, none⟩) n ca :: .int .u64 (now : Int) :: .int .i64 (G : Int) :: u12 :: u13 :: u14 :: u15 :: u16 :: u17 :: .slice (some ⟨gb, 0, none⟩) L cl :: u19 :: u20 :: u21 :: u22 :: u23 :: u24 :: u25 :: u26 :: u27 :: u28 :: u29 :: u30 :: u31 :: u32 :: u33 :: u34 :: u35 :: u36 :: u37 :: u38 :: u39 :: u40 :: u41 :: u42 :: u43 :: u44 :: u45 :: u46 :: u47 :: u48 :: u49 :: u50 :: u51 :: u52 :: u53 :: u54 :: u55 :: u56 :: u57 :: u58 :: u59 :: u60 :: u61 :: u62 :: u63 :: u64 :: u65 :: u66 :: u67 :: u68 :: u69 :: u70 :: u71 :: u72 :: u73 :: u74 :: u75 :: u76 :: u77 :: u78 :: u79 :: u80 :: u81 :: u82 :: u83 :: u84 :: u85 :: u86 :: u87 :: u88 :: u89 :: u90 :: u91 :: u92 :: u93 :: u94 :: u95 :: u96 :: u97 :: u98 :: u99 :: u100 :: u101 :: u102 :: u103 :: u104 :: u105 :: u106 :: u107 :: u108 :: u109 :: u110 :: u111 :: u112 :: u113 :: u114 :: u115 :: u116 :: u117 :: u118 :: u119 :: u120 :: u121 :: u122 :: u123 :: u124 :: u125 :: u126 :: u127 :: u128 :: u129 :: u130 :: u131 :: u132 :: u133 :: u134 :: u135 :: u136 :: u137 :: u138 :: u139 :: u140 :: u141 :: u142 :: u143 :: u144 :: u145 :: u146 :: u147 :: u148 :: u149 :: u150 :: u151 :: u152 :: u153 :: u154 :: u155 :: u156 :: u157 :: u158 :: u159 :: u160 :: u161 :: u162 :: u163 :: u164 :: u165 :: u166 :: u167 :: u168 :: u169 :: u170 :: u171 :: u172 :: u173 :: u174 :: u175 :: u176 :: u177 :: u178 :: u179 :: u180 :: u181 :: u182 :: u183 :: u184 :: u185 :: u186 :: u187 :: u188 :: u189 :: u190 :: u191 :: u192 :: u193 :: u194 :: u195 :: u196 :: u197 :: u198 :: u199 :: u200 :: u201 :: u202 :: u203 :: u204 :: u205 :: u206 :: u207 :: u208 :: u209 :: u210 :: u211 :: u212 :: u213 :: u214 :: u215 :: u216 :: u217 :: u218 :: u219 :: u220 :: u221 :: u222 :: u223 :: u224 :: u225 :: u226 :: u227 :: u228 :: [])), []⟩ w := by
  conv => arg 2; whnf
  have eW : IntKind.i64.wrap ((G : Int) + 1) = (G : Int) + 1 := by rw [IntKind.wrap_i64]; omega
  have eU : IntKind.u64.wrap ((G : Int) + 1) = (G : Int) + 1 := by rw [IntKind.wrap_u64]; omega
  have hGI : (G : Int) < (L : Int) := by omega
  have h0I : (0 : Int) < (n : Int) := by omega
  refine wp_region_posts fo29_A [] [] fo29_kill fo29_uses [] [] [] []
      (some ?v0 :: some ?v1 :: some ?v2 :: some ?v3 :: some ?v4 :: some ?v5 :: some ?v6 :: some ?v7 :: some ?v8 :: some ?v9 :: some ?v10 :: some ?v11 :: some ?v12 :: some ?v13 :: some ?v14 :: some ?v15 :: some ?v16 :: some ?v17 :: some ?v18 :: some ?v19 :: some ?v20 :: some ?v21 :: some ?v22 :: some ?v23 :: some ?v24 :: some ?v25 :: some ?v26 :: some ?v27 :: some ?v28 :: some ?v29 :: some ?v30 :: some ?v31 :: some ?v32 :: some ?v33 :: [])
      ?T (fun wx => Fg ga oa gb G who at_ w0 wx) ?W ?E (by kernel_rfl) (by kernel_rfl) (by kernel_rfl) (fun x => ?hT) ?hF ?hini (Reg.all_ops ?runs) ?pres ?fin
  case W => exact fun j x w' => True
  case E => exact fun i wx wy => Only (fun _ => False) wx wy
  case hT =>
    simp only [Reg.fillV, Act.put, List.setIfInBounds_toArray, List.set_cons_zero, List.set_cons_succ]
    rfl
  case runs =>
    refine And.intro ?_ ?_
    · refine Reg.ob_pure (fun _ => rfl) rfl rfl rfl rfl (fun x w1 hF => ?_)
      have r0 := hF.a
      have r1 := hF.g0
      have r2 := hF.g1
      have r3 := hF.g2
      go_simp
      with_reducible rfl
    refine And.intro ?_ ?_
    · refine Reg.ob_pure (fun _ => rfl) rfl rfl rfl rfl (fun x w1 hF => ?_)
      have r0 := hF.a
      have r1 := hF.g0
      have r2 := hF.g1
      have r3 := hF.g2
      go_simp
      with_reducible rfl
    refine And.intro ?_ ?_
    · refine Reg.ob_pure (fun _ => rfl) rfl rfl rfl rfl (fun x w1 hF => ?_)
      have r0 := hF.a
      have r1 := hF.g0
      have r2 := hF.g1
      have r3 := hF.g2
      go_simp
      with_reducible rfl
    refine And.intro ?_ ?_
    · refine Reg.ob_pure (fun _ => rfl) rfl rfl rfl rfl (fun x w1 hF => ?_)
      have r0 := hF.a
      have r1 := hF.g0
      have r2 := hF.g1
      have r3 := hF.g2
      go_simp
      with_reducible rfl
    refine And.intro ?_ ?_
    · refine Reg.ob_pure (fun _ => rfl) rfl rfl rfl rfl (fun x w1 hF => ?_)
      have r0 := hF.a
      have r1 := hF.g0
      have r2 := hF.g1
      have r3 := hF.g2
      go_simp
      with_reducible rfl
    refine And.intro ?_ ?_
    · refine Reg.ob_pure (fun _ => rfl) rfl rfl rfl rfl (fun x w1 hF => ?_)
      have r0 := hF.a
      have r1 := hF.g0
      have r2 := hF.g1
      have r3 := hF.g2
      go_simp
      with_reducible rfl
    refine And.intro ?_ ?_
    · refine Reg.ob_pure (fun _ => rfl) rfl rfl rfl rfl (fun x w1 hF => ?_)
      have r0 := hF.a
      have r1 := hF.g0
      have r2 := hF.g1
      have r3 := hF.g2
      go_simp
      with_reducible rfl
    refine And.intro ?_ ?_
    · refine Reg.ob_pure (fun _ => rfl) rfl rfl rfl rfl (fun x w1 hF => ?_)
      have r0 := hF.a
      have r1 := hF.g0
      have r2 := hF.g1
      have r3 := hF.g2
      go_simp
      with_reducible rfl
    refine And.intro ?_ ?_
    · refine Reg.ob_pure (fun _ => rfl) rfl rfl rfl rfl (fun x w1 hF => ?_)
      have r0 := hF.a
      have r1 := hF.g0
      have r2 := hF.g1
      have r3 := hF.g2
      go_simp
      with_reducible rfl
    refine And.intro ?_ ?_
    · refine Reg.ob_pure (fun _ => rfl) rfl rfl rfl rfl (fun x w1 hF => ?_)
      have r0 := hF.a
      have r1 := hF.g0
      have r2 := hF.g1
      have r3 := hF.g2
      go_simp
      with_reducible rfl
    refine And.intro ?_ ?_
    · refine Reg.ob_pure (fun _ => rfl) rfl rfl rfl rfl (fun x w1 hF => ?_)
      have r0 := hF.a
      have r1 := hF.g0
      have r2 := hF.g1
      have r3 := hF.g2
      go_simp
      with_reducible rfl
    refine And.intro ?_ ?_
    · refine Reg.ob_pure (fun _ => rfl) rfl rfl rfl rfl (fun x w1 hF => ?_)
      have r0 := hF.a
      have r1 := hF.g0
      have r2 := hF.g1
      have r3 := hF.g2
      go_simp
      with_reducible rfl
    refine And.intro ?_ ?_
    · refine Reg.ob_pure (fun _ => rfl) rfl rfl rfl rfl (fun x w1 hF => ?_)
      have r0 := hF.a
      have r1 := hF.g0
      have r2 := hF.g1
      have r3 := hF.g2
      go_simp
      with_reducible rfl
    refine And.intro ?_ ?_
    · refine Reg.ob_pure (fun _ => rfl) rfl rfl rfl rfl (fun x w1 hF => ?_)
      have r0 := hF.a
      have r1 := hF.g0
      have r2 := hF.g1
      have r3 := hF.g2
      go_simp
      with_reducible rfl
    refine And.intro ?_ ?_
    · refine Reg.ob_pure (fun _ => rfl) rfl rfl rfl rfl (fun x w1 hF => ?_)
      have r0 := hF.a
      have r1 := hF.g0
      have r2 := hF.g1
      have r3 := hF.g2
      go_simp
      with_reducible rfl
    refine And.intro ?_ ?_
    · refine Reg.ob_pure (fun _ => rfl) rfl rfl rfl rfl (fun x w1 hF => ?_)
      have r0 := hF.a
      have r1 := hF.g0
      have r2 := hF.g1
      have r3 := hF.g2
      go_simp
      with_reducible rfl
    refine And.intro ?_ ?_
    · refine Reg.ob_pure (fun _ => rfl) rfl rfl rfl rfl (fun x w1 hF => ?_)
      have r0 := hF.a
      have r1 := hF.g0
      have r2 := hF.g1
      have r3 := hF.g2
      go_simp
      with_reducible rfl
    refine And.intro ?_ ?_
    · refine Reg.ob_pure (fun _ => rfl) rfl rfl rfl rfl (fun x w1 hF => ?_)
      have r0 := hF.a
      have r1 := hF.g0
      have r2 := hF.g1
      have r3 := hF.g2
      go_simp
      with_reducible rfl
    refine And.intro ?_ ?_
    · refine Reg.ob_pure (fun _ => rfl) rfl rfl rfl rfl (fun x w1 hF => ?_)
      have r0 := hF.a
      have r1 := hF.g0
      have r2 := hF.g1
      have r3 := hF.g2
      go_simp
      with_reducible rfl
    refine And.intro ?_ ?_
    · refine Reg.ob_pure (fun _ => rfl) rfl rfl rfl rfl (fun x w1 hF => ?_)
      have r0 := hF.a
      have r1 := hF.g0
      have r2 := hF.g1
      have r3 := hF.g2
      go_simp
      with_reducible rfl
    refine And.intro ?_ ?_
    · refine Reg.ob_pure (fun _ => rfl) rfl rfl rfl rfl (fun x w1 hF => ?_)
      have r0 := hF.a
      have r1 := hF.g0
      have r2 := hF.g1
      have r3 := hF.g2
      go_simp
      with_reducible rfl
    refine And.intro ?_ ?_
    · refine Reg.ob_pure (fun _ => rfl) rfl rfl rfl rfl (fun x w1 hF => ?_)
      have r0 := hF.a
      have r1 := hF.g0
      have r2 := hF.g1
      have r3 := hF.g2
      go_simp
      with_reducible rfl
    refine And.intro ?_ ?_
    · refine Reg.ob_pure (fun _ => rfl) rfl rfl rfl rfl (fun x w1 hF => ?_)
      have r0 := hF.a
      have r1 := hF.g0
      have r2 := hF.g1
      have r3 := hF.g2
      go_simp
      with_reducible rfl
    refine And.intro ?_ ?_
    · refine Reg.ob_pure (fun _ => rfl) rfl rfl rfl rfl (fun x w1 hF => ?_)
      have r0 := hF.a
      have r1 := hF.g0
      have r2 := hF.g1
      have r3 := hF.g2
      go_simp
      with_reducible rfl
    refine And.intro ?_ ?_
    · refine Reg.ob_pure (fun _ => rfl) rfl rfl rfl rfl (fun x w1 hF => ?_)
      have r0 := hF.a
      have r1 := hF.g0
      have r2 := hF.g1
      have r3 := hF.g2
      go_simp
      with_reducible rfl
    refine And.intro ?_ ?_
    · refine Reg.ob_pure (fun _ => rfl) rfl rfl rfl rfl (fun x w1 hF => ?_)
      have r0 := hF.a
      have r1 := hF.g0
      have r2 := hF.g1
      have r3 := hF.g2
      go_simp
      with_reducible rfl
    refine And.intro ?_ ?_
    · refine Reg.ob_pure (fun _ => rfl) rfl rfl rfl rfl (fun x w1 hF => ?_)
      have r0 := hF.a
      have r1 := hF.g0
      have r2 := hF.g1
      have r3 := hF.g2
      go_simp
      with_reducible rfl
    refine And.intro ?_ ?_
    · refine Reg.ob_pure (fun _ => rfl) rfl rfl rfl rfl (fun x w1 hF => ?_)
      have r0 := hF.a
      have r1 := hF.g0
      have r2 := hF.g1
      have r3 := hF.g2
      go_simp
      with_reducible rfl
    refine And.intro ?_ ?_
    · refine Reg.ob_pure (fun _ => rfl) rfl rfl rfl rfl (fun x w1 hF => ?_)
      have r0 := hF.a
      have r1 := hF.g0
      have r2 := hF.g1
      have r3 := hF.g2
      go_simp
      with_reducible rfl
    refine And.intro ?_ ?_
    · refine Reg.ob_pure (fun _ => rfl) rfl rfl rfl rfl (fun x w1 hF => ?_)
      have r0 := hF.a
      have r1 := hF.g0
      have r2 := hF.g1
      have r3 := hF.g2
      go_simp
      with_reducible rfl
    refine And.intro ?_ ?_
    · refine Reg.ob_pure (fun _ => rfl) rfl rfl rfl rfl (fun x w1 hF => ?_)
      have r0 := hF.a
      have r1 := hF.g0
      have r2 := hF.g1
      have r3 := hF.g2
      go_simp
      with_reducible rfl
    refine And.intro ?_ ?_
    · refine Reg.ob_pure (fun _ => rfl) rfl rfl rfl rfl (fun x w1 hF => ?_)
      have r0 := hF.a
      have r1 := hF.g0
      have r2 := hF.g1
      have r3 := hF.g2
      go_simp
      with_reducible rfl
    refine And.intro ?_ ?_
    · refine Reg.ob_pure (fun _ => rfl) rfl rfl rfl rfl (fun x w1 hF => ?_)
      have r0 := hF.a
      have r1 := hF.g0
      have r2 := hF.g1
      have r3 := hF.g2
      go_simp
      with_reducible rfl
    refine And.intro ?_ ?_
    · refine Reg.ob_pure (fun _ => rfl) rfl rfl rfl rfl (fun x w1 hF => ?_)
      have r0 := hF.a
      have r1 := hF.g0
      have r2 := hF.g1
      have r3 := hF.g2
      go_simp
      with_reducible rfl
    exact trivial
  case hF =>
    exact ⟨hG.a, hG.g0, hG.g1, hG.g2, hG.pure.drewN _⟩
  case hini =>
    exact trivial
  case pres =>
    intro i hi
    simp at hi
  case fin =>
    rintro x w9 hF hU
    repeat apply Exists.intro
    exact ⟨rfl, rfl, (hF rfl).pure⟩

set_option maxRecDepth 100000 in
set_option maxHeartbeats 4000000 in
theorem fo29 (ga oa gb G n ca L cl who at_ now : Nat) (w0 : World) (h0 : 0 < n) (hG9 : G < L) (e0 : ((n : Int) == 0) = false) (hn : ¬ now < at_) (hL : L ≤ 10000)  (u0 u1 u2 u3 u4 u5 u6 u7 u8 u12 u13 u14 u15 u16 u17 u19 u20 u21 u22 u23 u24 u25 u26 u27 u28 u29 u30 u31 u32 u33 u34 u35 u36 u37 u38 u39 u40 u41 u42 u43 u44 u45 u46 u47 u48 u49 u50 u51 u52 u53 u54 u55 u56 u57 u58 u59 u60 u61 u62 u63 u64 u65 u66 u67 u68 u69 u70 u71 u72 u73 u74 u75 u76 u77 u78 u79 u80 u81 u82 u83 u84 u85 u86 u87 u88 u89 u90 u91 u92 u93 u94 u95 u96 u97 u98 u99 u100 u101 u102 u103 u104 u105 u106 u107 u108 u109 u110 u111 u112 u113 u114 u115 u116 u117 u118 u119 u120 u121 u122 u123 u124 u125 u126 u127 u128 u129 u130 u131 u132 u133 u134 u135 u136 u137 u138 u139 u140 u141 u142 u143 u144 u145 u146 u147 u148 u149 u150 u151 u152 u153 u154 u155 u156 u157 u158 u159 u160 u161 u162 u163 u164 u165 u166 u167 u168 u169 u170 u171 u172 u173 u174 u175 u176 u177 u178 u179 u180 u181 u182 u183 u184 u185 u186 u187 u188 u189 u190 u191 u192 u193 u194 u195 u196 u197 u198 u199 u200 u201 u202 u203 u204 u205 u206 u207 u208 u209 u210 u211 u212 u213 u214 u215 u216 u217 u218 u219 u220 u221 u222 u223 u224 u225 u226 u227 u228 : Value) (Q : Exit → Act → World → Prop) (w : World) (hG : Fg ga oa gb G who at_ w0 w)
    (hend : ∀ (y109 y110 y111 y112 y113 y114 y115 y116 y117 y118 y119 y120 y121 y122 y123 y124 y125 y126 y127 y128 y129 y130 y131 y132 y133 y134 y135 y136 y137 y138 y139 y140 y141 : Value) (w' : World), (Only (fun _ => False) w0 w') → Q .normal ⟨(List.toArray (u0 :: u1 :: u2 :: u3 :: u4 :: u5 :: u6 :: u7 :: u8 :: .slice (some ⟨ga, oa, none⟩) n ca :: .int .u64 (now : Int) :: .int .i64 (G : Int) :: u12 :: u13 :: u14 :: u15 :: u16 :: u17 :: .slice (some ⟨gb, 0, none⟩) L cl :: u19 :: u20 :: u21 :: u22 :: u23 :: u24 :: u25 :: u26 :: u27 :: u28 :: u29 :: u30 :: u31 :: u32 :: u33 :: u34 :: u35 :: u36 :: u37 :: u38 :: u39 :: u40 :: u41 :: u42 :: u43 :: u44 :: u45 :: u46 :: u47 :: u48 :: u49 :: u50 :: u51 :: u52 :: u53 :: u54 :: u55 :: u56 :: u57 :: u58 :: u59 :: u60 :: u61 :: u62 :: u63 :: u64 :: u65 :: u66 :: u67 :: u68 :: u69 :: u70 :: u71 :: u72 :: u73 :: u74 :: u75 :: u76 :: u77 :: u78 :: u79 :: u80 :: u81 :: u82 :: u83 :: u84 :: u85 :: u86 :: u87 :: u88 :: u89 :: u90 :: u91 :: u92 :: u93 :: u94 :: u95 :: u96 :: u97 :: u98 :: u99 :: u100 :: u101 :: u102 :: u103 :: u104 :: u105 :: u106 :: u107 :: u108 :: y109 :: y110 :: y111 :: y112 :: y113 :: y114 :: y115 :: y116 :: y117 :: y118 :: y119 :: y120 :: y121 :: y122 :: y123 :: y124 :: y125 :: y126 :: y127 :: y128 :: y129 :: y130 :: y131 :: y132 :: y133 :: y134 :: y135 :: y136 :: y137 :: y138 :: y139 :: y140 :: y141 :: (.bool false) :: u143 :: u144 :: u145 :: u146 :: u147 :: u148 :: u149 :: u150 :: u151 :: u152 :: u153 :: u154 :: u155 :: u156 :: u157 :: u158 :: u159 :: u160 :: u161 :: u162 :: u163 :: u164 :: u165 :: u166 :: u167 :: u168 :: u169 :: u170 :: u171 :: u172 :: u173 :: u174 :: u175 :: u176 :: u177 :: u178 :: u179 :: u180 :: u181 :: u182 :: u183 :: u184 :: u185 :: u186 :: u187 :: u188 :: u189 :: u190 :: u191 :: u192 :: u193 :: u194 :: u195 :: u196 :: u197 :: u198 :: u199 :: u200 :: u201 :: u202 :: u203 :: u204 :: u205 :: u206 :: u207 :: u208 :: u209 :: u210 :: u211 :: u212 :: u213 :: u214 :: u215 :: u216 :: u217 :: u218 :: u219 :: u220 :: u221 :: u222 :: u223 :: u224 :: u225 :: u226 :: u227 :: u228 :: [])), []⟩ w') :
    Code.wp Try.prog fo29_code Q ⟨(List.toArray (u0 :: u1 :: u2 :: u3 :: u4 :: u5 :: u6 :: u7 :: u8 :: .slice (some ⟨ga, oa, none⟩) n ca :: .int .u64 (now : Int) :: .int .i64 (G : Int) :: u12 :: u13 :: u14 :: u15 :: u16 :: u17 :: .slice (some ⟨gb, 0, none⟩) L cl :: u19 :: u20 :: u21 :: u22 :: u23 :: u24 :: u25 :: u26 :: u27 :: u28 :: u29 :: u30 :: u31 :: u32 :: u33 :: u34 :: u35 :: u36 :: u37 :: u38 :: u39 :: u40 :: u41 :: u42 :: u43 :: u44 :: u45 :: u46 :: u47 :: u48 :: u49 :: u50 :: u51 :: u52 :: u53 :: u54 :: u55 :: u56 :: u57 :: u58 :: u59 :: u60 :: u61 :: u62 :: u63 :: u64 :: u65 :: u66 :: u67 :: u68 :: u69 :: u70 :: u71 :: u72 :: u73 :: u74 :: u75 :: u76 :: u77 :: u78 :: u79 :: u80 :: u81 :: u82 :: u83 :: u84 :: u85 :: u86 :: u87 :: u88 :: u89 :: u90 :: u91 :: u92 :: u93 :: u94 :: u95 :: u96 :: u97 :: u98 :: u99 :: u100 :: u101 :: u102 :: u103 :: u104 :: u105 :: u106 :: u107 :: u108 :: u109 :: u110 :: u111 :: u112 :: u113 :: u114 :: u115 :: u116 :: u117 :: u118 :: u119 :: u120 :: u121 :: u122 :: u123 :: u124 :: u125 :: u126 :: u127 :: u128 :: u129 :: u130 :: u131 :: u132 :: u133 :: u134 :: u135 :: u136 :: u137 :: u138 :: u139 :: u140 :: u141 :: u142 :: u143 :: u144 :: u145 :: u146 :: u147 :: u148 :: u149 :: u150 :: u151 :: u152 :: u153 :: u154 :: u155 :: u156 :: u157 :: u158 :: u159 :: u160 :: u161 :: u162 :: u163 :: u164 :: u165 :: u166 :: u167 :: u168 :: u169 :: u170 :: u171 :: u172 :: u173 :: u174 :: u175 :: u176 :: u177 :: u178 :: u179 :: u180 :: u181 :: u182 :: u183 :: u184 :: u185 :: u186 :: u187 :: u188 :: u189 :: u190 :: u191 :: u192 :: u193 :: u194 :: u195 :: u196 :: u197 :: u198 :: u199 :: u200 :: u201 :: u202 :: u203 :: u204 :: u205 :: u206 :: u207 :: u208 :: u209 :: u210 :: u211 :: u212 :: u213 :: u214 :: u215 :: u216 :: u217 :: u218 :: u219 :: u220 :: u221 :: u222 :: u223 :: u224 :: u225 :: u226 :: u227 :: u228 :: [])), []⟩ w := by
  refine wp_mono (fo29_in ga oa gb G n ca L cl who at_ now w0 h0 hG9 e0 hn hL _ _ _ _ _ _ _ _ _ _ _ _ _ _ _ _ _ _ _ _ _ _ _ _ _ _ _ _ _ _ _ _ _ _ _ _ _ _ _ _ _ _ _ _ _ _ _ _ _ _ _ _ _ _ _ _ _ _ _ _ _ _ _ _ _ _ _ _ _ _ _ _ _ _ _ _ _ _ _ _ _ _ _ _ _ _ _ _ _ _ _ _ _ _ _ _ _ _ _ _ _ _ _ _ _ _ _ _ _ _ _ _ _ _ _ _ _ _ _ _ _ _ _ _ _ _ _ _ _ _ _ _ _ _ _ _ _ _ _ _ _ _ _ _ _ _ _ _ _ _ _ _ _ _ _ _ _ _ _ _ _ _ _ _ _ _ _ _ _ _ _ _ _ _ _ _ _ _ _ _ _ _ _ _ _ _ _ _ _ _ _ _ _ _ _ _ _ _ _ _ _ _ _ _ _ _ _ _ _ _ _ _ _ _ _ _ _ _ _ _ _ _ _ _ _ w hG) ?_
  rintro e a w' h
  obtain ⟨y109, h⟩ := h
  obtain ⟨y110, h⟩ := h
  obtain ⟨y111, h⟩ := h
  obtain ⟨y112, h⟩ := h
  obtain ⟨y113, h⟩ := h
  obtain ⟨y114, h⟩ := h
  obtain ⟨y115, h⟩ := h
  obtain ⟨y116, h⟩ := h
  obtain ⟨y117, h⟩ := h
  obtain ⟨y118, h⟩ := h
  obtain ⟨y119, h⟩ := h
  obtain ⟨y120, h⟩ := h
  obtain ⟨y121, h⟩ := h
  obtain ⟨y122, h⟩ := h
  obtain ⟨y123, h⟩ := h
  obtain ⟨y124, h⟩ := h
  obtain ⟨y125, h⟩ := h
  obtain ⟨y126, h⟩ := h
  obtain ⟨y127, h⟩ := h
  obtain ⟨y128, h⟩ := h
  obtain ⟨y129, h⟩ := h
  obtain ⟨y130, h⟩ := h
  obtain ⟨y131, h⟩ := h
  obtain ⟨y132, h⟩ := h
  obtain ⟨y133, h⟩ := h
  obtain ⟨y134, h⟩ := h
  obtain ⟨y135, h⟩ := h
  obtain ⟨y136, h⟩ := h
  obtain ⟨y137, h⟩ := h
  obtain ⟨y138, h⟩ := h
  obtain ⟨y139, h⟩ := h
  obtain ⟨y140, h⟩ := h
  obtain ⟨y141, h⟩ := h
  obtain ⟨h, rfl, hq⟩ := h
  subst h
  exact hend y109 y110 y111 y112 y113 y114 y115 y116 y117 y118 y119 y120 y121 y122 y123 y124 y125 y126 y127 y128 y129 y130 y131 y132 y133 y134 y135 y136 y137 y138 y139 y140 y141 w' hq
def fo24_A : List (List Nat) := [[], [], [0, 1], [2, 0, 1], [], [4], [3, 5, 2, 0, 1, 4]]
def fo24_kill : List (List Nat) := [[], [], [], [], [], [], []]
def fo24_uses : List (List Nat) := [[], [], [], [], [], [], []]
noncomputable def fo24_code : Code := ((Try.f4.body.bind (codeRegion 24)).getD .skip)
set_option maxRecDepth 100000 in
set_option maxHeartbeats 4000000 in
theorem fo24_in (ga oa a0 k n ca x y : Nat) (r : Bool) (w0 : World) (hk : k < n) (hr : ((x : Int) != (y : Int)) = r)  (u0 u1 u2 u3 u4 u5 u6 u7 u8 u10 u11 u12 u14 u15 u16 u18 u19 u20 u21 u22 u23 u24 u25 u26 u27 u28 u29 u30 u31 u32 u33 u34 u35 u36 u37 u38 u39 u40 u41 u42 u43 u44 u45 u46 u47 u48 u49 u50 u51 u52 u53 u54 u55 u56 u57 u58 u59 u60 u61 u62 u63 u64 u65 u66 u67 u68 u69 u70 u71 u72 u73 u74 u75 u76 u77 u78 u79 u80 u81 u82 u83 u84 u85 u86 u87 u88 u89 u90 u91 u92 u93 u94 u95 u96 u97 u98 u99 u100 u101 u102 u103 u104 u105 u106 u107 u108 u109 u110 u111 u112 u113 u114 u115 u116 u117 u118 u119 u120 u121 u122 u123 u124 u125 u126 u127 u128 u129 u130 u131 u132 u133 u134 u135 u136 u137 u138 u139 u140 u141 u142 u143 u144 u145 u146 u147 u148 u149 u150 u151 u152 u153 u154 u155 u156 u157 u158 u159 u160 u161 u162 u163 u164 u165 u166 u167 u168 u169 u170 u171 u172 u173 u174 u175 u176 u177 u178 u179 u180 u181 u182 u183 u184 u185 u186 u187 u188 u189 u190 u191 u192 u193 u194 u195 u196 u197 u198 u199 u200 u201 u202 u203 u204 u205 u206 u207 u208 u209 u210 u211 u212 u213 u214 u215 u216 u217 u218 u219 u220 u221 u222 u223 u224 u225 u226 u227 u228 : Value) (w : World) (hG : Fz ga oa a0 k x y w0 w) :
    Code.wp Try.prog fo24_code (fun e a w' => ∃ y88 y89 y90 y91 y92 y93 : Value, a = ⟨(List.toArray (u0 :: u1 :: u2 :: u3 :: u4 :: u5 :: u6 :: u7 :: u8 :: .slice (some ⟨ga, oa, none⟩) n ca :: u10 :: u11 :: u12 :: .pointer (some ⟨a0, 0, none⟩) :: u14 :: u15 :: u16 :: .int .i64 (k : Int) :: u18 :: u19 :: u20 :: u21 :: u22 :: u23 :: u24 :: u25 :: u26 :: u27 :: u28 :: u29 :: u30 :: u31 :: u32 :: u33 :: u34 :: u35 :: u36 :: u37 :: u38 :: u39 :: u40 :: u41 :: u42 :: u43 :: u44 :: u45 :: u46 :: u47 :: u48 :: u49 :: u50 :: u51 :: u52 :: u53 :: u54 :: u55 :: u56 :: u57 :: u58 :: u59 :: u60 :: u61 :: u62 :: u63 :: u64 :: u65 :: u66 :: u67 :: u68 :: u69 :: u70 :: u71 :: u72 :: u73 :: u74 :: u75 :: u76 :: u77 :: u78 :: u79 :: u80 :: u81 :: u82 :: u83 :: u84 :: u85 :: u86 :: u87 :: y88 :: y89 :: y90 :: y91 :: y92 :: y93 :: (.bool r) :: u95 :: u96 :: u97 :: u98 :: u99 :: u100 :: u101 :: u102 :: u103 :: u104 :: u105 :: u106 :: u107 :: u108 :: u109 :: u110 :: u111 :: u112 :: u113 :: u114 :: u115 :: u116 :: u117 :: u118 :: u119 :: u120 :: u121 :: u122 :: u123 :: u124 :: u125 :: u126 :: u127 :: u128 :: u129 :: u130 :: u131 :: u132 :: u133 :: u134 :: u135 :: u136 :: u137 :: u138 :: u139 :: u140 :: u141 :: u142 :: u143 :: u144 :: u145 :: u146 :: u147 :: u148 :: u149 :: u150 :: u151 :: u152 :: u153 :: u154 :: u155 :: u156 :: u157 :: u158 :: u159 :: u160 :: u161 :: u162 :: u163 :: u164 :: u165 :: u166 :: u167 :: u168 :: u169 :: u170 :: u171 :: u172 :: u173 :: u174 :: u175 :: u176 :: u177 :: u178 :: u179 :: u180 :: u181 :: u182 :: u183 :: u184 :: u185 :: u186 :: u187 :: u188 :: u189 :: u190 :: u191 :: u192 :: u193 :: u194 :: u195 :: u196 :: u197 :: u198 :: u199 :: u200 :: u201 :: u202 :: u203 :: u204 :: u205 :: u206 :: u207 :: u208 :: u209 :: u210 :: u211 :: u212 :: u213 :: u214 :: u215 :: u216 :: u217 :: u218 :: u219 :: u220 :: u221 :: u222 :: u223 :: u224 :: u225 :: u226 :: u227 :: u228 :: [])), []⟩ ∧ e = .normal ∧ (Only (fun _ => False) w0 w')) ⟨(List.toArray (u0 :: u1 :: u2 :: u3 :: u4 :: u5 :: u6 :: u7 :: u8 :: .slice (some ⟨ga, oa, none⟩) n ca :: u10 :: u11 :: u12 :: .pointer (some ⟨a0, 0, none⟩) :: u14 :: u15 :: u16 :: .int .i64 (k : Int) :: u18 :: u19 :: u20 :: u21 :: u22 :: u23 :: u24 :: u25 :: u26 :: u27 :: u28 :: u29 :: u30 :: u31 :: u32 :: u33 :: u34 :: u35 :: u36 :: u37 :: u38 :: u39 :: u40 :: u41 :: u42 :: u43 :: u44 :: u45 :: u46 :: u47 :: u48 :: u49 :: u50 :: u51 :: u52 :: u53 :: u54 :: u55 :: u56 :: u57 :: u58 :: u59 :: u60 :: u61 :: u62 :: u63 :: u64 :: u65 :: u66 :: u67 :: u68 :: u69 :: u70 :: u71 :: u72 :: u73 :: u74 :: u75 :: u76 :: u77 :: u78 :: u79 :: u80 :: u81 :: u82 :: u83 :: u84 :: u85 :: u86 :: u87 :: u88 :: u89 :: u90 :: u91 :: u92 :: u93 :: u94 :: u95 :: u96 :: u97 :: u98 :: u99 :: u100 :: u101 :: u102 :: u103 :: u104 :: u105 :: u106 :: u107 :: u108 :: u109 :: u110 :: u111 :: u112 :: u113 :: u114 :: u115 :: u116 :: u117 :: u118 :: u119 :: u120 :: u121 :: u122 :: u123 :: u124 :: u125 :: u126 :: u127 :: u128 :: u129 :: u130 :: u131 :: u132 :: u133 :: u134 :: u135 :: u136 :: u137 :: u138 :: u139 :: u140 :: u141 :: u142 :: u143 :: u144 :: u145 :: u146 :: u147 :: u148 :: u149 :: u150 :: u151 :: u152 :: u153 :: u154 :: u155 :: u156 :: u157 :: u158 :: u159 :: u160 :: u161 :: u162 :: u163 :: u164 :: u165 :: u166 :: u167 :: u168 :: u169 :: u170 :: u171 :: u172 :: u173 :: u174 :: u175 :: u176 :: u177 :: u178 :: u179 :: u180 :: u181 :: u182 :: u183 :: u184 :: u185 :: u186 :: u187 :: u188 :: u189 :: u190 :: u191 :: u192 :: u193 :: u194 :: u195 :: u196 :: u197 :: u198 :: u199 :: u200 :: u201 :: u202 :: u203 :: u204 :: u205 :: u206 :: u207 :: u208 :: u209 :: u210 :: u211 :: u212 :: u213 :: u214 :: u215 :: u216 :: u217 :: u218 :: u219 :: u220 :: u221 :: u222 :: u223 :: u224 :: u225 :: u226 :: u227 :: u228 :: [])), []⟩ w := by
  conv => arg 2; whnf
  have hkI : (k : Int) < (n : Int) := by omega
  refine wp_region_posts fo24_A [] [] fo24_kill fo24_uses [] [] [] []
      [some ?v0, some ?v1, some ?v2, some ?v3, some ?v4, some ?v5, some ?v6]
      ?T (fun wx => Fz ga oa a0 k x y w0 wx) ?W ?E (by kernel_rfl) (by kernel_rfl) (by kernel_rfl) (fun x => ?hT) ?hF ?hini (Reg.all_ops ?runs) ?pres ?fin
  case W => exact fun j x w' => True
  case E => exact fun i wx wy => Only (fun _ => False) wx wy
  case hT =>
    simp only [Reg.fillV, Act.put, List.setIfInBounds_toArray, List.set_cons_zero, List.set_cons_succ]
    rfl
  case runs =>
    refine And.intro ?_ ?_
    · refine Reg.ob_pure (fun _ => rfl) rfl rfl rfl rfl (fun x w1 hF => ?_)
      have r0 := hF.a
      have r1 := hF.c
      go_simp
      with_reducible rfl
    refine And.intro ?_ ?_
    · refine Reg.ob_pure (fun _ => rfl) rfl rfl rfl rfl (fun x w1 hF => ?_)
      have r0 := hF.a
      have r1 := hF.c
      go_simp
      with_reducible rfl
    refine And.intro ?_ ?_
    · refine Reg.ob_pure (fun _ => rfl) rfl rfl rfl rfl (fun x w1 hF => ?_)
      have r0 := hF.a
      have r1 := hF.c
      go_simp
      with_reducible rfl
    refine And.intro ?_ ?_
    · refine Reg.ob_pure (fun _ => rfl) rfl rfl rfl rfl (fun x w1 hF => ?_)
      have r0 := hF.a
      have r1 := hF.c
      go_simp
      with_reducible rfl
    refine And.intro ?_ ?_
    · refine Reg.ob_pure (fun _ => rfl) rfl rfl rfl rfl (fun x w1 hF => ?_)
      have r0 := hF.a
      have r1 := hF.c
      go_simp
      with_reducible rfl
    refine And.intro ?_ ?_
    · refine Reg.ob_pure (fun _ => rfl) rfl rfl rfl rfl (fun x w1 hF => ?_)
      have r0 := hF.a
      have r1 := hF.c
      go_simp
      with_reducible rfl
    refine And.intro ?_ ?_
    · refine Reg.ob_pure (fun _ => rfl) rfl rfl rfl rfl (fun x w1 hF => ?_)
      have r0 := hF.a
      have r1 := hF.c
      go_simp
      with_reducible rfl
    exact trivial
  case hF =>
    exact ⟨hG.a, hG.c, hG.pure.drewN _⟩
  case hini =>
    exact trivial
  case pres =>
    intro i hi
    simp at hi
  case fin =>
    rintro x w9 hF hU
    repeat apply Exists.intro
    exact ⟨rfl, rfl, (hF rfl).pure⟩

set_option maxRecDepth 100000 in
set_option maxHeartbeats 4000000 in
theorem fo24 (ga oa a0 k n ca x y : Nat) (r : Bool) (w0 : World) (hk : k < n) (hr : ((x : Int) != (y : Int)) = r)  (u0 u1 u2 u3 u4 u5 u6 u7 u8 u10 u11 u12 u14 u15 u16 u18 u19 u20 u21 u22 u23 u24 u25 u26 u27 u28 u29 u30 u31 u32 u33 u34 u35 u36 u37 u38 u39 u40 u41 u42 u43 u44 u45 u46 u47 u48 u49 u50 u51 u52 u53 u54 u55 u56 u57 u58 u59 u60 u61 u62 u63 u64 u65 u66 u67 u68 u69 u70 u71 u72 u73 u74 u75 u76 u77 u78 u79 u80 u81 u82 u83 u84 u85 u86 u87 u88 u89 u90 u91 u92 u93 u94 u95 u96 u97 u98 u99 u100 u101 u102 u103 u104 u105 u106 u107 u108 u109 u110 u111 u112 u113 u114 u115 u116 u117 u118 u119 u120 u121 u122 u123 u124 u125 u126 u127 u128 u129 u130 u131 u132 u133 u134 u135 u136 u137 u138 u139 u140 u141 u142 u143 u144 u145 u146 u147 u148 u149 u150 u151 u152 u153 u154 u155 u156 u157 u158 u159 u160 u161 u162 u163 u164 u165 u166 u167 u168 u169 u170 u171 u172 u173 u174 u175 u176 u177 u178 u179 u180 u181 u182 u183 u184 u185 u186 u187 u188 u189 u190 u191 u192 u193 u194 u195 u196 u197 u198 u199 u200 u201 u202 u203 u204 u205 u206 u207 u208 u209 u210 u211 u212 u213 u214 u215 u216 u217 u218 u219 u220 u221 u222 u223 u224 u225 u226 u227 u228 : Value) (Q : Exit → Act → World → Prop) (w : World) (hG : Fz ga oa a0 k x y w0 w)
    (hend : ∀ (y88 y89 y90 y91 y92 y93 : Value) (w' : World), (Only (fun _ => False) w0 w') → Q .normal ⟨(List.toArray (u0 :: u1 :: u2 :: u3 :: u4 :: u5 :: u6 :: u7 :: u8 :: .slice (some ⟨ga, oa, none⟩) n ca :: u10 :: u11 :: u12 :: .pointer (some ⟨a0, 0, none⟩) :: u14 :: u15 :: u16 :: .int .i64 (k : Int) :: u18 :: u19 :: u20 :: u21 :: u22 :: u23 :: u24 :: u25 :: u26 :: u27 :: u28 :: u29 :: u30 :: u31 :: u32 :: u33 :: u34 :: u35 :: u36 :: u37 :: u38 :: u39 :: u40 :: u41 :: u42 :: u43 :: u44 :: u45 :: u46 :: u47 :: u48 :: u49 :: u50 :: u51 :: u52 :: u53 :: u54 :: u55 :: u56 :: u57 :: u58 :: u59 :: u60 :: u61 :: u62 :: u63 :: u64 :: u65 :: u66 :: u67 :: u68 :: u69 :: u70 :: u71 :: u72 :: u73 :: u74 :: u75 :: u76 :: u77 :: u78 :: u79 :: u80 :: u81 :: u82 :: u83 :: u84 :: u85 :: u86 :: u87 :: y88 :: y89 :: y90 :: y91 :: y92 :: y93 :: (.bool r) :: u95 :: u96 :: u97 :: u98 :: u99 :: u100 :: u101 :: u102 :: u103 :: u104 :: u105 :: u106 :: u107 :: u108 :: u109 :: u110 :: u111 :: u112 :: u113 :: u114 :: u115 :: u116 :: u117 :: u118 :: u119 :: u120 :: u121 :: u122 :: u123 :: u124 :: u125 :: u126 :: u127 :: u128 :: u129 :: u130 :: u131 :: u132 :: u133 :: u134 :: u135 :: u136 :: u137 :: u138 :: u139 :: u140 :: u141 :: u142 :: u143 :: u144 :: u145 :: u146 :: u147 :: u148 :: u149 :: u150 :: u151 :: u152 :: u153 :: u154 :: u155 :: u156 :: u157 :: u158 :: u159 :: u160 :: u161 :: u162 :: u163 :: u164 :: u165 :: u166 :: u167 :: u168 :: u169 :: u170 :: u171 :: u172 :: u173 :: u174 :: u175 :: u176 :: u177 :: u178 :: u179 :: u180 :: u181 :: u182 :: u183 :: u184 :: u185 :: u186 :: u187 :: u188 :: u189 :: u190 :: u191 :: u192 :: u193 :: u194 :: u195 :: u196 :: u197 :: u198 :: u199 :: u200 :: u201 :: u202 :: u203 :: u204 :: u205 :: u206 :: u207 :: u208 :: u209 :: u210 :: u211 :: u212 :: u213 :: u214 :: u215 :: u216 :: u217 :: u218 :: u219 :: u220 :: u221 :: u222 :: u223 :: u224 :: u225 :: u226 :: u227 :: u228 :: [])), []⟩ w') :
    Code.wp Try.prog fo24_code Q ⟨(List.toArray (u0 :: u1 :: u2 :: u3 :: u4 :: u5 :: u6 :: u7 :: u8 :: .slice (some ⟨ga, oa, none⟩) n ca :: u10 :: u11 :: u12 :: .pointer (some ⟨a0, 0, none⟩) :: u14 :: u15 :: u16 :: .int .i64 (k : Int) :: u18 :: u19 :: u20 :: u21 :: u22 :: u23 :: u24 :: u25 :: u26 :: u27 :: u28 :: u29 :: u30 :: u31 :: u32 :: u33 :: u34 :: u35 :: u36 :: u37 :: u38 :: u39 :: u40 :: u41 :: u42 :: u43 :: u44 :: u45 :: u46 :: u47 :: u48 :: u49 :: u50 :: u51 :: u52 :: u53 :: u54 :: u55 :: u56 :: u57 :: u58 :: u59 :: u60 :: u61 :: u62 :: u63 :: u64 :: u65 :: u66 :: u67 :: u68 :: u69 :: u70 :: u71 :: u72 :: u73 :: u74 :: u75 :: u76 :: u77 :: u78 :: u79 :: u80 :: u81 :: u82 :: u83 :: u84 :: u85 :: u86 :: u87 :: u88 :: u89 :: u90 :: u91 :: u92 :: u93 :: u94 :: u95 :: u96 :: u97 :: u98 :: u99 :: u100 :: u101 :: u102 :: u103 :: u104 :: u105 :: u106 :: u107 :: u108 :: u109 :: u110 :: u111 :: u112 :: u113 :: u114 :: u115 :: u116 :: u117 :: u118 :: u119 :: u120 :: u121 :: u122 :: u123 :: u124 :: u125 :: u126 :: u127 :: u128 :: u129 :: u130 :: u131 :: u132 :: u133 :: u134 :: u135 :: u136 :: u137 :: u138 :: u139 :: u140 :: u141 :: u142 :: u143 :: u144 :: u145 :: u146 :: u147 :: u148 :: u149 :: u150 :: u151 :: u152 :: u153 :: u154 :: u155 :: u156 :: u157 :: u158 :: u159 :: u160 :: u161 :: u162 :: u163 :: u164 :: u165 :: u166 :: u167 :: u168 :: u169 :: u170 :: u171 :: u172 :: u173 :: u174 :: u175 :: u176 :: u177 :: u178 :: u179 :: u180 :: u181 :: u182 :: u183 :: u184 :: u185 :: u186 :: u187 :: u188 :: u189 :: u190 :: u191 :: u192 :: u193 :: u194 :: u195 :: u196 :: u197 :: u198 :: u199 :: u200 :: u201 :: u202 :: u203 :: u204 :: u205 :: u206 :: u207 :: u208 :: u209 :: u210 :: u211 :: u212 :: u213 :: u214 :: u215 :: u216 :: u217 :: u218 :: u219 :: u220 :: u221 :: u222 :: u223 :: u224 :: u225 :: u226 :: u227 :: u228 :: [])), []⟩ w := by
  refine wp_mono (fo24_in ga oa a0 k n ca x y r w0 hk hr _ _ _ _ _ _ _ _ _ _ _ _ _ _ _ _ _ _ _ _ _ _ _ _ _ _ _ _ _ _ _ _ _ _ _ _ _ _ _ _ _ _ _ _ _ _ _ _ _ _ _ _ _ _ _ _ _ _ _ _ _ _ _ _ _ _ _ _ _ _ _ _ _ _ _ _ _ _ _ _ _ _ _ _ _ _ _ _ _ _ _ _ _ _ _ _ _ _ _ _ _ _ _ _ _ _ _ _ _ _ _ _ _ _ _ _ _ _ _ _ _ _ _ _ _ _ _ _ _ _ _ _ _ _ _ _ _ _ _ _ _ _ _ _ _ _ _ _ _ _ _ _ _ _ _ _ _ _ _ _ _ _ _ _ _ _ _ _ _ _ _ _ _ _ _ _ _ _ _ _ _ _ _ _ _ _ _ _ _ _ _ _ _ _ _ _ _ _ _ _ _ _ _ _ _ _ _ _ _ _ _ _ _ _ _ _ _ _ _ _ _ _ _ _ _ _ w hG) ?_
  rintro e a w' h
  obtain ⟨y88, h⟩ := h
  obtain ⟨y89, h⟩ := h
  obtain ⟨y90, h⟩ := h
  obtain ⟨y91, h⟩ := h
  obtain ⟨y92, h⟩ := h
  obtain ⟨y93, h⟩ := h
  obtain ⟨h, rfl, hq⟩ := h
  subst h
  exact hend y88 y89 y90 y91 y92 y93 w' hq
end Go.Proofs.Ytelfeedaadkhnaa
