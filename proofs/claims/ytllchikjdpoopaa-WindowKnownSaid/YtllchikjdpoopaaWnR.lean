/- WindowOnce's drawn region. Conditions: as each says. -/
import Derived.Test.YtllchikjdpoopaaWnQ
import Derived.Test.YtllchikjdpoopaaPick
set_option linter.unusedVariables false
namespace Go.Proofs.Ytllchikjdpoopaa
open Go Go.RowKit
def once34a_A : List (List Nat) := ([] :: [] :: [] :: [1, 2] :: [3, 1, 2] :: [0, 4, 3, 1, 2] :: [5, 0, 4, 3, 1, 2] :: [6, 5, 0, 4, 3, 1, 2] :: (7 :: 6 :: 5 :: 0 :: 4 :: 3 :: 1 :: 2 :: []) :: (7 :: 6 :: 5 :: 0 :: 4 :: 3 :: 1 :: 2 :: []) :: (8 :: 9 :: 7 :: 6 :: 5 :: 0 :: 4 :: 3 :: 1 :: 2 :: []) :: (10 :: 7 :: 8 :: 9 :: 6 :: 5 :: 0 :: 4 :: 3 :: 1 :: 2 :: []) :: (7 :: 6 :: 5 :: 0 :: 4 :: 3 :: 1 :: 2 :: []) :: (11 :: 12 :: 7 :: 10 :: 8 :: 9 :: 6 :: 5 :: 0 :: 4 :: 3 :: 1 :: 2 :: []) :: (7 :: 13 :: 6 :: 5 :: 0 :: 4 :: 3 :: 1 :: 2 :: 11 :: 12 :: 10 :: 8 :: 9 :: []) :: (14 :: 7 :: 13 :: 6 :: 5 :: 0 :: 4 :: 3 :: 1 :: 2 :: 11 :: 12 :: 10 :: 8 :: 9 :: []) :: (15 :: 14 :: 7 :: 13 :: 6 :: 5 :: 0 :: 4 :: 3 :: 1 :: 2 :: 11 :: 12 :: 10 :: 8 :: 9 :: []) :: (16 :: 15 :: 14 :: 7 :: 13 :: 6 :: 5 :: 0 :: 4 :: 3 :: 1 :: 2 :: 11 :: 12 :: 10 :: 8 :: 9 :: []) :: (17 :: 15 :: 16 :: 14 :: 7 :: 13 :: 6 :: 5 :: 0 :: 4 :: 3 :: 1 :: 2 :: 11 :: 12 :: 10 :: 8 :: 9 :: []) :: (18 :: 17 :: 15 :: 16 :: 14 :: 7 :: 13 :: 6 :: 5 :: 0 :: 4 :: 3 :: 1 :: 2 :: 11 :: 12 :: 10 :: 8 :: 9 :: []) :: (18 :: 17 :: 15 :: 16 :: 14 :: 7 :: 13 :: 6 :: 5 :: 0 :: 4 :: 3 :: 1 :: 2 :: 11 :: 12 :: 10 :: 8 :: 9 :: []) :: (20 :: 18 :: 17 :: 15 :: 16 :: 14 :: 7 :: 13 :: 6 :: 5 :: 0 :: 4 :: 3 :: 1 :: 2 :: 11 :: 12 :: 10 :: 8 :: 9 :: []) :: (19 :: 21 :: 18 :: 17 :: 15 :: 16 :: 14 :: 7 :: 13 :: 6 :: 5 :: 0 :: 4 :: 3 :: 1 :: 2 :: 11 :: 12 :: 10 :: 8 :: 9 :: 20 :: []) :: (22 :: 18 :: 19 :: 21 :: 17 :: 15 :: 16 :: 14 :: 7 :: 13 :: 6 :: 5 :: 0 :: 4 :: 3 :: 1 :: 2 :: 11 :: 12 :: 10 :: 8 :: 9 :: 20 :: []) :: (18 :: 17 :: 15 :: 16 :: 14 :: 7 :: 13 :: 6 :: 5 :: 0 :: 4 :: 3 :: 1 :: 2 :: 11 :: 12 :: 10 :: 8 :: 9 :: []) :: (18 :: 17 :: 15 :: 16 :: 14 :: 7 :: 13 :: 6 :: 5 :: 0 :: 4 :: 3 :: 1 :: 2 :: 11 :: 12 :: 10 :: 8 :: 9 :: []) :: (24 :: 25 :: 18 :: 17 :: 15 :: 16 :: 14 :: 7 :: 13 :: 6 :: 5 :: 0 :: 4 :: 3 :: 1 :: 2 :: 11 :: 12 :: 10 :: 8 :: 9 :: []) :: (26 :: 18 :: 24 :: 25 :: 17 :: 15 :: 16 :: 14 :: 7 :: 13 :: 6 :: 5 :: 0 :: 4 :: 3 :: 1 :: 2 :: 11 :: 12 :: 10 :: 8 :: 9 :: []) :: (23 :: 27 :: 18 :: 22 :: 19 :: 21 :: 17 :: 15 :: 16 :: 14 :: 7 :: 13 :: 6 :: 5 :: 0 :: 4 :: 3 :: 1 :: 2 :: 11 :: 12 :: 10 :: 8 :: 9 :: 20 :: 26 :: 24 :: 25 :: []) :: (18 :: 28 :: 15 :: 17 :: 16 :: 14 :: 7 :: 13 :: 6 :: 5 :: 0 :: 4 :: 3 :: 1 :: 2 :: 11 :: 12 :: 10 :: 8 :: 9 :: 23 :: 27 :: 22 :: 19 :: 21 :: 20 :: 26 :: 24 :: 25 :: []) :: (15 :: 29 :: 14 :: 7 :: 13 :: 6 :: 5 :: 0 :: 4 :: 3 :: 1 :: 2 :: 11 :: 12 :: 10 :: 8 :: 9 :: 18 :: 28 :: 17 :: 16 :: 23 :: 27 :: 22 :: 19 :: 21 :: 20 :: 26 :: 24 :: 25 :: []) :: [])
def once34a_kill : List (List Nat) := ([] :: [] :: [] :: [] :: [] :: [] :: [] :: [] :: [] :: [] :: [] :: [] :: [] :: [] :: [] :: [] :: [] :: [] :: [] :: [] :: [] :: [] :: [] :: [] :: [] :: [] :: [] :: [] :: [] :: [] :: [] :: [])
def once34a_uses : List (List Nat) := ([] :: [] :: [] :: [] :: [] :: [] :: [] :: [] :: [] :: [] :: [] :: [] :: [] :: [] :: [] :: [] :: [] :: [] :: [] :: [] :: [] :: [] :: [] :: [] :: [] :: [] :: [] :: [] :: [] :: [] :: [] :: [])
noncomputable def once34a_code : Code := ((Try.f4.body.bind (codeRegion 34)).getD .skip)
set_option maxRecDepth 100000 in
set_option maxHeartbeats 4000000 in
theorem once34a_in (b gr M cM tp x0 : Nat) (m : Wm) (D : Nat → Nat) (hf : m.Fit) (hlk : m.look x0 = 0) (hM : 0 < M) (hxt : x0 < tp) (u0 u1 u2 u3 u4 u5 u6 u8 u9 u10 u11 u12 u13 u14 u15 u16 u18 u19 u22 u23 u24 u25 u26 u27 u28 u29 u30 u31 u32 u33 u34 u35 u36 u37 u38 u39 u40 u41 u42 u43 u44 u45 u46 u47 u48 u49 u50 u51 u52 u53 u54 u55 u56 u57 u58 u59 u60 u61 u62 u63 u64 u65 u66 u67 u68 u69 u70 u71 u72 u73 u74 u75 u76 u77 u78 u79 u80 u81 u82 u83 u84 u85 u86 u87 u88 u89 u90 u91 u92 u93 u94 u95 u96 u97 u98 u99 u100 u101 u102 u103 u104 u105 u106 u107 u108 u109 u110 u111 u112 u113 u114 u115 u116 u117 u118 u119 u120 u121 u122 u123 u124 u125 u126 u127 u128 u129 u130 u131 u132 u133 u134 u135 u136 u137 u138 u139 u140 u141 u142 u143 u144 u145 u146 u147 u148 u149 u150 u151 u152 u153 u154 u155 u156 u157 u158 u159 u160 u161 u162 u163 u164 u165 u166 u167 u168 u169 u170 u171 u172 u173 u174 u175 u176 u177 u178 u179 u180 u181 u182 u183 u184 u185 u186 u187 u188 u189 u190 u191 u192 u193 u194 u195 u196 u197 u198 u199 : Value) (w0 : World) (hWd : WIs w0 b m D) (hC : w0.cell? ⟨gr, 0, none⟩ = some (.int .u64 (x0 : Int))) (hgw : gr < w0.heap.size) :
    Code.wp Try.prog once34a_code (fun e a w' => ∃ y154 y155 y156 y157 y158 y159 y160 y161 y162 y163 y164 y165 y166 y167 y168 y169 y170 y171 y172 y173 y174 y175 y176 y177 y178 y179 y180 y181 y182 y183 : Value, a = ⟨(List.toArray (u0 :: u1 :: u2 :: u3 :: u4 :: u5 :: u6 :: .pointer (some ⟨b, 0, none⟩) :: u8 :: u9 :: u10 :: u11 :: u12 :: u13 :: u14 :: u15 :: u16 :: .int .u64 (tp : Int) :: u18 :: u19 :: .slice (some ⟨gr, 0, none⟩) M cM :: .int .i64 0 :: u22 :: u23 :: u24 :: u25 :: u26 :: u27 :: u28 :: u29 :: u30 :: u31 :: u32 :: u33 :: u34 :: u35 :: u36 :: u37 :: u38 :: u39 :: u40 :: u41 :: u42 :: u43 :: u44 :: u45 :: u46 :: u47 :: u48 :: u49 :: u50 :: u51 :: u52 :: u53 :: u54 :: u55 :: u56 :: u57 :: u58 :: u59 :: u60 :: u61 :: u62 :: u63 :: u64 :: u65 :: u66 :: u67 :: u68 :: u69 :: u70 :: u71 :: u72 :: u73 :: u74 :: u75 :: u76 :: u77 :: u78 :: u79 :: u80 :: u81 :: u82 :: u83 :: u84 :: u85 :: u86 :: u87 :: u88 :: u89 :: u90 :: u91 :: u92 :: u93 :: u94 :: u95 :: u96 :: u97 :: u98 :: u99 :: u100 :: u101 :: u102 :: u103 :: u104 :: u105 :: u106 :: u107 :: u108 :: u109 :: u110 :: u111 :: u112 :: u113 :: u114 :: u115 :: u116 :: u117 :: u118 :: u119 :: u120 :: u121 :: u122 :: u123 :: u124 :: u125 :: u126 :: u127 :: u128 :: u129 :: u130 :: u131 :: u132 :: u133 :: u134 :: u135 :: u136 :: u137 :: u138 :: u139 :: u140 :: u141 :: u142 :: u143 :: u144 :: u145 :: u146 :: u147 :: u148 :: u149 :: u150 :: u151 :: u152 :: u153 :: y154 :: y155 :: y156 :: y157 :: y158 :: y159 :: y160 :: y161 :: y162 :: y163 :: y164 :: y165 :: y166 :: y167 :: y168 :: y169 :: y170 :: y171 :: y172 :: y173 :: y174 :: y175 :: y176 :: y177 :: y178 :: y179 :: y180 :: y181 :: y182 :: y183 :: .bool false :: u185 :: u186 :: u187 :: u188 :: u189 :: u190 :: u191 :: u192 :: u193 :: u194 :: u195 :: u196 :: u197 :: u198 :: u199 :: [])), []⟩ ∧ e = .normal ∧ Only (fun _ => False) w0 w') ⟨(List.toArray (u0 :: u1 :: u2 :: u3 :: u4 :: u5 :: u6 :: .pointer (some ⟨b, 0, none⟩) :: u8 :: u9 :: u10 :: u11 :: u12 :: u13 :: u14 :: u15 :: u16 :: .int .u64 (tp : Int) :: u18 :: u19 :: .slice (some ⟨gr, 0, none⟩) M cM :: .int .i64 0 :: u22 :: u23 :: u24 :: u25 :: u26 :: u27 :: u28 :: u29 :: u30 :: u31 :: u32 :: u33 :: u34 :: u35 :: u36 :: u37 :: u38 :: u39 :: u40 :: u41 :: u42 :: u43 :: u44 :: u45 :: u46 :: u47 :: u48 :: u49 :: u50 :: u51 :: u52 :: u53 :: u54 :: u55 :: u56 :: u57 :: u58 :: u59 :: u60 :: u61 :: u62 :: u63 :: u64 :: u65 :: u66 :: u67 :: u68 :: u69 :: u70 :: u71 :: u72 :: u73 :: u74 :: u75 :: u76 :: u77 :: u78 :: u79 :: u80 :: u81 :: u82 :: u83 :: u84 :: u85 :: u86 :: u87 :: u88 :: u89 :: u90 :: u91 :: u92 :: u93 :: u94 :: u95 :: u96 :: u97 :: u98 :: u99 :: u100 :: u101 :: u102 :: u103 :: u104 :: u105 :: u106 :: u107 :: u108 :: u109 :: u110 :: u111 :: u112 :: u113 :: u114 :: u115 :: u116 :: u117 :: u118 :: u119 :: u120 :: u121 :: u122 :: u123 :: u124 :: u125 :: u126 :: u127 :: u128 :: u129 :: u130 :: u131 :: u132 :: u133 :: u134 :: u135 :: u136 :: u137 :: u138 :: u139 :: u140 :: u141 :: u142 :: u143 :: u144 :: u145 :: u146 :: u147 :: u148 :: u149 :: u150 :: u151 :: u152 :: u153 :: u154 :: u155 :: u156 :: u157 :: u158 :: u159 :: u160 :: u161 :: u162 :: u163 :: u164 :: u165 :: u166 :: u167 :: u168 :: u169 :: u170 :: u171 :: u172 :: u173 :: u174 :: u175 :: u176 :: u177 :: u178 :: u179 :: u180 :: u181 :: u182 :: u183 :: u184 :: u185 :: u186 :: u187 :: u188 :: u189 :: u190 :: u191 :: u192 :: u193 :: u194 :: u195 :: u196 :: u197 :: u198 :: u199 :: [])), []⟩ w0 := by
  conv => arg 2; whnf
  have hMI : (0 : Int) < (M : Int) := by omega
  have hxI : ¬ (tp : Int) ≤ (x0 : Int) := by omega
  have hxN : ¬ tp ≤ x0 := by omega
  have HLK := Lib.hid (show ∀ wx, Only (fun _ => False) w0 wx → Calls Try.prog 9 #[ptr b, .int .u64 (x0 : Int)] wx (Says (.int .i64 0) wx) from fun wx h => by
    have := look_is b x0 m D wx (hWd.only h (by simp)) hf
    rwa [hlk] at this)
  clear hlk hWd
  refine wp_region_posts once34a_A [5] [] once34a_kill once34a_uses [] [] [] []
      (some ?v0 :: some ?v1 :: some ?v2 :: some ?v3 :: some ?v4 :: some (.int .i64 0) :: some ?v6 :: some ?v7 :: some ?v8 :: some ?v9 :: some ?v10 :: some ?v11 :: some ?v12 :: some ?v13 :: some ?v14 :: some ?v15 :: some ?v16 :: some ?v17 :: some ?v18 :: some undef :: some undef :: some undef :: some undef :: some undef :: some undef :: some undef :: some undef :: some undef :: some undef :: some ?v29 :: some ?v30 :: [])
      ?T (fun wx => Only (fun _ => False) w0 wx) ?W ?E (by kernel_rfl) (by kernel_rfl) (by kernel_rfl) (fun x => ?hT) ?hF ?hini (Reg.all_ops ?runs) ?pres ?fin
  case W => exact fun j x wz => True
  case E => exact fun i wx wy => True
  case hT =>
    simp only [Reg.fillV, Act.put, List.setIfInBounds_toArray, List.set_cons_zero, List.set_cons_succ]
    rfl
  case runs =>
    refine And.intro ?_ ?_
    · refine Reg.ob_pure (fun _ => rfl) rfl rfl rfl rfl (fun x w1 hF => ?_)
      go_simp
      with_reducible rfl
    refine And.intro ?_ ?_
    · refine Reg.ob_pure (fun _ => rfl) rfl rfl rfl rfl (fun x w1 hF => ?_)
      go_simp
      with_reducible rfl
    refine And.intro ?_ ?_
    · refine Reg.ob_pure (fun _ => rfl) rfl rfl rfl rfl (fun x w1 hF => ?_)
      go_simp
      with_reducible rfl
    refine And.intro ?_ ?_
    · refine Reg.ob_pure (fun _ => rfl) rfl rfl rfl rfl (fun x w1 hF => ?_)
      go_simp
      with_reducible rfl
    refine And.intro ?_ ?_
    · refine Reg.ob_pure (fun _ => rfl) rfl rfl rfl rfl (fun x w1 hF => ?_)
      have c0 := (hF.cell (p := ⟨gr, 0, none⟩) hgw (by simp)).trans hC
      go_simp
      with_reducible rfl
    refine And.intro ?_ ?_
    · refine Reg.ob_known (fun _ => rfl) rfl rfl (fun x w1 hF hU K hK => ?_)
      have hF := hF rfl
      go_simp
      refine (HLK.out w1 hF).mono ?_
      rintro e w5 ⟨rfl, ho⟩
      exact hK _ (fun _ _ _ => hF.trans ho (fun _ _ e => e)) trivial
    refine And.intro ?_ ?_
    · refine Reg.ob_pure (fun _ => rfl) rfl rfl rfl rfl (fun x w1 hF => ?_)
      go_simp
      with_reducible rfl
    refine And.intro ?_ ?_
    · refine Reg.ob_pure (fun _ => rfl) rfl rfl rfl rfl (fun x w1 hF => ?_)
      go_simp
      with_reducible rfl
    refine And.intro ?_ ?_
    · refine Reg.ob_pure (fun _ => rfl) rfl rfl rfl rfl (fun x w1 hF => ?_)
      go_simp
      with_reducible rfl
    refine And.intro ?_ ?_
    · refine Reg.ob_pure (fun _ => rfl) rfl rfl rfl rfl (fun x w1 hF => ?_)
      go_simp
      with_reducible rfl
    refine And.intro ?_ ?_
    · refine Reg.ob_pure (fun _ => rfl) rfl rfl rfl rfl (fun x w1 hF => ?_)
      go_simp
      with_reducible rfl
    refine And.intro ?_ ?_
    · refine Reg.ob_pure (fun _ => rfl) rfl rfl rfl rfl (fun x w1 hF => ?_)
      have c0 := (hF.cell (p := ⟨gr, 0, none⟩) hgw (by simp)).trans hC
      go_simp
      with_reducible rfl
    refine And.intro ?_ ?_
    · refine Reg.ob_pure (fun _ => rfl) rfl rfl rfl rfl (fun x w1 hF => ?_)
      go_simp
      with_reducible rfl
    refine And.intro ?_ ?_
    · refine Reg.ob_pure (fun _ => rfl) rfl rfl rfl rfl (fun x w1 hF => ?_)
      go_simp
      with_reducible rfl
    refine And.intro ?_ ?_
    · refine Reg.ob_pure (fun _ => rfl) rfl rfl rfl rfl (fun x w1 hF => ?_)
      go_simp
      with_reducible rfl
    refine And.intro ?_ ?_
    · refine Reg.ob_pure (fun _ => rfl) rfl rfl rfl rfl (fun x w1 hF => ?_)
      go_simp
      with_reducible rfl
    refine And.intro ?_ ?_
    · refine Reg.ob_pure (fun _ => rfl) rfl rfl rfl rfl (fun x w1 hF => ?_)
      go_simp
      with_reducible rfl
    refine And.intro ?_ ?_
    · refine Reg.ob_pure (fun _ => rfl) rfl rfl rfl rfl (fun x w1 hF => ?_)
      go_simp
      with_reducible rfl
    refine And.intro ?_ ?_
    · refine Reg.ob_pure (fun _ => rfl) rfl rfl rfl rfl (fun x w1 hF => ?_)
      go_simp
      with_reducible rfl
    refine And.intro ?_ ?_
    · exact Reg.ob_skip (fun _ => rfl) rfl rfl rfl
    refine And.intro ?_ ?_
    · exact Reg.ob_skip (fun _ => rfl) rfl rfl rfl
    refine And.intro ?_ ?_
    · exact Reg.ob_skip (fun _ => rfl) rfl rfl rfl
    refine And.intro ?_ ?_
    · exact Reg.ob_skip (fun _ => rfl) rfl rfl rfl
    refine And.intro ?_ ?_
    · exact Reg.ob_skip (fun _ => rfl) rfl rfl rfl
    refine And.intro ?_ ?_
    · exact Reg.ob_skip (fun _ => rfl) rfl rfl rfl
    refine And.intro ?_ ?_
    · exact Reg.ob_skip (fun _ => rfl) rfl rfl rfl
    refine And.intro ?_ ?_
    · exact Reg.ob_skip (fun _ => rfl) rfl rfl rfl
    refine And.intro ?_ ?_
    · exact Reg.ob_skip (fun _ => rfl) rfl rfl rfl
    refine And.intro ?_ ?_
    · exact Reg.ob_skip (fun _ => rfl) rfl rfl rfl
    refine And.intro ?_ ?_
    · refine Reg.ob_pure (fun _ => rfl) rfl rfl rfl rfl (fun x w1 hF => ?_)
      go_simp
      with_reducible rfl
    refine And.intro ?_ ?_
    · refine Reg.ob_pure (fun _ => rfl) rfl rfl rfl rfl (fun x w1 hF => ?_)
      go_simp
      with_reducible rfl
    exact trivial
  case hF =>
    exact onlyN w0 1
  case hini =>
    exact trivial
  case pres =>
    intro i hi j hj hc x wx wy hF hE hW
    trivial
  case fin =>
    rintro x w9 hF hU
    repeat apply Exists.intro
    exact ⟨rfl, rfl, hF rfl⟩

set_option maxRecDepth 100000 in
set_option maxHeartbeats 4000000 in
theorem once34a (b gr M cM tp x0 : Nat) (m : Wm) (D : Nat → Nat) (hf : m.Fit) (hlk : m.look x0 = 0) (hM : 0 < M) (hxt : x0 < tp) (u0 u1 u2 u3 u4 u5 u6 u8 u9 u10 u11 u12 u13 u14 u15 u16 u18 u19 u22 u23 u24 u25 u26 u27 u28 u29 u30 u31 u32 u33 u34 u35 u36 u37 u38 u39 u40 u41 u42 u43 u44 u45 u46 u47 u48 u49 u50 u51 u52 u53 u54 u55 u56 u57 u58 u59 u60 u61 u62 u63 u64 u65 u66 u67 u68 u69 u70 u71 u72 u73 u74 u75 u76 u77 u78 u79 u80 u81 u82 u83 u84 u85 u86 u87 u88 u89 u90 u91 u92 u93 u94 u95 u96 u97 u98 u99 u100 u101 u102 u103 u104 u105 u106 u107 u108 u109 u110 u111 u112 u113 u114 u115 u116 u117 u118 u119 u120 u121 u122 u123 u124 u125 u126 u127 u128 u129 u130 u131 u132 u133 u134 u135 u136 u137 u138 u139 u140 u141 u142 u143 u144 u145 u146 u147 u148 u149 u150 u151 u152 u153 u154 u155 u156 u157 u158 u159 u160 u161 u162 u163 u164 u165 u166 u167 u168 u169 u170 u171 u172 u173 u174 u175 u176 u177 u178 u179 u180 u181 u182 u183 u184 u185 u186 u187 u188 u189 u190 u191 u192 u193 u194 u195 u196 u197 u198 u199 : Value) (Q : Exit → Act → World → Prop) (w0 : World) (hWd : WIs w0 b m D) (hC : w0.cell? ⟨gr, 0, none⟩ = some (.int .u64 (x0 : Int))) (hgw : gr < w0.heap.size)
    (hend : ∀ (y154 y155 y156 y157 y158 y159 y160 y161 y162 y163 y164 y165 y166 y167 y168 y169 y170 y171 y172 y173 y174 y175 y176 y177 y178 y179 y180 y181 y182 y183 : Value) (w' : World), Only (fun _ => False) w0 w' → Q .normal ⟨(List.toArray (u0 :: u1 :: u2 :: u3 :: u4 :: u5 :: u6 :: .pointer (some ⟨b, 0, none⟩) :: u8 :: u9 :: u10 :: u11 :: u12 :: u13 :: u14 :: u15 :: u16 :: .int .u64 (tp : Int) :: u18 :: u19 :: .slice (some ⟨gr, 0, none⟩) M cM :: .int .i64 0 :: u22 :: u23 :: u24 :: u25 :: u26 :: u27 :: u28 :: u29 :: u30 :: u31 :: u32 :: u33 :: u34 :: u35 :: u36 :: u37 :: u38 :: u39 :: u40 :: u41 :: u42 :: u43 :: u44 :: u45 :: u46 :: u47 :: u48 :: u49 :: u50 :: u51 :: u52 :: u53 :: u54 :: u55 :: u56 :: u57 :: u58 :: u59 :: u60 :: u61 :: u62 :: u63 :: u64 :: u65 :: u66 :: u67 :: u68 :: u69 :: u70 :: u71 :: u72 :: u73 :: u74 :: u75 :: u76 :: u77 :: u78 :: u79 :: u80 :: u81 :: u82 :: u83 :: u84 :: u85 :: u86 :: u87 :: u88 :: u89 :: u90 :: u91 :: u92 :: u93 :: u94 :: u95 :: u96 :: u97 :: u98 :: u99 :: u100 :: u101 :: u102 :: u103 :: u104 :: u105 :: u106 :: u107 :: u108 :: u109 :: u110 :: u111 :: u112 :: u113 :: u114 :: u115 :: u116 :: u117 :: u118 :: u119 :: u120 :: u121 :: u122 :: u123 :: u124 :: u125 :: u126 :: u127 :: u128 :: u129 :: u130 :: u131 :: u132 :: u133 :: u134 :: u135 :: u136 :: u137 :: u138 :: u139 :: u140 :: u141 :: u142 :: u143 :: u144 :: u145 :: u146 :: u147 :: u148 :: u149 :: u150 :: u151 :: u152 :: u153 :: y154 :: y155 :: y156 :: y157 :: y158 :: y159 :: y160 :: y161 :: y162 :: y163 :: y164 :: y165 :: y166 :: y167 :: y168 :: y169 :: y170 :: y171 :: y172 :: y173 :: y174 :: y175 :: y176 :: y177 :: y178 :: y179 :: y180 :: y181 :: y182 :: y183 :: .bool false :: u185 :: u186 :: u187 :: u188 :: u189 :: u190 :: u191 :: u192 :: u193 :: u194 :: u195 :: u196 :: u197 :: u198 :: u199 :: [])), []⟩ w') :
    Code.wp Try.prog once34a_code Q ⟨(List.toArray (u0 :: u1 :: u2 :: u3 :: u4 :: u5 :: u6 :: .pointer (some ⟨b, 0, none⟩) :: u8 :: u9 :: u10 :: u11 :: u12 :: u13 :: u14 :: u15 :: u16 :: .int .u64 (tp : Int) :: u18 :: u19 :: .slice (some ⟨gr, 0, none⟩) M cM :: .int .i64 0 :: u22 :: u23 :: u24 :: u25 :: u26 :: u27 :: u28 :: u29 :: u30 :: u31 :: u32 :: u33 :: u34 :: u35 :: u36 :: u37 :: u38 :: u39 :: u40 :: u41 :: u42 :: u43 :: u44 :: u45 :: u46 :: u47 :: u48 :: u49 :: u50 :: u51 :: u52 :: u53 :: u54 :: u55 :: u56 :: u57 :: u58 :: u59 :: u60 :: u61 :: u62 :: u63 :: u64 :: u65 :: u66 :: u67 :: u68 :: u69 :: u70 :: u71 :: u72 :: u73 :: u74 :: u75 :: u76 :: u77 :: u78 :: u79 :: u80 :: u81 :: u82 :: u83 :: u84 :: u85 :: u86 :: u87 :: u88 :: u89 :: u90 :: u91 :: u92 :: u93 :: u94 :: u95 :: u96 :: u97 :: u98 :: u99 :: u100 :: u101 :: u102 :: u103 :: u104 :: u105 :: u106 :: u107 :: u108 :: u109 :: u110 :: u111 :: u112 :: u113 :: u114 :: u115 :: u116 :: u117 :: u118 :: u119 :: u120 :: u121 :: u122 :: u123 :: u124 :: u125 :: u126 :: u127 :: u128 :: u129 :: u130 :: u131 :: u132 :: u133 :: u134 :: u135 :: u136 :: u137 :: u138 :: u139 :: u140 :: u141 :: u142 :: u143 :: u144 :: u145 :: u146 :: u147 :: u148 :: u149 :: u150 :: u151 :: u152 :: u153 :: u154 :: u155 :: u156 :: u157 :: u158 :: u159 :: u160 :: u161 :: u162 :: u163 :: u164 :: u165 :: u166 :: u167 :: u168 :: u169 :: u170 :: u171 :: u172 :: u173 :: u174 :: u175 :: u176 :: u177 :: u178 :: u179 :: u180 :: u181 :: u182 :: u183 :: u184 :: u185 :: u186 :: u187 :: u188 :: u189 :: u190 :: u191 :: u192 :: u193 :: u194 :: u195 :: u196 :: u197 :: u198 :: u199 :: [])), []⟩ w0 := by
  refine wp_mono (once34a_in b gr M cM tp x0 m D hf hlk hM hxt _ _ _ _ _ _ _ _ _ _ _ _ _ _ _ _ _ _ _ _ _ _ _ _ _ _ _ _ _ _ _ _ _ _ _ _ _ _ _ _ _ _ _ _ _ _ _ _ _ _ _ _ _ _ _ _ _ _ _ _ _ _ _ _ _ _ _ _ _ _ _ _ _ _ _ _ _ _ _ _ _ _ _ _ _ _ _ _ _ _ _ _ _ _ _ _ _ _ _ _ _ _ _ _ _ _ _ _ _ _ _ _ _ _ _ _ _ _ _ _ _ _ _ _ _ _ _ _ _ _ _ _ _ _ _ _ _ _ _ _ _ _ _ _ _ _ _ _ _ _ _ _ _ _ _ _ _ _ _ _ _ _ _ _ _ _ _ _ _ _ _ _ _ _ _ _ _ _ _ _ _ _ _ _ _ _ _ _ _ _ _ _ _ _ _ _ w0 hWd hC hgw) ?_
  rintro e a w' h
  obtain ⟨y154, h⟩ := h
  obtain ⟨y155, h⟩ := h
  obtain ⟨y156, h⟩ := h
  obtain ⟨y157, h⟩ := h
  obtain ⟨y158, h⟩ := h
  obtain ⟨y159, h⟩ := h
  obtain ⟨y160, h⟩ := h
  obtain ⟨y161, h⟩ := h
  obtain ⟨y162, h⟩ := h
  obtain ⟨y163, h⟩ := h
  obtain ⟨y164, h⟩ := h
  obtain ⟨y165, h⟩ := h
  obtain ⟨y166, h⟩ := h
  obtain ⟨y167, h⟩ := h
  obtain ⟨y168, h⟩ := h
  obtain ⟨y169, h⟩ := h
  obtain ⟨y170, h⟩ := h
  obtain ⟨y171, h⟩ := h
  obtain ⟨y172, h⟩ := h
  obtain ⟨y173, h⟩ := h
  obtain ⟨y174, h⟩ := h
  obtain ⟨y175, h⟩ := h
  obtain ⟨y176, h⟩ := h
  obtain ⟨y177, h⟩ := h
  obtain ⟨y178, h⟩ := h
  obtain ⟨y179, h⟩ := h
  obtain ⟨y180, h⟩ := h
  obtain ⟨y181, h⟩ := h
  obtain ⟨y182, h⟩ := h
  obtain ⟨y183, h⟩ := h
  obtain ⟨h, rfl, hq⟩ := h
  subst h
  exact hend y154 y155 y156 y157 y158 y159 y160 y161 y162 y163 y164 y165 y166 y167 y168 y169 y170 y171 y172 y173 y174 y175 y176 y177 y178 y179 y180 y181 y182 y183 w' hq
def once34b_A : List (List Nat) := ([] :: [] :: [] :: [1, 2] :: [3, 1, 2] :: [0, 4, 3, 1, 2] :: [5, 0, 4, 3, 1, 2] :: [6, 5, 0, 4, 3, 1, 2] :: (7 :: 6 :: 5 :: 0 :: 4 :: 3 :: 1 :: 2 :: []) :: (7 :: 6 :: 5 :: 0 :: 4 :: 3 :: 1 :: 2 :: []) :: (8 :: 9 :: 7 :: 6 :: 5 :: 0 :: 4 :: 3 :: 1 :: 2 :: []) :: (10 :: 7 :: 8 :: 9 :: 6 :: 5 :: 0 :: 4 :: 3 :: 1 :: 2 :: []) :: (7 :: 6 :: 5 :: 0 :: 4 :: 3 :: 1 :: 2 :: []) :: (11 :: 12 :: 7 :: 10 :: 8 :: 9 :: 6 :: 5 :: 0 :: 4 :: 3 :: 1 :: 2 :: []) :: (7 :: 13 :: 6 :: 5 :: 0 :: 4 :: 3 :: 1 :: 2 :: 11 :: 12 :: 10 :: 8 :: 9 :: []) :: (14 :: 7 :: 13 :: 6 :: 5 :: 0 :: 4 :: 3 :: 1 :: 2 :: 11 :: 12 :: 10 :: 8 :: 9 :: []) :: (15 :: 14 :: 7 :: 13 :: 6 :: 5 :: 0 :: 4 :: 3 :: 1 :: 2 :: 11 :: 12 :: 10 :: 8 :: 9 :: []) :: (16 :: 15 :: 14 :: 7 :: 13 :: 6 :: 5 :: 0 :: 4 :: 3 :: 1 :: 2 :: 11 :: 12 :: 10 :: 8 :: 9 :: []) :: (17 :: 15 :: 16 :: 14 :: 7 :: 13 :: 6 :: 5 :: 0 :: 4 :: 3 :: 1 :: 2 :: 11 :: 12 :: 10 :: 8 :: 9 :: []) :: (18 :: 17 :: 15 :: 16 :: 14 :: 7 :: 13 :: 6 :: 5 :: 0 :: 4 :: 3 :: 1 :: 2 :: 11 :: 12 :: 10 :: 8 :: 9 :: []) :: (18 :: 17 :: 15 :: 16 :: 14 :: 7 :: 13 :: 6 :: 5 :: 0 :: 4 :: 3 :: 1 :: 2 :: 11 :: 12 :: 10 :: 8 :: 9 :: []) :: (20 :: 18 :: 17 :: 15 :: 16 :: 14 :: 7 :: 13 :: 6 :: 5 :: 0 :: 4 :: 3 :: 1 :: 2 :: 11 :: 12 :: 10 :: 8 :: 9 :: []) :: (19 :: 21 :: 18 :: 17 :: 15 :: 16 :: 14 :: 7 :: 13 :: 6 :: 5 :: 0 :: 4 :: 3 :: 1 :: 2 :: 11 :: 12 :: 10 :: 8 :: 9 :: 20 :: []) :: (22 :: 18 :: 19 :: 21 :: 17 :: 15 :: 16 :: 14 :: 7 :: 13 :: 6 :: 5 :: 0 :: 4 :: 3 :: 1 :: 2 :: 11 :: 12 :: 10 :: 8 :: 9 :: 20 :: []) :: (18 :: 17 :: 15 :: 16 :: 14 :: 7 :: 13 :: 6 :: 5 :: 0 :: 4 :: 3 :: 1 :: 2 :: 11 :: 12 :: 10 :: 8 :: 9 :: []) :: (18 :: 17 :: 15 :: 16 :: 14 :: 7 :: 13 :: 6 :: 5 :: 0 :: 4 :: 3 :: 1 :: 2 :: 11 :: 12 :: 10 :: 8 :: 9 :: []) :: (24 :: 25 :: 18 :: 17 :: 15 :: 16 :: 14 :: 7 :: 13 :: 6 :: 5 :: 0 :: 4 :: 3 :: 1 :: 2 :: 11 :: 12 :: 10 :: 8 :: 9 :: []) :: (26 :: 18 :: 24 :: 25 :: 17 :: 15 :: 16 :: 14 :: 7 :: 13 :: 6 :: 5 :: 0 :: 4 :: 3 :: 1 :: 2 :: 11 :: 12 :: 10 :: 8 :: 9 :: []) :: (23 :: 27 :: 18 :: 22 :: 19 :: 21 :: 17 :: 15 :: 16 :: 14 :: 7 :: 13 :: 6 :: 5 :: 0 :: 4 :: 3 :: 1 :: 2 :: 11 :: 12 :: 10 :: 8 :: 9 :: 20 :: 26 :: 24 :: 25 :: []) :: (18 :: 28 :: 15 :: 17 :: 16 :: 14 :: 7 :: 13 :: 6 :: 5 :: 0 :: 4 :: 3 :: 1 :: 2 :: 11 :: 12 :: 10 :: 8 :: 9 :: 23 :: 27 :: 22 :: 19 :: 21 :: 20 :: 26 :: 24 :: 25 :: []) :: (15 :: 29 :: 14 :: 7 :: 13 :: 6 :: 5 :: 0 :: 4 :: 3 :: 1 :: 2 :: 11 :: 12 :: 10 :: 8 :: 9 :: 18 :: 28 :: 17 :: 16 :: 23 :: 27 :: 22 :: 19 :: 21 :: 20 :: 26 :: 24 :: 25 :: []) :: [])
def once34b_kill : List (List Nat) := ([] :: [] :: [] :: [] :: [] :: [] :: [] :: [] :: [] :: [] :: [] :: [] :: [] :: [] :: [] :: [] :: [] :: [] :: [] :: [] :: [] :: [] :: [] :: [] :: [] :: [] :: [] :: [] :: [] :: [] :: [] :: [])
def once34b_uses : List (List Nat) := ([] :: [] :: [] :: [] :: [] :: [] :: [] :: [] :: [] :: [] :: [] :: [] :: [] :: [] :: [] :: [] :: [] :: [] :: [] :: [] :: [] :: [] :: [] :: [] :: [] :: [] :: [] :: [] :: [] :: [] :: [] :: [])
noncomputable def once34b_code : Code := ((Try.f4.body.bind (codeRegion 34)).getD .skip)
set_option maxRecDepth 100000 in
set_option maxHeartbeats 4000000 in
theorem once34b_in (b gr M cM tp x0 x1 j : Nat) (m : Wm) (D : Nat → Nat) (hf : m.Fit) (hlk : m.look x0 = 0) (hM : j < M) (hj : 0 < j) (hxt : x0 < tp) (hx1 : x1 < x0) (hjj : IntKind.i64.wrap ((j : Int) - 1) = ((j - 1 : Nat) : Int)) (u0 u1 u2 u3 u4 u5 u6 u8 u9 u10 u11 u12 u13 u14 u15 u16 u18 u19 u22 u23 u24 u25 u26 u27 u28 u29 u30 u31 u32 u33 u34 u35 u36 u37 u38 u39 u40 u41 u42 u43 u44 u45 u46 u47 u48 u49 u50 u51 u52 u53 u54 u55 u56 u57 u58 u59 u60 u61 u62 u63 u64 u65 u66 u67 u68 u69 u70 u71 u72 u73 u74 u75 u76 u77 u78 u79 u80 u81 u82 u83 u84 u85 u86 u87 u88 u89 u90 u91 u92 u93 u94 u95 u96 u97 u98 u99 u100 u101 u102 u103 u104 u105 u106 u107 u108 u109 u110 u111 u112 u113 u114 u115 u116 u117 u118 u119 u120 u121 u122 u123 u124 u125 u126 u127 u128 u129 u130 u131 u132 u133 u134 u135 u136 u137 u138 u139 u140 u141 u142 u143 u144 u145 u146 u147 u148 u149 u150 u151 u152 u153 u154 u155 u156 u157 u158 u159 u160 u161 u162 u163 u164 u165 u166 u167 u168 u169 u170 u171 u172 u173 u174 u175 u176 u177 u178 u179 u180 u181 u182 u183 u184 u185 u186 u187 u188 u189 u190 u191 u192 u193 u194 u195 u196 u197 u198 u199 : Value) (w0 : World) (hWd : WIs w0 b m D) (hC : w0.cell? ⟨gr, j, none⟩ = some (.int .u64 (x0 : Int))) (hC1 : w0.cell? ⟨gr, j - 1, none⟩ = some (.int .u64 (x1 : Int))) (hgw : gr < w0.heap.size) :
    Code.wp Try.prog once34b_code (fun e a w' => ∃ y154 y155 y156 y157 y158 y159 y160 y161 y162 y163 y164 y165 y166 y167 y168 y169 y170 y171 y172 y173 y174 y175 y176 y177 y178 y179 y180 y181 y182 y183 : Value, a = ⟨(List.toArray (u0 :: u1 :: u2 :: u3 :: u4 :: u5 :: u6 :: .pointer (some ⟨b, 0, none⟩) :: u8 :: u9 :: u10 :: u11 :: u12 :: u13 :: u14 :: u15 :: u16 :: .int .u64 (tp : Int) :: u18 :: u19 :: .slice (some ⟨gr, 0, none⟩) M cM :: .int .i64 (j : Int) :: u22 :: u23 :: u24 :: u25 :: u26 :: u27 :: u28 :: u29 :: u30 :: u31 :: u32 :: u33 :: u34 :: u35 :: u36 :: u37 :: u38 :: u39 :: u40 :: u41 :: u42 :: u43 :: u44 :: u45 :: u46 :: u47 :: u48 :: u49 :: u50 :: u51 :: u52 :: u53 :: u54 :: u55 :: u56 :: u57 :: u58 :: u59 :: u60 :: u61 :: u62 :: u63 :: u64 :: u65 :: u66 :: u67 :: u68 :: u69 :: u70 :: u71 :: u72 :: u73 :: u74 :: u75 :: u76 :: u77 :: u78 :: u79 :: u80 :: u81 :: u82 :: u83 :: u84 :: u85 :: u86 :: u87 :: u88 :: u89 :: u90 :: u91 :: u92 :: u93 :: u94 :: u95 :: u96 :: u97 :: u98 :: u99 :: u100 :: u101 :: u102 :: u103 :: u104 :: u105 :: u106 :: u107 :: u108 :: u109 :: u110 :: u111 :: u112 :: u113 :: u114 :: u115 :: u116 :: u117 :: u118 :: u119 :: u120 :: u121 :: u122 :: u123 :: u124 :: u125 :: u126 :: u127 :: u128 :: u129 :: u130 :: u131 :: u132 :: u133 :: u134 :: u135 :: u136 :: u137 :: u138 :: u139 :: u140 :: u141 :: u142 :: u143 :: u144 :: u145 :: u146 :: u147 :: u148 :: u149 :: u150 :: u151 :: u152 :: u153 :: y154 :: y155 :: y156 :: y157 :: y158 :: y159 :: y160 :: y161 :: y162 :: y163 :: y164 :: y165 :: y166 :: y167 :: y168 :: y169 :: y170 :: y171 :: y172 :: y173 :: y174 :: y175 :: y176 :: y177 :: y178 :: y179 :: y180 :: y181 :: y182 :: y183 :: .bool false :: u185 :: u186 :: u187 :: u188 :: u189 :: u190 :: u191 :: u192 :: u193 :: u194 :: u195 :: u196 :: u197 :: u198 :: u199 :: [])), []⟩ ∧ e = .normal ∧ Only (fun _ => False) w0 w') ⟨(List.toArray (u0 :: u1 :: u2 :: u3 :: u4 :: u5 :: u6 :: .pointer (some ⟨b, 0, none⟩) :: u8 :: u9 :: u10 :: u11 :: u12 :: u13 :: u14 :: u15 :: u16 :: .int .u64 (tp : Int) :: u18 :: u19 :: .slice (some ⟨gr, 0, none⟩) M cM :: .int .i64 (j : Int) :: u22 :: u23 :: u24 :: u25 :: u26 :: u27 :: u28 :: u29 :: u30 :: u31 :: u32 :: u33 :: u34 :: u35 :: u36 :: u37 :: u38 :: u39 :: u40 :: u41 :: u42 :: u43 :: u44 :: u45 :: u46 :: u47 :: u48 :: u49 :: u50 :: u51 :: u52 :: u53 :: u54 :: u55 :: u56 :: u57 :: u58 :: u59 :: u60 :: u61 :: u62 :: u63 :: u64 :: u65 :: u66 :: u67 :: u68 :: u69 :: u70 :: u71 :: u72 :: u73 :: u74 :: u75 :: u76 :: u77 :: u78 :: u79 :: u80 :: u81 :: u82 :: u83 :: u84 :: u85 :: u86 :: u87 :: u88 :: u89 :: u90 :: u91 :: u92 :: u93 :: u94 :: u95 :: u96 :: u97 :: u98 :: u99 :: u100 :: u101 :: u102 :: u103 :: u104 :: u105 :: u106 :: u107 :: u108 :: u109 :: u110 :: u111 :: u112 :: u113 :: u114 :: u115 :: u116 :: u117 :: u118 :: u119 :: u120 :: u121 :: u122 :: u123 :: u124 :: u125 :: u126 :: u127 :: u128 :: u129 :: u130 :: u131 :: u132 :: u133 :: u134 :: u135 :: u136 :: u137 :: u138 :: u139 :: u140 :: u141 :: u142 :: u143 :: u144 :: u145 :: u146 :: u147 :: u148 :: u149 :: u150 :: u151 :: u152 :: u153 :: u154 :: u155 :: u156 :: u157 :: u158 :: u159 :: u160 :: u161 :: u162 :: u163 :: u164 :: u165 :: u166 :: u167 :: u168 :: u169 :: u170 :: u171 :: u172 :: u173 :: u174 :: u175 :: u176 :: u177 :: u178 :: u179 :: u180 :: u181 :: u182 :: u183 :: u184 :: u185 :: u186 :: u187 :: u188 :: u189 :: u190 :: u191 :: u192 :: u193 :: u194 :: u195 :: u196 :: u197 :: u198 :: u199 :: [])), []⟩ w0 := by
  conv => arg 2; whnf
  have hMI : (j : Int) < (M : Int) := by omega
  have hjI : (0 : Int) < (j : Int) := by omega
  have hjM : ((j - 1 : Nat) : Int) < (M : Int) := by omega
  have hxI : ¬ (tp : Int) ≤ (x0 : Int) := by omega
  have hxN : ¬ tp ≤ x0 := by omega
  have hx1N : ¬ x0 ≤ x1 := by omega
  have hx1I : ¬ (x0 : Int) ≤ (x1 : Int) := by omega
  have HLK := Lib.hid (show ∀ wx, Only (fun _ => False) w0 wx → Calls Try.prog 9 #[ptr b, .int .u64 (x0 : Int)] wx (Says (.int .i64 0) wx) from fun wx h => by
    have := look_is b x0 m D wx (hWd.only h (by simp)) hf
    rwa [hlk] at this)
  clear hlk hWd
  refine wp_region_posts once34b_A [5] [] once34b_kill once34b_uses [] [] [] []
      (some ?v0 :: some ?v1 :: some ?v2 :: some ?v3 :: some ?v4 :: some (.int .i64 0) :: some ?v6 :: some ?v7 :: some ?v8 :: some ?v9 :: some ?v10 :: some ?v11 :: some ?v12 :: some ?v13 :: some ?v14 :: some ?v15 :: some ?v16 :: some ?v17 :: some ?v18 :: some ?v19 :: some ?v20 :: some ?v21 :: some ?v22 :: some ?v23 :: some ?v24 :: some ?v25 :: some ?v26 :: some ?v27 :: some ?v28 :: some ?v29 :: some ?v30 :: [])
      ?T (fun wx => Only (fun _ => False) w0 wx) ?W ?E (by kernel_rfl) (by kernel_rfl) (by kernel_rfl) (fun x => ?hT) ?hF ?hini (Reg.all_ops ?runs) ?pres ?fin
  case W => exact fun j x wz => True
  case E => exact fun i wx wy => True
  case hT =>
    simp only [Reg.fillV, Act.put, List.setIfInBounds_toArray, List.set_cons_zero, List.set_cons_succ]
    rfl
  case runs =>
    refine And.intro ?_ ?_
    · refine Reg.ob_pure (fun _ => rfl) rfl rfl rfl rfl (fun x w1 hF => ?_)
      go_simp
      with_reducible rfl
    refine And.intro ?_ ?_
    · refine Reg.ob_pure (fun _ => rfl) rfl rfl rfl rfl (fun x w1 hF => ?_)
      go_simp
      with_reducible rfl
    refine And.intro ?_ ?_
    · refine Reg.ob_pure (fun _ => rfl) rfl rfl rfl rfl (fun x w1 hF => ?_)
      go_simp
      with_reducible rfl
    refine And.intro ?_ ?_
    · refine Reg.ob_pure (fun _ => rfl) rfl rfl rfl rfl (fun x w1 hF => ?_)
      go_simp
      with_reducible rfl
    refine And.intro ?_ ?_
    · refine Reg.ob_pure (fun _ => rfl) rfl rfl rfl rfl (fun x w1 hF => ?_)
      have c0 := (hF.cell (p := ⟨gr, j, none⟩) hgw (by simp)).trans hC
      go_simp
      with_reducible rfl
    refine And.intro ?_ ?_
    · refine Reg.ob_known (fun _ => rfl) rfl rfl (fun x w1 hF hU K hK => ?_)
      have hF := hF rfl
      go_simp
      refine (HLK.out w1 hF).mono ?_
      rintro e w5 ⟨rfl, ho⟩
      exact hK _ (fun _ _ _ => hF.trans ho (fun _ _ e => e)) trivial
    refine And.intro ?_ ?_
    · refine Reg.ob_pure (fun _ => rfl) rfl rfl rfl rfl (fun x w1 hF => ?_)
      go_simp
      with_reducible rfl
    refine And.intro ?_ ?_
    · refine Reg.ob_pure (fun _ => rfl) rfl rfl rfl rfl (fun x w1 hF => ?_)
      go_simp
      with_reducible rfl
    refine And.intro ?_ ?_
    · refine Reg.ob_pure (fun _ => rfl) rfl rfl rfl rfl (fun x w1 hF => ?_)
      go_simp
      with_reducible rfl
    refine And.intro ?_ ?_
    · refine Reg.ob_pure (fun _ => rfl) rfl rfl rfl rfl (fun x w1 hF => ?_)
      go_simp
      with_reducible rfl
    refine And.intro ?_ ?_
    · refine Reg.ob_pure (fun _ => rfl) rfl rfl rfl rfl (fun x w1 hF => ?_)
      go_simp
      with_reducible rfl
    refine And.intro ?_ ?_
    · refine Reg.ob_pure (fun _ => rfl) rfl rfl rfl rfl (fun x w1 hF => ?_)
      have c0 := (hF.cell (p := ⟨gr, j, none⟩) hgw (by simp)).trans hC
      go_simp
      with_reducible rfl
    refine And.intro ?_ ?_
    · refine Reg.ob_pure (fun _ => rfl) rfl rfl rfl rfl (fun x w1 hF => ?_)
      go_simp
      with_reducible rfl
    refine And.intro ?_ ?_
    · refine Reg.ob_pure (fun _ => rfl) rfl rfl rfl rfl (fun x w1 hF => ?_)
      go_simp
      with_reducible rfl
    refine And.intro ?_ ?_
    · refine Reg.ob_pure (fun _ => rfl) rfl rfl rfl rfl (fun x w1 hF => ?_)
      go_simp
      with_reducible rfl
    refine And.intro ?_ ?_
    · refine Reg.ob_pure (fun _ => rfl) rfl rfl rfl rfl (fun x w1 hF => ?_)
      go_simp
      with_reducible rfl
    refine And.intro ?_ ?_
    · refine Reg.ob_pure (fun _ => rfl) rfl rfl rfl rfl (fun x w1 hF => ?_)
      go_simp
      with_reducible rfl
    refine And.intro ?_ ?_
    · refine Reg.ob_pure (fun _ => rfl) rfl rfl rfl rfl (fun x w1 hF => ?_)
      go_simp
      with_reducible rfl
    refine And.intro ?_ ?_
    · refine Reg.ob_pure (fun _ => rfl) rfl rfl rfl rfl (fun x w1 hF => ?_)
      go_simp
      with_reducible rfl
    refine And.intro ?_ ?_
    · refine Reg.ob_pure (fun _ => rfl) rfl rfl rfl rfl (fun x w1 hF => ?_)
      go_simp
      with_reducible rfl
    refine And.intro ?_ ?_
    · refine Reg.ob_pure (fun _ => rfl) rfl rfl rfl rfl (fun x w1 hF => ?_)
      go_simp
      with_reducible rfl
    refine And.intro ?_ ?_
    · refine Reg.ob_pure (fun _ => rfl) rfl rfl rfl rfl (fun x w1 hF => ?_)
      go_simp
      with_reducible rfl
    refine And.intro ?_ ?_
    · refine Reg.ob_pure (fun _ => rfl) rfl rfl rfl rfl (fun x w1 hF => ?_)
      go_simp
      with_reducible rfl
    refine And.intro ?_ ?_
    · refine Reg.ob_pure (fun _ => rfl) rfl rfl rfl rfl (fun x w1 hF => ?_)
      have c0 := (hF.cell (p := ⟨gr, j - 1, none⟩) hgw (by simp)).trans hC1
      go_simp
      with_reducible rfl
    refine And.intro ?_ ?_
    · refine Reg.ob_pure (fun _ => rfl) rfl rfl rfl rfl (fun x w1 hF => ?_)
      go_simp
      with_reducible rfl
    refine And.intro ?_ ?_
    · refine Reg.ob_pure (fun _ => rfl) rfl rfl rfl rfl (fun x w1 hF => ?_)
      go_simp
      with_reducible rfl
    refine And.intro ?_ ?_
    · refine Reg.ob_pure (fun _ => rfl) rfl rfl rfl rfl (fun x w1 hF => ?_)
      go_simp
      with_reducible rfl
    refine And.intro ?_ ?_
    · refine Reg.ob_pure (fun _ => rfl) rfl rfl rfl rfl (fun x w1 hF => ?_)
      have c0 := (hF.cell (p := ⟨gr, j, none⟩) hgw (by simp)).trans hC
      go_simp
      with_reducible rfl
    refine And.intro ?_ ?_
    · refine Reg.ob_pure (fun _ => rfl) rfl rfl rfl rfl (fun x w1 hF => ?_)
      go_simp
      with_reducible rfl
    refine And.intro ?_ ?_
    · refine Reg.ob_pure (fun _ => rfl) rfl rfl rfl rfl (fun x w1 hF => ?_)
      go_simp
      with_reducible rfl
    refine And.intro ?_ ?_
    · refine Reg.ob_pure (fun _ => rfl) rfl rfl rfl rfl (fun x w1 hF => ?_)
      go_simp
      with_reducible rfl
    exact trivial
  case hF =>
    exact onlyN w0 1
  case hini =>
    exact trivial
  case pres =>
    intro i hi j hj hc x wx wy hF hE hW
    trivial
  case fin =>
    rintro x w9 hF hU
    repeat apply Exists.intro
    exact ⟨rfl, rfl, hF rfl⟩

set_option maxRecDepth 100000 in
set_option maxHeartbeats 4000000 in
theorem once34b (b gr M cM tp x0 x1 j : Nat) (m : Wm) (D : Nat → Nat) (hf : m.Fit) (hlk : m.look x0 = 0) (hM : j < M) (hj : 0 < j) (hxt : x0 < tp) (hx1 : x1 < x0) (hjj : IntKind.i64.wrap ((j : Int) - 1) = ((j - 1 : Nat) : Int)) (u0 u1 u2 u3 u4 u5 u6 u8 u9 u10 u11 u12 u13 u14 u15 u16 u18 u19 u22 u23 u24 u25 u26 u27 u28 u29 u30 u31 u32 u33 u34 u35 u36 u37 u38 u39 u40 u41 u42 u43 u44 u45 u46 u47 u48 u49 u50 u51 u52 u53 u54 u55 u56 u57 u58 u59 u60 u61 u62 u63 u64 u65 u66 u67 u68 u69 u70 u71 u72 u73 u74 u75 u76 u77 u78 u79 u80 u81 u82 u83 u84 u85 u86 u87 u88 u89 u90 u91 u92 u93 u94 u95 u96 u97 u98 u99 u100 u101 u102 u103 u104 u105 u106 u107 u108 u109 u110 u111 u112 u113 u114 u115 u116 u117 u118 u119 u120 u121 u122 u123 u124 u125 u126 u127 u128 u129 u130 u131 u132 u133 u134 u135 u136 u137 u138 u139 u140 u141 u142 u143 u144 u145 u146 u147 u148 u149 u150 u151 u152 u153 u154 u155 u156 u157 u158 u159 u160 u161 u162 u163 u164 u165 u166 u167 u168 u169 u170 u171 u172 u173 u174 u175 u176 u177 u178 u179 u180 u181 u182 u183 u184 u185 u186 u187 u188 u189 u190 u191 u192 u193 u194 u195 u196 u197 u198 u199 : Value) (Q : Exit → Act → World → Prop) (w0 : World) (hWd : WIs w0 b m D) (hC : w0.cell? ⟨gr, j, none⟩ = some (.int .u64 (x0 : Int))) (hC1 : w0.cell? ⟨gr, j - 1, none⟩ = some (.int .u64 (x1 : Int))) (hgw : gr < w0.heap.size)
    (hend : ∀ (y154 y155 y156 y157 y158 y159 y160 y161 y162 y163 y164 y165 y166 y167 y168 y169 y170 y171 y172 y173 y174 y175 y176 y177 y178 y179 y180 y181 y182 y183 : Value) (w' : World), Only (fun _ => False) w0 w' → Q .normal ⟨(List.toArray (u0 :: u1 :: u2 :: u3 :: u4 :: u5 :: u6 :: .pointer (some ⟨b, 0, none⟩) :: u8 :: u9 :: u10 :: u11 :: u12 :: u13 :: u14 :: u15 :: u16 :: .int .u64 (tp : Int) :: u18 :: u19 :: .slice (some ⟨gr, 0, none⟩) M cM :: .int .i64 (j : Int) :: u22 :: u23 :: u24 :: u25 :: u26 :: u27 :: u28 :: u29 :: u30 :: u31 :: u32 :: u33 :: u34 :: u35 :: u36 :: u37 :: u38 :: u39 :: u40 :: u41 :: u42 :: u43 :: u44 :: u45 :: u46 :: u47 :: u48 :: u49 :: u50 :: u51 :: u52 :: u53 :: u54 :: u55 :: u56 :: u57 :: u58 :: u59 :: u60 :: u61 :: u62 :: u63 :: u64 :: u65 :: u66 :: u67 :: u68 :: u69 :: u70 :: u71 :: u72 :: u73 :: u74 :: u75 :: u76 :: u77 :: u78 :: u79 :: u80 :: u81 :: u82 :: u83 :: u84 :: u85 :: u86 :: u87 :: u88 :: u89 :: u90 :: u91 :: u92 :: u93 :: u94 :: u95 :: u96 :: u97 :: u98 :: u99 :: u100 :: u101 :: u102 :: u103 :: u104 :: u105 :: u106 :: u107 :: u108 :: u109 :: u110 :: u111 :: u112 :: u113 :: u114 :: u115 :: u116 :: u117 :: u118 :: u119 :: u120 :: u121 :: u122 :: u123 :: u124 :: u125 :: u126 :: u127 :: u128 :: u129 :: u130 :: u131 :: u132 :: u133 :: u134 :: u135 :: u136 :: u137 :: u138 :: u139 :: u140 :: u141 :: u142 :: u143 :: u144 :: u145 :: u146 :: u147 :: u148 :: u149 :: u150 :: u151 :: u152 :: u153 :: y154 :: y155 :: y156 :: y157 :: y158 :: y159 :: y160 :: y161 :: y162 :: y163 :: y164 :: y165 :: y166 :: y167 :: y168 :: y169 :: y170 :: y171 :: y172 :: y173 :: y174 :: y175 :: y176 :: y177 :: y178 :: y179 :: y180 :: y181 :: y182 :: y183 :: .bool false :: u185 :: u186 :: u187 :: u188 :: u189 :: u190 :: u191 :: u192 :: u193 :: u194 :: u195 :: u196 :: u197 :: u198 :: u199 :: [])), []⟩ w') :
    Code.wp Try.prog once34b_code Q ⟨(List.toArray (u0 :: u1 :: u2 :: u3 :: u4 :: u5 :: u6 :: .pointer (some ⟨b, 0, none⟩) :: u8 :: u9 :: u10 :: u11 :: u12 :: u13 :: u14 :: u15 :: u16 :: .int .u64 (tp : Int) :: u18 :: u19 :: .slice (some ⟨gr, 0, none⟩) M cM :: .int .i64 (j : Int) :: u22 :: u23 :: u24 :: u25 :: u26 :: u27 :: u28 :: u29 :: u30 :: u31 :: u32 :: u33 :: u34 :: u35 :: u36 :: u37 :: u38 :: u39 :: u40 :: u41 :: u42 :: u43 :: u44 :: u45 :: u46 :: u47 :: u48 :: u49 :: u50 :: u51 :: u52 :: u53 :: u54 :: u55 :: u56 :: u57 :: u58 :: u59 :: u60 :: u61 :: u62 :: u63 :: u64 :: u65 :: u66 :: u67 :: u68 :: u69 :: u70 :: u71 :: u72 :: u73 :: u74 :: u75 :: u76 :: u77 :: u78 :: u79 :: u80 :: u81 :: u82 :: u83 :: u84 :: u85 :: u86 :: u87 :: u88 :: u89 :: u90 :: u91 :: u92 :: u93 :: u94 :: u95 :: u96 :: u97 :: u98 :: u99 :: u100 :: u101 :: u102 :: u103 :: u104 :: u105 :: u106 :: u107 :: u108 :: u109 :: u110 :: u111 :: u112 :: u113 :: u114 :: u115 :: u116 :: u117 :: u118 :: u119 :: u120 :: u121 :: u122 :: u123 :: u124 :: u125 :: u126 :: u127 :: u128 :: u129 :: u130 :: u131 :: u132 :: u133 :: u134 :: u135 :: u136 :: u137 :: u138 :: u139 :: u140 :: u141 :: u142 :: u143 :: u144 :: u145 :: u146 :: u147 :: u148 :: u149 :: u150 :: u151 :: u152 :: u153 :: u154 :: u155 :: u156 :: u157 :: u158 :: u159 :: u160 :: u161 :: u162 :: u163 :: u164 :: u165 :: u166 :: u167 :: u168 :: u169 :: u170 :: u171 :: u172 :: u173 :: u174 :: u175 :: u176 :: u177 :: u178 :: u179 :: u180 :: u181 :: u182 :: u183 :: u184 :: u185 :: u186 :: u187 :: u188 :: u189 :: u190 :: u191 :: u192 :: u193 :: u194 :: u195 :: u196 :: u197 :: u198 :: u199 :: [])), []⟩ w0 := by
  refine wp_mono (once34b_in b gr M cM tp x0 x1 j m D hf hlk hM hj hxt hx1 hjj _ _ _ _ _ _ _ _ _ _ _ _ _ _ _ _ _ _ _ _ _ _ _ _ _ _ _ _ _ _ _ _ _ _ _ _ _ _ _ _ _ _ _ _ _ _ _ _ _ _ _ _ _ _ _ _ _ _ _ _ _ _ _ _ _ _ _ _ _ _ _ _ _ _ _ _ _ _ _ _ _ _ _ _ _ _ _ _ _ _ _ _ _ _ _ _ _ _ _ _ _ _ _ _ _ _ _ _ _ _ _ _ _ _ _ _ _ _ _ _ _ _ _ _ _ _ _ _ _ _ _ _ _ _ _ _ _ _ _ _ _ _ _ _ _ _ _ _ _ _ _ _ _ _ _ _ _ _ _ _ _ _ _ _ _ _ _ _ _ _ _ _ _ _ _ _ _ _ _ _ _ _ _ _ _ _ _ _ _ _ _ _ _ _ _ _ w0 hWd hC hC1 hgw) ?_
  rintro e a w' h
  obtain ⟨y154, h⟩ := h
  obtain ⟨y155, h⟩ := h
  obtain ⟨y156, h⟩ := h
  obtain ⟨y157, h⟩ := h
  obtain ⟨y158, h⟩ := h
  obtain ⟨y159, h⟩ := h
  obtain ⟨y160, h⟩ := h
  obtain ⟨y161, h⟩ := h
  obtain ⟨y162, h⟩ := h
  obtain ⟨y163, h⟩ := h
  obtain ⟨y164, h⟩ := h
  obtain ⟨y165, h⟩ := h
  obtain ⟨y166, h⟩ := h
  obtain ⟨y167, h⟩ := h
  obtain ⟨y168, h⟩ := h
  obtain ⟨y169, h⟩ := h
  obtain ⟨y170, h⟩ := h
  obtain ⟨y171, h⟩ := h
  obtain ⟨y172, h⟩ := h
  obtain ⟨y173, h⟩ := h
  obtain ⟨y174, h⟩ := h
  obtain ⟨y175, h⟩ := h
  obtain ⟨y176, h⟩ := h
  obtain ⟨y177, h⟩ := h
  obtain ⟨y178, h⟩ := h
  obtain ⟨y179, h⟩ := h
  obtain ⟨y180, h⟩ := h
  obtain ⟨y181, h⟩ := h
  obtain ⟨y182, h⟩ := h
  obtain ⟨y183, h⟩ := h
  obtain ⟨h, rfl, hq⟩ := h
  subst h
  exact hend y154 y155 y156 y157 y158 y159 y160 y161 y162 y163 y164 y165 y166 y167 y168 y169 y170 y171 y172 y173 y174 y175 y176 y177 y178 y179 y180 y181 y182 y183 w' hq
end Go.Proofs.Ytllchikjdpoopaa
