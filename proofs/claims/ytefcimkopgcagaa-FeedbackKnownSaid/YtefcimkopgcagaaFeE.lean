/- FeedbackBack's guarded regions. Conditions: as each says. -/
import Derived.Test.YtefcimkopgcagaaFdGr
import Derived.Test.YtefcimkopgcagaaFeB
import Derived.Test.YtefcimkopgcagaaFeC
import Derived.Test.YtefcimkopgcagaaFeD
import Derived.Test.YtefcimkopgcagaaFbO
set_option linter.unusedVariables false
set_option linter.unusedSimpArgs false
namespace Go.Proofs.Ytefcimkopgcagaa
open Go.RowKit

theorem same_self (m : Ms) : sameMs m m = true := by simp [sameMs]
theorem body_long (m : Ms) (hr : rightMs m = true) : (bodyB m).length % 4 = 0 ∧ 8 ≤ (bodyB m).length ∧ ((m.pairs.length ≤ 300 ∧ m.orders.length ≤ 300 ∧ m.srcs.length ≤ 300) → (bodyB m).length ≤ 6000) := by
  unfold bodyB partB
  rw [List.length_append, List.length_append, List.length_append, headB_len, pairsB_len, ordersB_len]
  split
  · unfold rateB
    rw [List.length_append, List.length_append, numB_len, srcsB_len]
    simp
    omega
  · simp
    omega
theorem kd_lt (s : Nat) : kdOf s < 256 := by unfold kdOf; split <;> omega
theorem ct_lt (s : Nat) : ctOf s ≤ 15 := by unfold ctOf; (repeat' split) <;> omega
theorem put_ok (m : Ms) (hr : rightMs m = true) (hf : MFit m) (hl : m.pairs.length ≤ 300 ∧ m.orders.length ≤ 300 ∧ m.srcs.length ≤ 300) : (Pkt.mk (ctOf m.sort) (kdOf m.sort) 0 (bodyB m)).okR = true ∧ (Pkt.mk (ctOf m.sort) (kdOf m.sort) 0 (bodyB m)).FitR := by
  obtain ⟨h1, h2, h3⟩ := body_long m hr
  have h3 := h3 hl
  have h4 := ct_lt m.sort
  have h5 := kd_lt m.sort
  have hs : m.srcs.length < 256 := by
    have h := of_decide_eq_true hr
    unfold okMs at h
    omega
  refine ⟨?_, ⟨by show ctOf m.sort < 256; omega, h5, by show 0 < 256; omega, body_bytes m hf hs⟩⟩
  unfold Pkt.okR
  simp
  omega
def fk6_A : List (List Nat) := ([] :: [0] :: [1, 0] :: [2, 1, 0] :: [2, 1, 0] :: [3, 4, 2, 1, 0] :: [5, 2, 3, 4, 1, 0] :: [2, 6, 1, 0, 5, 3, 4] :: (7 :: 5 :: 2 :: 6 :: 1 :: 0 :: 3 :: 4 :: []) :: (8 :: 7 :: 5 :: 2 :: 6 :: 1 :: 0 :: 3 :: 4 :: []) :: (9 :: 8 :: 7 :: 5 :: 2 :: 6 :: 1 :: 0 :: 3 :: 4 :: []) :: (10 :: 8 :: 9 :: 7 :: 5 :: 2 :: 6 :: 1 :: 0 :: 3 :: 4 :: []) :: (8 :: 11 :: 7 :: 5 :: 2 :: 6 :: 1 :: 0 :: 3 :: 4 :: 10 :: 9 :: []) :: (12 :: 10 :: 8 :: 11 :: 7 :: 5 :: 2 :: 6 :: 1 :: 0 :: 3 :: 4 :: 9 :: []) :: (13 :: 12 :: 10 :: 8 :: 11 :: 7 :: 5 :: 2 :: 6 :: 1 :: 0 :: 3 :: 4 :: 9 :: []) :: (14 :: 13 :: 12 :: 10 :: 8 :: 11 :: 7 :: 5 :: 2 :: 6 :: 1 :: 0 :: 3 :: 4 :: 9 :: []) :: (15 :: 13 :: 14 :: 12 :: 10 :: 8 :: 11 :: 7 :: 5 :: 2 :: 6 :: 1 :: 0 :: 3 :: 4 :: 9 :: []) :: (13 :: 16 :: 12 :: 10 :: 8 :: 11 :: 7 :: 5 :: 2 :: 6 :: 1 :: 0 :: 3 :: 4 :: 9 :: 15 :: 14 :: []) :: [])
def fk6_kill : List (List Nat) := ([] :: [] :: [] :: [] :: [] :: [] :: [] :: [] :: [] :: [] :: [] :: [] :: [] :: [] :: [] :: [] :: [] :: [] :: [])
def fk6_uses : List (List Nat) := ([] :: [] :: [] :: [] :: [] :: [] :: [] :: [] :: [] :: [] :: [] :: [] :: [] :: [] :: [] :: [] :: [] :: [] :: [])
noncomputable def fk6_code : Code := ((Try.f6.body.bind (codeRegion 6)).getD .skip)
set_option maxRecDepth 100000 in
set_option maxHeartbeats 4000000 in
theorem fk6_in (m : Ms) (p1 o1 s1 p2 o2 s2 u : Value) (ma xb yb : Nat) (hl : m.pairs.length ≤ 300 ∧ m.orders.length ≤ 300 ∧ m.srcs.length ≤ 300) (hr : rightMs m = true) (hf : MFit m) (u0 u1 u2 u3 u5 u6 u7 u8 u10 u13 u14 u15 u16 u17 u18 u19 u20 u21 u22 u23 u24 u25 u26 u27 u28 u29 u30 u31 u32 u33 u34 u35 u36 u37 u38 u39 u40 u41 u42 u43 u44 u45 u46 u47 u48 u49 u50 u51 u52 u53 u54 u55 u56 u57 u58 u59 u60 u61 u62 u63 u64 u65 u66 u67 u68 u69 u70 u71 u72 u73 u74 u75 u76 u77 u78 u79 u80 u81 u82 u83 u84 u85 u86 u87 u88 u89 u90 u91 u92 u93 u94 u95 u96 u97 u98 u99 u100 u101 u102 u103 u104 u105 u106 u107 u108 u109 u110 u111 u112 u113 u114 u115 u116 u117 u118 u119 u120 u121 u122 u123 u124 u125 u126 u127 u128 u129 u130 u131 u132 u133 u134 u135 u136 u137 u138 u139 u140 u141 u142 u143 u144 u145 u146 u147 u148 u149 u150 u151 u152 u153 u154 u155 u156 u157 u158 u159 u160 u161 u162 u163 u164 u165 u166 u167 u168 u169 u170 u171 u172 u173 u174 u175 u176 u177 u178 u179 u180 u181 u182 u183 u184 u185 u186 u187 u188 u189 u190 u191 u192 u193 u194 u195 u196 u197 u198 u199 u200 u201 u202 u203 u204 : Value) (w0 : World) (hM : Is w0 ma 27 (m.cls p1 o1 s1)) (hX : Is w0 xb 41 #[.int .u8 (ctOf m.sort : Nat), .int .u8 (kdOf m.sort : Nat), u, .int .u8 (0 : Nat)]) (hY : Is w0 yb 27 (m.cls p2 o2 s2)) (hDm : RdM m p1 o1 s1 w0) (hDy : RdM m p2 o2 s2 w0) (hs : Src w0 u (bodyB m)) :
    Code.wp Try.prog fk6_code (fun e a w' => ∃ y54 y55 y56 y57 y58 y59 y60 y61 y62 y63 y64 y65 y66 y67 y68 y69 y70 : Value, a = ⟨(List.toArray (u0 :: u1 :: u2 :: u3 :: .pointer (some ⟨ma, 0, none⟩) :: u5 :: u6 :: u7 :: u8 :: .pointer (some ⟨xb, 0, none⟩) :: u10 :: .pointer (some ⟨yb, 0, none⟩) :: .int .i64 0 :: u13 :: u14 :: u15 :: u16 :: u17 :: u18 :: u19 :: u20 :: u21 :: u22 :: u23 :: u24 :: u25 :: u26 :: u27 :: u28 :: u29 :: u30 :: u31 :: u32 :: u33 :: u34 :: u35 :: u36 :: u37 :: u38 :: u39 :: u40 :: u41 :: u42 :: u43 :: u44 :: u45 :: u46 :: u47 :: u48 :: u49 :: u50 :: u51 :: u52 :: u53 :: y54 :: y55 :: y56 :: y57 :: y58 :: y59 :: y60 :: y61 :: y62 :: y63 :: y64 :: y65 :: y66 :: y67 :: y68 :: y69 :: y70 :: .bool false :: u72 :: u73 :: u74 :: u75 :: u76 :: u77 :: u78 :: u79 :: u80 :: u81 :: u82 :: u83 :: u84 :: u85 :: u86 :: u87 :: u88 :: u89 :: u90 :: u91 :: u92 :: u93 :: u94 :: u95 :: u96 :: u97 :: u98 :: u99 :: u100 :: u101 :: u102 :: u103 :: u104 :: u105 :: u106 :: u107 :: u108 :: u109 :: u110 :: u111 :: u112 :: u113 :: u114 :: u115 :: u116 :: u117 :: u118 :: u119 :: u120 :: u121 :: u122 :: u123 :: u124 :: u125 :: u126 :: u127 :: u128 :: u129 :: u130 :: u131 :: u132 :: u133 :: u134 :: u135 :: u136 :: u137 :: u138 :: u139 :: u140 :: u141 :: u142 :: u143 :: u144 :: u145 :: u146 :: u147 :: u148 :: u149 :: u150 :: u151 :: u152 :: u153 :: u154 :: u155 :: u156 :: u157 :: u158 :: u159 :: u160 :: u161 :: u162 :: u163 :: u164 :: u165 :: u166 :: u167 :: u168 :: u169 :: u170 :: u171 :: u172 :: u173 :: u174 :: u175 :: u176 :: u177 :: u178 :: u179 :: u180 :: u181 :: u182 :: u183 :: u184 :: u185 :: u186 :: u187 :: u188 :: u189 :: u190 :: u191 :: u192 :: u193 :: u194 :: u195 :: u196 :: u197 :: u198 :: u199 :: u200 :: u201 :: u202 :: u203 :: u204 :: [])), []⟩ ∧ e = .normal ∧ Only (fun _ => False) w0 w') ⟨(List.toArray (u0 :: u1 :: u2 :: u3 :: .pointer (some ⟨ma, 0, none⟩) :: u5 :: u6 :: u7 :: u8 :: .pointer (some ⟨xb, 0, none⟩) :: u10 :: .pointer (some ⟨yb, 0, none⟩) :: .int .i64 0 :: u13 :: u14 :: u15 :: u16 :: u17 :: u18 :: u19 :: u20 :: u21 :: u22 :: u23 :: u24 :: u25 :: u26 :: u27 :: u28 :: u29 :: u30 :: u31 :: u32 :: u33 :: u34 :: u35 :: u36 :: u37 :: u38 :: u39 :: u40 :: u41 :: u42 :: u43 :: u44 :: u45 :: u46 :: u47 :: u48 :: u49 :: u50 :: u51 :: u52 :: u53 :: u54 :: u55 :: u56 :: u57 :: u58 :: u59 :: u60 :: u61 :: u62 :: u63 :: u64 :: u65 :: u66 :: u67 :: u68 :: u69 :: u70 :: u71 :: u72 :: u73 :: u74 :: u75 :: u76 :: u77 :: u78 :: u79 :: u80 :: u81 :: u82 :: u83 :: u84 :: u85 :: u86 :: u87 :: u88 :: u89 :: u90 :: u91 :: u92 :: u93 :: u94 :: u95 :: u96 :: u97 :: u98 :: u99 :: u100 :: u101 :: u102 :: u103 :: u104 :: u105 :: u106 :: u107 :: u108 :: u109 :: u110 :: u111 :: u112 :: u113 :: u114 :: u115 :: u116 :: u117 :: u118 :: u119 :: u120 :: u121 :: u122 :: u123 :: u124 :: u125 :: u126 :: u127 :: u128 :: u129 :: u130 :: u131 :: u132 :: u133 :: u134 :: u135 :: u136 :: u137 :: u138 :: u139 :: u140 :: u141 :: u142 :: u143 :: u144 :: u145 :: u146 :: u147 :: u148 :: u149 :: u150 :: u151 :: u152 :: u153 :: u154 :: u155 :: u156 :: u157 :: u158 :: u159 :: u160 :: u161 :: u162 :: u163 :: u164 :: u165 :: u166 :: u167 :: u168 :: u169 :: u170 :: u171 :: u172 :: u173 :: u174 :: u175 :: u176 :: u177 :: u178 :: u179 :: u180 :: u181 :: u182 :: u183 :: u184 :: u185 :: u186 :: u187 :: u188 :: u189 :: u190 :: u191 :: u192 :: u193 :: u194 :: u195 :: u196 :: u197 :: u198 :: u199 :: u200 :: u201 :: u202 :: u203 :: u204 :: [])), []⟩ w0 := by
  conv => arg 2; whnf
  have HSM := Lib.hid (fun (wx : World) (h : Only (fun _ => False) w0 wx) => by
    have := fsame_is m m p2 o2 s2 p1 o1 s1 wx (hDy.only h) (hDm.only h) (by omega) (by omega)
    rwa [same_self] at this)
  have HRI := Lib.hid (fun (wx : World) (h : Only (fun _ => False) w0 wx) => by
    have := rcright_is ⟨ctOf m.sort, kdOf m.sort, 0, bodyB m⟩ u wx (put_ok m hr hf hl).2 (hs.of_only h) (by have := (body_long m hr).2.2 hl; show (bodyB m).length ≤ 1000000; omega)
    rwa [(put_ok m hr hf hl).1] at this)
  have HIS := Lib.hid (fun (wx : World) (h : Only (fun _ => False) w0 wx) => by
    have := fis_is (kdOf m.sort) (ctOf m.sort) 0 u wx
    have ho := of_decide_eq_true hr
    unfold okMs at ho
    have hso := sOf_kd (s := m.sort) (by omega) (by omega)
    rw [hso, decide_eq_true (show 0 < m.sort by omega)] at this
    exact this)
  generalize ctOf m.sort = ct at *
  generalize kdOf m.sort = kd at *
  clear hl hr hf hDm hDy hs
  refine wp_region_text fk6_A [5, 10, 15] [] fk6_kill fk6_uses [] [] [] []
      (some ?v0 :: some (.bool false) :: some ?v2 :: some ?v3 :: some ?v4 :: some (.bool true) :: some ?v6 :: some ?v7 :: some ?v8 :: some ?v9 :: some (.bool true) :: some ?v11 :: some ?v12 :: some ?v13 :: some ?v14 :: some (.bool true) :: some ?v16 :: some ?v17 :: [])
      ?T (fun wx => Only (fun _ => False) w0 wx) ?W ?E (by kernel_rfl) (by kernel_rfl) (by kernel_rfl) (fun x => ?hT) ?hF ?hini (Reg.all_ops ?runs) ?pres ?fin
  case W => exact fun j x wz => True
  case E => exact fun _ wx wy => Only (fun _ => False) wx wy
  case hT =>
    simp only [Reg.fillV, Act.put, List.setIfInBounds_toArray, List.set_cons_zero, List.set_cons_succ]
    rfl
  case runs =>
    refine And.intro ?_ ?_
    · refine Reg.ob_pure (fun _ => rfl) rfl rfl rfl rfl (fun x w1 hF => ?_)
      go_simp
      with_reducible rfl
    refine And.intro ?_ ?_
    · refine Reg.ob_pure (fun _ => rfl) rfl rfl rfl rfl (fun x w1 hF => ?_)
      go_simp
    refine And.intro ?_ ?_
    · refine Reg.ob_pure (fun _ => rfl) rfl rfl rfl rfl (fun x w1 hF => ?_)
      go_simp
      with_reducible rfl
    refine And.intro ?_ ?_
    · refine Reg.ob_pure (fun _ => rfl) rfl rfl rfl rfl (fun x w1 hF => ?_)
      obtain ⟨m0, m1, m2, m3, m4, m5, m6, m7⟩ := cls_cells (hY.only hF (by simp))
      go_simp
      with_reducible rfl
    refine And.intro ?_ ?_
    · refine Reg.ob_pure (fun _ => rfl) rfl rfl rfl rfl (fun x w1 hF => ?_)
      obtain ⟨m0, m1, m2, m3, m4, m5, m6, m7⟩ := cls_cells (hM.only hF (by simp))
      go_simp
      with_reducible rfl
    refine And.intro ?_ ?_
    · refine Reg.ob_known (fun _ => rfl) rfl rfl (fun x w1 hF hU K hK => ?_)
      have hF := hF rfl
      go_simp
      refine (HSM.out w1 hF).mono ?_
      rintro e w5 ⟨rfl, ho⟩
      exact hK _ (fun _ _ _ => hF.trans ho (fun _ _ e => e)) ho
    refine And.intro ?_ ?_
    · refine Reg.ob_pure (fun _ => rfl) rfl rfl rfl rfl (fun x w1 hF => ?_)
      go_simp
      with_reducible rfl
    refine And.intro ?_ ?_
    · refine Reg.ob_pure (fun _ => rfl) rfl rfl rfl rfl (fun x w1 hF => ?_)
      go_simp
      with_reducible rfl
    refine And.intro ?_ ?_
    · refine Reg.ob_pure (fun _ => rfl) rfl rfl rfl rfl (fun x w1 hF => ?_)
      go_simp
      with_reducible rfl
    refine And.intro ?_ ?_
    · refine Reg.ob_pure (fun _ => rfl) rfl rfl rfl rfl (fun x w1 hF => ?_)
      have m0 := (hX.only hF (by simp)).cell 0
      have m1 := (hX.only hF (by simp)).cell 1
      have m2 := (hX.only hF (by simp)).cell 2
      have m3 := (hX.only hF (by simp)).cell 3
      simp at m0 m1 m2 m3
      go_simp
      with_reducible rfl
    refine And.intro ?_ ?_
    · refine Reg.ob_known (fun _ => rfl) rfl rfl (fun x w1 hF hU K hK => ?_)
      have hF := hF rfl
      go_simp
      refine (HRI.out w1 hF).mono ?_
      rintro e w5 ⟨rfl, ho⟩
      exact hK _ (fun _ _ _ => hF.trans ho (fun _ _ e => e)) ho
    refine And.intro ?_ ?_
    · refine Reg.ob_pure (fun _ => rfl) rfl rfl rfl rfl (fun x w1 hF => ?_)
      go_simp
      with_reducible rfl
    refine And.intro ?_ ?_
    · refine Reg.ob_pure (fun _ => rfl) rfl rfl rfl rfl (fun x w1 hF => ?_)
      go_simp
      with_reducible rfl
    refine And.intro ?_ ?_
    · refine Reg.ob_pure (fun _ => rfl) rfl rfl rfl rfl (fun x w1 hF => ?_)
      go_simp
      with_reducible rfl
    refine And.intro ?_ ?_
    · refine Reg.ob_pure (fun _ => rfl) rfl rfl rfl rfl (fun x w1 hF => ?_)
      have m0 := (hX.only hF (by simp)).cell 0
      have m1 := (hX.only hF (by simp)).cell 1
      have m2 := (hX.only hF (by simp)).cell 2
      have m3 := (hX.only hF (by simp)).cell 3
      simp at m0 m1 m2 m3
      go_simp
      with_reducible rfl
    refine And.intro ?_ ?_
    · refine Reg.ob_known (fun _ => rfl) rfl rfl (fun x w1 hF hU K hK => ?_)
      have hF := hF rfl
      go_simp
      refine (HIS.out w1 hF).mono ?_
      rintro e w5 ⟨rfl, ho⟩
      exact hK _ (fun _ _ _ => hF.trans ho (fun _ _ e => e)) ho
    refine And.intro ?_ ?_
    · refine Reg.ob_pure (fun _ => rfl) rfl rfl rfl rfl (fun x w1 hF => ?_)
      go_simp
      with_reducible rfl
    refine And.intro ?_ ?_
    · refine Reg.ob_pure (fun _ => rfl) rfl rfl rfl rfl (fun x w1 hF => ?_)
      go_simp
      with_reducible rfl
    exact trivial
  case hF =>
    exact Only.refl _ w0
  case hini =>
    exact trivial
  case pres =>
    intro i hi j hj hc x wx wy hF hE hW
    simp only [List.mem_cons, List.mem_nil_iff, or_false] at hj
  case fin =>
    rintro x w9 hF hU
    repeat apply Exists.intro
    exact ⟨rfl, rfl, hF rfl⟩

set_option maxRecDepth 100000 in
set_option maxHeartbeats 4000000 in
theorem fk6 (m : Ms) (p1 o1 s1 p2 o2 s2 u : Value) (ma xb yb : Nat) (hl : m.pairs.length ≤ 300 ∧ m.orders.length ≤ 300 ∧ m.srcs.length ≤ 300) (hr : rightMs m = true) (hf : MFit m) (u0 u1 u2 u3 u5 u6 u7 u8 u10 u13 u14 u15 u16 u17 u18 u19 u20 u21 u22 u23 u24 u25 u26 u27 u28 u29 u30 u31 u32 u33 u34 u35 u36 u37 u38 u39 u40 u41 u42 u43 u44 u45 u46 u47 u48 u49 u50 u51 u52 u53 u54 u55 u56 u57 u58 u59 u60 u61 u62 u63 u64 u65 u66 u67 u68 u69 u70 u71 u72 u73 u74 u75 u76 u77 u78 u79 u80 u81 u82 u83 u84 u85 u86 u87 u88 u89 u90 u91 u92 u93 u94 u95 u96 u97 u98 u99 u100 u101 u102 u103 u104 u105 u106 u107 u108 u109 u110 u111 u112 u113 u114 u115 u116 u117 u118 u119 u120 u121 u122 u123 u124 u125 u126 u127 u128 u129 u130 u131 u132 u133 u134 u135 u136 u137 u138 u139 u140 u141 u142 u143 u144 u145 u146 u147 u148 u149 u150 u151 u152 u153 u154 u155 u156 u157 u158 u159 u160 u161 u162 u163 u164 u165 u166 u167 u168 u169 u170 u171 u172 u173 u174 u175 u176 u177 u178 u179 u180 u181 u182 u183 u184 u185 u186 u187 u188 u189 u190 u191 u192 u193 u194 u195 u196 u197 u198 u199 u200 u201 u202 u203 u204 : Value) (Q : Exit → Act → World → Prop) (w0 : World) (hM : Is w0 ma 27 (m.cls p1 o1 s1)) (hX : Is w0 xb 41 #[.int .u8 (ctOf m.sort : Nat), .int .u8 (kdOf m.sort : Nat), u, .int .u8 (0 : Nat)]) (hY : Is w0 yb 27 (m.cls p2 o2 s2)) (hDm : RdM m p1 o1 s1 w0) (hDy : RdM m p2 o2 s2 w0) (hs : Src w0 u (bodyB m))
    (hend : ∀ (y54 y55 y56 y57 y58 y59 y60 y61 y62 y63 y64 y65 y66 y67 y68 y69 y70 : Value) (w' : World), Only (fun _ => False) w0 w' → Q .normal ⟨(List.toArray (u0 :: u1 :: u2 :: u3 :: .pointer (some ⟨ma, 0, none⟩) :: u5 :: u6 :: u7 :: u8 :: .pointer (some ⟨xb, 0, none⟩) :: u10 :: .pointer (some ⟨yb, 0, none⟩) :: .int .i64 0 :: u13 :: u14 :: u15 :: u16 :: u17 :: u18 :: u19 :: u20 :: u21 :: u22 :: u23 :: u24 :: u25 :: u26 :: u27 :: u28 :: u29 :: u30 :: u31 :: u32 :: u33 :: u34 :: u35 :: u36 :: u37 :: u38 :: u39 :: u40 :: u41 :: u42 :: u43 :: u44 :: u45 :: u46 :: u47 :: u48 :: u49 :: u50 :: u51 :: u52 :: u53 :: y54 :: y55 :: y56 :: y57 :: y58 :: y59 :: y60 :: y61 :: y62 :: y63 :: y64 :: y65 :: y66 :: y67 :: y68 :: y69 :: y70 :: .bool false :: u72 :: u73 :: u74 :: u75 :: u76 :: u77 :: u78 :: u79 :: u80 :: u81 :: u82 :: u83 :: u84 :: u85 :: u86 :: u87 :: u88 :: u89 :: u90 :: u91 :: u92 :: u93 :: u94 :: u95 :: u96 :: u97 :: u98 :: u99 :: u100 :: u101 :: u102 :: u103 :: u104 :: u105 :: u106 :: u107 :: u108 :: u109 :: u110 :: u111 :: u112 :: u113 :: u114 :: u115 :: u116 :: u117 :: u118 :: u119 :: u120 :: u121 :: u122 :: u123 :: u124 :: u125 :: u126 :: u127 :: u128 :: u129 :: u130 :: u131 :: u132 :: u133 :: u134 :: u135 :: u136 :: u137 :: u138 :: u139 :: u140 :: u141 :: u142 :: u143 :: u144 :: u145 :: u146 :: u147 :: u148 :: u149 :: u150 :: u151 :: u152 :: u153 :: u154 :: u155 :: u156 :: u157 :: u158 :: u159 :: u160 :: u161 :: u162 :: u163 :: u164 :: u165 :: u166 :: u167 :: u168 :: u169 :: u170 :: u171 :: u172 :: u173 :: u174 :: u175 :: u176 :: u177 :: u178 :: u179 :: u180 :: u181 :: u182 :: u183 :: u184 :: u185 :: u186 :: u187 :: u188 :: u189 :: u190 :: u191 :: u192 :: u193 :: u194 :: u195 :: u196 :: u197 :: u198 :: u199 :: u200 :: u201 :: u202 :: u203 :: u204 :: [])), []⟩ w') :
    Code.wp Try.prog fk6_code Q ⟨(List.toArray (u0 :: u1 :: u2 :: u3 :: .pointer (some ⟨ma, 0, none⟩) :: u5 :: u6 :: u7 :: u8 :: .pointer (some ⟨xb, 0, none⟩) :: u10 :: .pointer (some ⟨yb, 0, none⟩) :: .int .i64 0 :: u13 :: u14 :: u15 :: u16 :: u17 :: u18 :: u19 :: u20 :: u21 :: u22 :: u23 :: u24 :: u25 :: u26 :: u27 :: u28 :: u29 :: u30 :: u31 :: u32 :: u33 :: u34 :: u35 :: u36 :: u37 :: u38 :: u39 :: u40 :: u41 :: u42 :: u43 :: u44 :: u45 :: u46 :: u47 :: u48 :: u49 :: u50 :: u51 :: u52 :: u53 :: u54 :: u55 :: u56 :: u57 :: u58 :: u59 :: u60 :: u61 :: u62 :: u63 :: u64 :: u65 :: u66 :: u67 :: u68 :: u69 :: u70 :: u71 :: u72 :: u73 :: u74 :: u75 :: u76 :: u77 :: u78 :: u79 :: u80 :: u81 :: u82 :: u83 :: u84 :: u85 :: u86 :: u87 :: u88 :: u89 :: u90 :: u91 :: u92 :: u93 :: u94 :: u95 :: u96 :: u97 :: u98 :: u99 :: u100 :: u101 :: u102 :: u103 :: u104 :: u105 :: u106 :: u107 :: u108 :: u109 :: u110 :: u111 :: u112 :: u113 :: u114 :: u115 :: u116 :: u117 :: u118 :: u119 :: u120 :: u121 :: u122 :: u123 :: u124 :: u125 :: u126 :: u127 :: u128 :: u129 :: u130 :: u131 :: u132 :: u133 :: u134 :: u135 :: u136 :: u137 :: u138 :: u139 :: u140 :: u141 :: u142 :: u143 :: u144 :: u145 :: u146 :: u147 :: u148 :: u149 :: u150 :: u151 :: u152 :: u153 :: u154 :: u155 :: u156 :: u157 :: u158 :: u159 :: u160 :: u161 :: u162 :: u163 :: u164 :: u165 :: u166 :: u167 :: u168 :: u169 :: u170 :: u171 :: u172 :: u173 :: u174 :: u175 :: u176 :: u177 :: u178 :: u179 :: u180 :: u181 :: u182 :: u183 :: u184 :: u185 :: u186 :: u187 :: u188 :: u189 :: u190 :: u191 :: u192 :: u193 :: u194 :: u195 :: u196 :: u197 :: u198 :: u199 :: u200 :: u201 :: u202 :: u203 :: u204 :: [])), []⟩ w0 := by
  refine wp_mono (fk6_in m p1 o1 s1 p2 o2 s2 u ma xb yb hl hr hf _ _ _ _ _ _ _ _ _ _ _ _ _ _ _ _ _ _ _ _ _ _ _ _ _ _ _ _ _ _ _ _ _ _ _ _ _ _ _ _ _ _ _ _ _ _ _ _ _ _ _ _ _ _ _ _ _ _ _ _ _ _ _ _ _ _ _ _ _ _ _ _ _ _ _ _ _ _ _ _ _ _ _ _ _ _ _ _ _ _ _ _ _ _ _ _ _ _ _ _ _ _ _ _ _ _ _ _ _ _ _ _ _ _ _ _ _ _ _ _ _ _ _ _ _ _ _ _ _ _ _ _ _ _ _ _ _ _ _ _ _ _ _ _ _ _ _ _ _ _ _ _ _ _ _ _ _ _ _ _ _ _ _ _ _ _ _ _ _ _ _ _ _ _ _ _ _ _ _ _ _ _ _ _ _ _ _ _ _ _ _ _ _ _ _ _ _ _ _ _ _ w0 hM hX hY hDm hDy hs) ?_
  rintro e a w' h
  obtain ⟨y54, h⟩ := h
  obtain ⟨y55, h⟩ := h
  obtain ⟨y56, h⟩ := h
  obtain ⟨y57, h⟩ := h
  obtain ⟨y58, h⟩ := h
  obtain ⟨y59, h⟩ := h
  obtain ⟨y60, h⟩ := h
  obtain ⟨y61, h⟩ := h
  obtain ⟨y62, h⟩ := h
  obtain ⟨y63, h⟩ := h
  obtain ⟨y64, h⟩ := h
  obtain ⟨y65, h⟩ := h
  obtain ⟨y66, h⟩ := h
  obtain ⟨y67, h⟩ := h
  obtain ⟨y68, h⟩ := h
  obtain ⟨y69, h⟩ := h
  obtain ⟨y70, h⟩ := h
  obtain ⟨h, rfl, hq⟩ := h
  subst h
  exact hend y54 y55 y56 y57 y58 y59 y60 y61 y62 y63 y64 y65 y66 y67 y68 y69 y70 w' hq
def fk12a_A : List (List Nat) := ([] :: [0] :: [1, 0] :: [2, 1, 0] :: [3, 2, 1, 0] :: [4, 3, 2, 1, 0] :: [3, 5, 2, 1, 0, 4] :: [6, 3, 5, 2, 1, 0, 4] :: (7 :: 6 :: 3 :: 5 :: 2 :: 1 :: 0 :: 4 :: []) :: (8 :: 7 :: 6 :: 3 :: 5 :: 2 :: 1 :: 0 :: 4 :: []) :: (7 :: 9 :: 6 :: 3 :: 5 :: 2 :: 1 :: 0 :: 4 :: 8 :: []) :: (10 :: 7 :: 9 :: 6 :: 3 :: 5 :: 2 :: 1 :: 0 :: 4 :: 8 :: []) :: (11 :: 10 :: 7 :: 9 :: 6 :: 3 :: 5 :: 2 :: 1 :: 0 :: 4 :: 8 :: []) :: (12 :: 11 :: 10 :: 7 :: 9 :: 6 :: 3 :: 5 :: 2 :: 1 :: 0 :: 4 :: 8 :: []) :: (11 :: 10 :: 7 :: 9 :: 6 :: 3 :: 5 :: 2 :: 1 :: 0 :: 4 :: 8 :: []) :: (14 :: 11 :: 10 :: 7 :: 9 :: 6 :: 3 :: 5 :: 2 :: 1 :: 0 :: 4 :: 8 :: []) :: (13 :: 15 :: 11 :: 12 :: 10 :: 7 :: 9 :: 6 :: 3 :: 5 :: 2 :: 1 :: 0 :: 4 :: 8 :: 14 :: []) :: (11 :: 16 :: 10 :: 7 :: 9 :: 6 :: 3 :: 5 :: 2 :: 1 :: 0 :: 4 :: 8 :: 13 :: 15 :: 12 :: 14 :: []) :: (17 :: 11 :: 16 :: 10 :: 7 :: 9 :: 6 :: 3 :: 5 :: 2 :: 1 :: 0 :: 4 :: 8 :: 13 :: 15 :: 12 :: 14 :: []) :: (18 :: 17 :: 11 :: 16 :: 10 :: 7 :: 9 :: 6 :: 3 :: 5 :: 2 :: 1 :: 0 :: 4 :: 8 :: 13 :: 15 :: 12 :: 14 :: []) :: (19 :: 18 :: 17 :: 11 :: 16 :: 10 :: 7 :: 9 :: 6 :: 3 :: 5 :: 2 :: 1 :: 0 :: 4 :: 8 :: 13 :: 15 :: 12 :: 14 :: []) :: (18 :: 17 :: 11 :: 16 :: 10 :: 7 :: 9 :: 6 :: 3 :: 5 :: 2 :: 1 :: 0 :: 4 :: 8 :: 13 :: 15 :: 12 :: 14 :: []) :: (21 :: 18 :: 17 :: 11 :: 16 :: 10 :: 7 :: 9 :: 6 :: 3 :: 5 :: 2 :: 1 :: 0 :: 4 :: 8 :: 13 :: 15 :: 12 :: 14 :: []) :: (20 :: 22 :: 18 :: 19 :: 17 :: 11 :: 16 :: 10 :: 7 :: 9 :: 6 :: 3 :: 5 :: 2 :: 1 :: 0 :: 4 :: 8 :: 13 :: 15 :: 12 :: 14 :: 21 :: []) :: (18 :: 23 :: 17 :: 11 :: 16 :: 10 :: 7 :: 9 :: 6 :: 3 :: 5 :: 2 :: 1 :: 0 :: 4 :: 8 :: 13 :: 15 :: 12 :: 14 :: 20 :: 22 :: 19 :: 21 :: []) :: (24 :: 18 :: 23 :: 17 :: 11 :: 16 :: 10 :: 7 :: 9 :: 6 :: 3 :: 5 :: 2 :: 1 :: 0 :: 4 :: 8 :: 13 :: 15 :: 12 :: 14 :: 20 :: 22 :: 19 :: 21 :: []) :: (25 :: 24 :: 18 :: 23 :: 17 :: 11 :: 16 :: 10 :: 7 :: 9 :: 6 :: 3 :: 5 :: 2 :: 1 :: 0 :: 4 :: 8 :: 13 :: 15 :: 12 :: 14 :: 20 :: 22 :: 19 :: 21 :: []) :: (26 :: 25 :: 24 :: 18 :: 23 :: 17 :: 11 :: 16 :: 10 :: 7 :: 9 :: 6 :: 3 :: 5 :: 2 :: 1 :: 0 :: 4 :: 8 :: 13 :: 15 :: 12 :: 14 :: 20 :: 22 :: 19 :: 21 :: []) :: (27 :: 25 :: 26 :: 24 :: 18 :: 23 :: 17 :: 11 :: 16 :: 10 :: 7 :: 9 :: 6 :: 3 :: 5 :: 2 :: 1 :: 0 :: 4 :: 8 :: 13 :: 15 :: 12 :: 14 :: 20 :: 22 :: 19 :: 21 :: []) :: (25 :: 24 :: 18 :: 23 :: 17 :: 11 :: 16 :: 10 :: 7 :: 9 :: 6 :: 3 :: 5 :: 2 :: 1 :: 0 :: 4 :: 8 :: 13 :: 15 :: 12 :: 14 :: 20 :: 22 :: 19 :: 21 :: []) :: (29 :: 25 :: 24 :: 18 :: 23 :: 17 :: 11 :: 16 :: 10 :: 7 :: 9 :: 6 :: 3 :: 5 :: 2 :: 1 :: 0 :: 4 :: 8 :: 13 :: 15 :: 12 :: 14 :: 20 :: 22 :: 19 :: 21 :: []) :: (30 :: 25 :: 29 :: 24 :: 18 :: 23 :: 17 :: 11 :: 16 :: 10 :: 7 :: 9 :: 6 :: 3 :: 5 :: 2 :: 1 :: 0 :: 4 :: 8 :: 13 :: 15 :: 12 :: 14 :: 20 :: 22 :: 19 :: 21 :: []) :: (28 :: 31 :: 25 :: 27 :: 26 :: 24 :: 18 :: 23 :: 17 :: 11 :: 16 :: 10 :: 7 :: 9 :: 6 :: 3 :: 5 :: 2 :: 1 :: 0 :: 4 :: 8 :: 13 :: 15 :: 12 :: 14 :: 20 :: 22 :: 19 :: 21 :: 30 :: 29 :: []) :: (25 :: 32 :: 24 :: 18 :: 23 :: 17 :: 11 :: 16 :: 10 :: 7 :: 9 :: 6 :: 3 :: 5 :: 2 :: 1 :: 0 :: 4 :: 8 :: 13 :: 15 :: 12 :: 14 :: 20 :: 22 :: 19 :: 21 :: 28 :: 31 :: 27 :: 26 :: 30 :: 29 :: []) :: (33 :: 25 :: 32 :: 24 :: 18 :: 23 :: 17 :: 11 :: 16 :: 10 :: 7 :: 9 :: 6 :: 3 :: 5 :: 2 :: 1 :: 0 :: 4 :: 8 :: 13 :: 15 :: 12 :: 14 :: 20 :: 22 :: 19 :: 21 :: 28 :: 31 :: 27 :: 26 :: 30 :: 29 :: []) :: (34 :: 33 :: 25 :: 32 :: 24 :: 18 :: 23 :: 17 :: 11 :: 16 :: 10 :: 7 :: 9 :: 6 :: 3 :: 5 :: 2 :: 1 :: 0 :: 4 :: 8 :: 13 :: 15 :: 12 :: 14 :: 20 :: 22 :: 19 :: 21 :: 28 :: 31 :: 27 :: 26 :: 30 :: 29 :: []) :: (34 :: 33 :: 25 :: 32 :: 24 :: 18 :: 23 :: 17 :: 11 :: 16 :: 10 :: 7 :: 9 :: 6 :: 3 :: 5 :: 2 :: 1 :: 0 :: 4 :: 8 :: 13 :: 15 :: 12 :: 14 :: 20 :: 22 :: 19 :: 21 :: 28 :: 31 :: 27 :: 26 :: 30 :: 29 :: []) :: (35 :: 36 :: 34 :: 33 :: 25 :: 32 :: 24 :: 18 :: 23 :: 17 :: 11 :: 16 :: 10 :: 7 :: 9 :: 6 :: 3 :: 5 :: 2 :: 1 :: 0 :: 4 :: 8 :: 13 :: 15 :: 12 :: 14 :: 20 :: 22 :: 19 :: 21 :: 28 :: 31 :: 27 :: 26 :: 30 :: 29 :: []) :: (37 :: 34 :: 35 :: 36 :: 33 :: 25 :: 32 :: 24 :: 18 :: 23 :: 17 :: 11 :: 16 :: 10 :: 7 :: 9 :: 6 :: 3 :: 5 :: 2 :: 1 :: 0 :: 4 :: 8 :: 13 :: 15 :: 12 :: 14 :: 20 :: 22 :: 19 :: 21 :: 28 :: 31 :: 27 :: 26 :: 30 :: 29 :: []) :: (34 :: 38 :: 33 :: 25 :: 32 :: 24 :: 18 :: 23 :: 17 :: 11 :: 16 :: 10 :: 7 :: 9 :: 6 :: 3 :: 5 :: 2 :: 1 :: 0 :: 4 :: 8 :: 13 :: 15 :: 12 :: 14 :: 20 :: 22 :: 19 :: 21 :: 28 :: 31 :: 27 :: 26 :: 30 :: 29 :: 37 :: 35 :: 36 :: []) :: (39 :: 37 :: 34 :: 38 :: 33 :: 25 :: 32 :: 24 :: 18 :: 23 :: 17 :: 11 :: 16 :: 10 :: 7 :: 9 :: 6 :: 3 :: 5 :: 2 :: 1 :: 0 :: 4 :: 8 :: 13 :: 15 :: 12 :: 14 :: 20 :: 22 :: 19 :: 21 :: 28 :: 31 :: 27 :: 26 :: 30 :: 29 :: 35 :: 36 :: []) :: (40 :: 39 :: 37 :: 34 :: 38 :: 33 :: 25 :: 32 :: 24 :: 18 :: 23 :: 17 :: 11 :: 16 :: 10 :: 7 :: 9 :: 6 :: 3 :: 5 :: 2 :: 1 :: 0 :: 4 :: 8 :: 13 :: 15 :: 12 :: 14 :: 20 :: 22 :: 19 :: 21 :: 28 :: 31 :: 27 :: 26 :: 30 :: 29 :: 35 :: 36 :: []) :: (41 :: 40 :: 39 :: 37 :: 34 :: 38 :: 33 :: 25 :: 32 :: 24 :: 18 :: 23 :: 17 :: 11 :: 16 :: 10 :: 7 :: 9 :: 6 :: 3 :: 5 :: 2 :: 1 :: 0 :: 4 :: 8 :: 13 :: 15 :: 12 :: 14 :: 20 :: 22 :: 19 :: 21 :: 28 :: 31 :: 27 :: 26 :: 30 :: 29 :: 35 :: 36 :: []) :: (42 :: 40 :: 41 :: 39 :: 37 :: 34 :: 38 :: 33 :: 25 :: 32 :: 24 :: 18 :: 23 :: 17 :: 11 :: 16 :: 10 :: 7 :: 9 :: 6 :: 3 :: 5 :: 2 :: 1 :: 0 :: 4 :: 8 :: 13 :: 15 :: 12 :: 14 :: 20 :: 22 :: 19 :: 21 :: 28 :: 31 :: 27 :: 26 :: 30 :: 29 :: 35 :: 36 :: []) :: (43 :: 40 :: 42 :: 41 :: 39 :: 37 :: 34 :: 38 :: 33 :: 25 :: 32 :: 24 :: 18 :: 23 :: 17 :: 11 :: 16 :: 10 :: 7 :: 9 :: 6 :: 3 :: 5 :: 2 :: 1 :: 0 :: 4 :: 8 :: 13 :: 15 :: 12 :: 14 :: 20 :: 22 :: 19 :: 21 :: 28 :: 31 :: 27 :: 26 :: 30 :: 29 :: 35 :: 36 :: []) :: (44 :: 43 :: 40 :: 42 :: 41 :: 39 :: 37 :: 34 :: 38 :: 33 :: 25 :: 32 :: 24 :: 18 :: 23 :: 17 :: 11 :: 16 :: 10 :: 7 :: 9 :: 6 :: 3 :: 5 :: 2 :: 1 :: 0 :: 4 :: 8 :: 13 :: 15 :: 12 :: 14 :: 20 :: 22 :: 19 :: 21 :: 28 :: 31 :: 27 :: 26 :: 30 :: 29 :: 35 :: 36 :: []) :: (45 :: 44 :: 43 :: 40 :: 42 :: 41 :: 39 :: 37 :: 34 :: 38 :: 33 :: 25 :: 32 :: 24 :: 18 :: 23 :: 17 :: 11 :: 16 :: 10 :: 7 :: 9 :: 6 :: 3 :: 5 :: 2 :: 1 :: 0 :: 4 :: 8 :: 13 :: 15 :: 12 :: 14 :: 20 :: 22 :: 19 :: 21 :: 28 :: 31 :: 27 :: 26 :: 30 :: 29 :: 35 :: 36 :: []) :: (44 :: 43 :: 40 :: 42 :: 41 :: 39 :: 37 :: 34 :: 38 :: 33 :: 25 :: 32 :: 24 :: 18 :: 23 :: 17 :: 11 :: 16 :: 10 :: 7 :: 9 :: 6 :: 3 :: 5 :: 2 :: 1 :: 0 :: 4 :: 8 :: 13 :: 15 :: 12 :: 14 :: 20 :: 22 :: 19 :: 21 :: 28 :: 31 :: 27 :: 26 :: 30 :: 29 :: 35 :: 36 :: []) :: (47 :: 44 :: 43 :: 40 :: 42 :: 41 :: 39 :: 37 :: 34 :: 38 :: 33 :: 25 :: 32 :: 24 :: 18 :: 23 :: 17 :: 11 :: 16 :: 10 :: 7 :: 9 :: 6 :: 3 :: 5 :: 2 :: 1 :: 0 :: 4 :: 8 :: 13 :: 15 :: 12 :: 14 :: 20 :: 22 :: 19 :: 21 :: 28 :: 31 :: 27 :: 26 :: 30 :: 29 :: 35 :: 36 :: []) :: (46 :: 48 :: 44 :: 45 :: 43 :: 40 :: 42 :: 41 :: 39 :: 37 :: 34 :: 38 :: 33 :: 25 :: 32 :: 24 :: 18 :: 23 :: 17 :: 11 :: 16 :: 10 :: 7 :: 9 :: 6 :: 3 :: 5 :: 2 :: 1 :: 0 :: 4 :: 8 :: 13 :: 15 :: 12 :: 14 :: 20 :: 22 :: 19 :: 21 :: 28 :: 31 :: 27 :: 26 :: 30 :: 29 :: 35 :: 36 :: 47 :: []) :: (49 :: 44 :: 46 :: 48 :: 45 :: 43 :: 40 :: 42 :: 41 :: 39 :: 37 :: 34 :: 38 :: 33 :: 25 :: 32 :: 24 :: 18 :: 23 :: 17 :: 11 :: 16 :: 10 :: 7 :: 9 :: 6 :: 3 :: 5 :: 2 :: 1 :: 0 :: 4 :: 8 :: 13 :: 15 :: 12 :: 14 :: 20 :: 22 :: 19 :: 21 :: 28 :: 31 :: 27 :: 26 :: 30 :: 29 :: 35 :: 36 :: 47 :: []) :: (44 :: 50 :: 40 :: 43 :: 42 :: 41 :: 39 :: 37 :: 34 :: 38 :: 33 :: 25 :: 32 :: 24 :: 18 :: 23 :: 17 :: 11 :: 16 :: 10 :: 7 :: 9 :: 6 :: 3 :: 5 :: 2 :: 1 :: 0 :: 4 :: 8 :: 13 :: 15 :: 12 :: 14 :: 20 :: 22 :: 19 :: 21 :: 28 :: 31 :: 27 :: 26 :: 30 :: 29 :: 35 :: 36 :: 49 :: 46 :: 48 :: 45 :: 47 :: []) :: (40 :: 51 :: 39 :: 37 :: 34 :: 38 :: 33 :: 25 :: 32 :: 24 :: 18 :: 23 :: 17 :: 11 :: 16 :: 10 :: 7 :: 9 :: 6 :: 3 :: 5 :: 2 :: 1 :: 0 :: 4 :: 8 :: 13 :: 15 :: 12 :: 14 :: 20 :: 22 :: 19 :: 21 :: 28 :: 31 :: 27 :: 26 :: 30 :: 29 :: 35 :: 36 :: 44 :: 50 :: 43 :: 42 :: 41 :: 49 :: 46 :: 48 :: 45 :: 47 :: []) :: [])
def fk12a_kill : List (List Nat) := ([] :: [] :: [] :: [] :: [] :: [] :: [] :: [] :: [] :: [] :: [] :: [] :: [] :: [] :: [] :: [] :: [] :: [] :: [] :: [] :: [] :: [] :: [] :: [] :: [] :: [] :: [] :: [] :: [] :: [] :: [] :: [] :: [] :: [] :: [] :: [] :: [] :: [] :: [] :: [] :: [] :: [] :: [] :: [] :: [] :: [] :: [] :: [] :: [] :: [] :: [] :: [] :: [] :: [])
def fk12a_uses : List (List Nat) := ([] :: [] :: [] :: [] :: [] :: [] :: [] :: [] :: [] :: [] :: [] :: [] :: [] :: [] :: [] :: [] :: [] :: [] :: [] :: [] :: [] :: [] :: [] :: [] :: [] :: [] :: [] :: [] :: [] :: [] :: [] :: [] :: [] :: [] :: [] :: [] :: [] :: [] :: [] :: [] :: [] :: [] :: [] :: [] :: [] :: [] :: [] :: [] :: [] :: [] :: [] :: [] :: [] :: [])
noncomputable def fk12a_code : Code := ((Try.f6.body.bind (codeRegion 12)).getD .skip)
set_option maxRecDepth 100000 in
set_option maxHeartbeats 4000000 in
theorem fk12a_in (y : Ms) (p1 o1 s1 p2 o2 s2 : Value) (Au Av : Option Addr) (ct kd pad L cu cv pb yb zb wb : Nat) (bs : List Nat) (hl : y.pairs.length ≤ 300 ∧ y.orders.length ≤ 300 ∧ y.srcs.length ≤ 300) (hr : rightMs y = true) (hf : MFit y) (h3 : y.sort ≠ 3) (hL : bs.length ≤ 1200) (u0 u1 u2 u3 u4 u6 u7 u8 u9 u10 u11 u12 u14 u19 u20 u21 u22 u23 u24 u25 u26 u27 u28 u29 u30 u31 u32 u33 u34 u35 u36 u37 u38 u39 u40 u41 u42 u43 u44 u45 u46 u47 u48 u49 u50 u51 u52 u53 u54 u55 u56 u57 u58 u59 u60 u61 u62 u63 u64 u65 u66 u67 u68 u69 u70 u71 u72 u73 u74 u75 u76 u77 u78 u79 u80 u81 u82 u83 u84 u85 u86 u87 u88 u89 u90 u91 u92 u93 u94 u95 u96 u97 u98 u99 u100 u101 u102 u103 u104 u105 u106 u107 u108 u109 u110 u111 u112 u113 u114 u115 u116 u117 u118 u119 u120 u121 u122 u123 u124 u125 u126 u127 u128 u129 u130 u131 u132 u133 u134 u135 u136 u137 u138 u139 u140 u141 u142 u143 u144 u145 u146 u147 u148 u149 u150 u151 u152 u153 u154 u155 u156 u157 u158 u159 u160 u161 u162 u163 u164 u165 u166 u167 u168 u169 u170 u171 u172 u173 u174 u175 u176 u177 u178 u179 u180 u181 u182 u183 u184 u185 u186 u187 u188 u189 u190 u191 u192 u193 u194 u195 u196 u197 u198 u199 u200 u201 u202 u203 u204 : Value) (w0 : World) (hP : Is w0 pb 41 #[.int .u8 (ct : Nat), .int .u8 (kd : Nat), .slice Av L cv, .int .u8 (pad : Nat)]) (hY : Is w0 yb 27 (y.cls p1 o1 s1)) (hZ : Is w0 zb 41 #[.int .u8 (ct : Nat), .int .u8 (kd : Nat), .slice Au L cu, .int .u8 (0 : Nat)]) (hW : Is w0 wb 27 (y.cls p2 o2 s2)) (hDy : RdM y p1 o1 s1 w0) (hDw : RdM y p2 o2 s2 w0) (hs1 : Src w0 (.slice Au L cu) bs) (hs2 : Src w0 (.slice Av L cv) bs) :
    Code.wp Try.prog fk12a_code (fun e a w' => ∃ y89 y90 y91 y92 y93 y94 y95 y96 y97 y98 y99 y100 y101 y102 y103 y104 y105 y106 y107 y108 y109 y110 y111 y112 y113 y114 y115 y116 y117 y118 y119 y120 y121 y122 y123 y124 y125 y126 y127 y128 y129 y130 y131 y132 y133 y134 y135 y136 y137 y138 y139 y140 : Value, a = ⟨(List.toArray (u0 :: u1 :: u2 :: u3 :: u4 :: .pointer (some ⟨pb, 0, none⟩) :: u6 :: u7 :: u8 :: u9 :: u10 :: u11 :: u12 :: .pointer (some ⟨yb, 0, none⟩) :: u14 :: .pointer (some ⟨zb, 0, none⟩) :: .int .i64 0 :: .pointer (some ⟨wb, 0, none⟩) :: .int .i64 0 :: u19 :: u20 :: u21 :: u22 :: u23 :: u24 :: u25 :: u26 :: u27 :: u28 :: u29 :: u30 :: u31 :: u32 :: u33 :: u34 :: u35 :: u36 :: u37 :: u38 :: u39 :: u40 :: u41 :: u42 :: u43 :: u44 :: u45 :: u46 :: u47 :: u48 :: u49 :: u50 :: u51 :: u52 :: u53 :: u54 :: u55 :: u56 :: u57 :: u58 :: u59 :: u60 :: u61 :: u62 :: u63 :: u64 :: u65 :: u66 :: u67 :: u68 :: u69 :: u70 :: u71 :: u72 :: u73 :: u74 :: u75 :: u76 :: u77 :: u78 :: u79 :: u80 :: u81 :: u82 :: u83 :: u84 :: u85 :: u86 :: u87 :: u88 :: y89 :: y90 :: y91 :: y92 :: y93 :: y94 :: y95 :: y96 :: y97 :: y98 :: y99 :: y100 :: y101 :: y102 :: y103 :: y104 :: y105 :: y106 :: y107 :: y108 :: y109 :: y110 :: y111 :: y112 :: y113 :: y114 :: y115 :: y116 :: y117 :: y118 :: y119 :: y120 :: y121 :: y122 :: y123 :: y124 :: y125 :: y126 :: y127 :: y128 :: y129 :: y130 :: y131 :: y132 :: y133 :: y134 :: y135 :: y136 :: y137 :: y138 :: y139 :: y140 :: .bool false :: u142 :: u143 :: u144 :: u145 :: u146 :: u147 :: u148 :: u149 :: u150 :: u151 :: u152 :: u153 :: u154 :: u155 :: u156 :: u157 :: u158 :: u159 :: u160 :: u161 :: u162 :: u163 :: u164 :: u165 :: u166 :: u167 :: u168 :: u169 :: u170 :: u171 :: u172 :: u173 :: u174 :: u175 :: u176 :: u177 :: u178 :: u179 :: u180 :: u181 :: u182 :: u183 :: u184 :: u185 :: u186 :: u187 :: u188 :: u189 :: u190 :: u191 :: u192 :: u193 :: u194 :: u195 :: u196 :: u197 :: u198 :: u199 :: u200 :: u201 :: u202 :: u203 :: u204 :: [])), []⟩ ∧ e = .normal ∧ Only (fun _ => False) w0 w') ⟨(List.toArray (u0 :: u1 :: u2 :: u3 :: u4 :: .pointer (some ⟨pb, 0, none⟩) :: u6 :: u7 :: u8 :: u9 :: u10 :: u11 :: u12 :: .pointer (some ⟨yb, 0, none⟩) :: u14 :: .pointer (some ⟨zb, 0, none⟩) :: .int .i64 0 :: .pointer (some ⟨wb, 0, none⟩) :: .int .i64 0 :: u19 :: u20 :: u21 :: u22 :: u23 :: u24 :: u25 :: u26 :: u27 :: u28 :: u29 :: u30 :: u31 :: u32 :: u33 :: u34 :: u35 :: u36 :: u37 :: u38 :: u39 :: u40 :: u41 :: u42 :: u43 :: u44 :: u45 :: u46 :: u47 :: u48 :: u49 :: u50 :: u51 :: u52 :: u53 :: u54 :: u55 :: u56 :: u57 :: u58 :: u59 :: u60 :: u61 :: u62 :: u63 :: u64 :: u65 :: u66 :: u67 :: u68 :: u69 :: u70 :: u71 :: u72 :: u73 :: u74 :: u75 :: u76 :: u77 :: u78 :: u79 :: u80 :: u81 :: u82 :: u83 :: u84 :: u85 :: u86 :: u87 :: u88 :: u89 :: u90 :: u91 :: u92 :: u93 :: u94 :: u95 :: u96 :: u97 :: u98 :: u99 :: u100 :: u101 :: u102 :: u103 :: u104 :: u105 :: u106 :: u107 :: u108 :: u109 :: u110 :: u111 :: u112 :: u113 :: u114 :: u115 :: u116 :: u117 :: u118 :: u119 :: u120 :: u121 :: u122 :: u123 :: u124 :: u125 :: u126 :: u127 :: u128 :: u129 :: u130 :: u131 :: u132 :: u133 :: u134 :: u135 :: u136 :: u137 :: u138 :: u139 :: u140 :: u141 :: u142 :: u143 :: u144 :: u145 :: u146 :: u147 :: u148 :: u149 :: u150 :: u151 :: u152 :: u153 :: u154 :: u155 :: u156 :: u157 :: u158 :: u159 :: u160 :: u161 :: u162 :: u163 :: u164 :: u165 :: u166 :: u167 :: u168 :: u169 :: u170 :: u171 :: u172 :: u173 :: u174 :: u175 :: u176 :: u177 :: u178 :: u179 :: u180 :: u181 :: u182 :: u183 :: u184 :: u185 :: u186 :: u187 :: u188 :: u189 :: u190 :: u191 :: u192 :: u193 :: u194 :: u195 :: u196 :: u197 :: u198 :: u199 :: u200 :: u201 :: u202 :: u203 :: u204 :: [])), []⟩ w0 := by
  conv => arg 2; whnf
  have HRI := Lib.hid (fun (wx : World) (h : Only (fun _ => False) w0 wx) => by
    have := fright_is y p1 o1 s1 wx (hDy.only h) (by omega) hf.mant hf.exp
    rwa [hr] at this)
  have HSM := Lib.hid (fun (wx : World) (h : Only (fun _ => False) w0 wx) => by
    have := fsame_is y y p2 o2 s2 p1 o1 s1 wx (hDw.only h) (hDy.only h) (by omega) (by omega)
    rwa [same_self] at this)
  have HSB := Lib.hid (fun (wx : World) (h : Only (fun _ => False) w0 wx) => kitsame_yes (.slice Au L cu) (.slice Av L cv) bs wx (hs1.of_only h) (hs2.of_only h) (by omega))
  have h3e : ((y.sort : Int) != 3) = true := by rw [bne_iff_ne]; omega
  clear hl hr hf h3 hDy hDw hs1 hs2 hL
  refine wp_region_text fk12a_A [1, 37, 49] [] fk12a_kill fk12a_uses [] [] [] []
      (some ?v0 :: some (.bool true) :: some ?v2 :: some ?v3 :: some ?v4 :: some (.bool false) :: some ?v6 :: some ?v7 :: some ?v8 :: some (.bool false) :: some ?v10 :: some ?v11 :: some ?v12 :: some ?v13 :: some ?v14 :: some ?v15 :: some (.bool false) :: some ?v17 :: some ?v18 :: some ?v19 :: some ?v20 :: some ?v21 :: some ?v22 :: some (.bool false) :: some ?v24 :: some ?v25 :: some ?v26 :: some ?v27 :: some ?v28 :: some ?v29 :: some ?v30 :: some ?v31 :: some (.bool false) :: some ?v33 :: some ?v34 :: some ?v35 :: some ?v36 :: some (.bool true) :: some ?v38 :: some ?v39 :: some ?v40 :: some ?v41 :: some ?v42 :: some (.bool true) :: some ?v44 :: some ?v45 :: some ?v46 :: some ?v47 :: some ?v48 :: some (.bool true) :: some ?v50 :: some ?v51 :: some ?v52 :: [])
      ?T (fun wx => Only (fun _ => False) w0 wx) ?W ?E (by kernel_rfl) (by kernel_rfl) (by kernel_rfl) (fun x => ?hT) ?hF ?hini (Reg.all_ops ?runs) ?pres ?fin
  case W => exact fun j x wz => True
  case E => exact fun _ wx wy => Only (fun _ => False) wx wy
  case hT =>
    simp only [Reg.fillV, Act.put, List.setIfInBounds_toArray, List.set_cons_zero, List.set_cons_succ]
    rfl
  case runs =>
    refine And.intro ?_ ?_
    · refine Reg.ob_pure (fun _ => rfl) rfl rfl rfl rfl (fun x w1 hF => ?_)
      obtain ⟨m0, m1, m2, m3, m4, m5, m6, m7⟩ := cls_cells (hY.only hF (by simp))
      go_simp
      with_reducible rfl
    refine And.intro ?_ ?_
    · refine Reg.ob_known (fun _ => rfl) rfl rfl (fun x w1 hF hU K hK => ?_)
      have hF := hF rfl
      go_simp
      refine (HRI.out w1 hF).mono ?_
      rintro e w5 ⟨rfl, ho⟩
      exact hK _ (fun _ _ _ => hF.trans ho (fun _ _ e => e)) ho
    refine And.intro ?_ ?_
    · refine Reg.ob_pure (fun _ => rfl) rfl rfl rfl rfl (fun x w1 hF => ?_)
      go_simp
      with_reducible rfl
    refine And.intro ?_ ?_
    · refine Reg.ob_pure (fun _ => rfl) rfl rfl rfl rfl (fun x w1 hF => ?_)
      go_simp
      with_reducible rfl
    refine And.intro ?_ ?_
    · refine Reg.ob_pure (fun _ => rfl) rfl rfl rfl rfl (fun x w1 hF => ?_)
      go_simp
      with_reducible rfl
    refine And.intro ?_ ?_
    · refine Reg.ob_pure (fun _ => rfl) rfl rfl rfl rfl (fun x w1 hF => ?_)
      go_simp
    refine And.intro ?_ ?_
    · refine Reg.ob_pure (fun _ => rfl) rfl rfl rfl rfl (fun x w1 hF => ?_)
      go_simp
      with_reducible rfl
    refine And.intro ?_ ?_
    · refine Reg.ob_pure (fun _ => rfl) rfl rfl rfl rfl (fun x w1 hF => ?_)
      go_simp
      with_reducible rfl
    refine And.intro ?_ ?_
    · refine Reg.ob_pure (fun _ => rfl) rfl rfl rfl rfl (fun x w1 hF => ?_)
      go_simp
      with_reducible rfl
    refine And.intro ?_ ?_
    · refine Reg.ob_pure (fun _ => rfl) rfl rfl rfl rfl (fun x w1 hF => ?_)
      go_simp
    refine And.intro ?_ ?_
    · refine Reg.ob_pure (fun _ => rfl) rfl rfl rfl rfl (fun x w1 hF => ?_)
      go_simp
      with_reducible rfl
    refine And.intro ?_ ?_
    · refine Reg.ob_pure (fun _ => rfl) rfl rfl rfl rfl (fun x w1 hF => ?_)
      go_simp
      with_reducible rfl
    refine And.intro ?_ ?_
    · refine Reg.ob_pure (fun _ => rfl) rfl rfl rfl rfl (fun x w1 hF => ?_)
      go_simp
      with_reducible rfl
    refine And.intro ?_ ?_
    · refine Reg.ob_pure (fun _ => rfl) rfl rfl rfl rfl (fun x w1 hF => ?_)
      have m0 := (hZ.only hF (by simp)).cell 0
      have m1 := (hZ.only hF (by simp)).cell 1
      have m2 := (hZ.only hF (by simp)).cell 2
      have m3 := (hZ.only hF (by simp)).cell 3
      simp at m0 m1 m2 m3
      go_simp
      with_reducible rfl
    refine And.intro ?_ ?_
    · refine Reg.ob_pure (fun _ => rfl) rfl rfl rfl rfl (fun x w1 hF => ?_)
      go_simp
      with_reducible rfl
    refine And.intro ?_ ?_
    · refine Reg.ob_pure (fun _ => rfl) rfl rfl rfl rfl (fun x w1 hF => ?_)
      have m0 := (hP.only hF (by simp)).cell 0
      have m1 := (hP.only hF (by simp)).cell 1
      have m2 := (hP.only hF (by simp)).cell 2
      have m3 := (hP.only hF (by simp)).cell 3
      simp at m0 m1 m2 m3
      go_simp
      with_reducible rfl
    refine And.intro ?_ ?_
    · refine Reg.ob_pure (fun _ => rfl) rfl rfl rfl rfl (fun x w1 hF => ?_)
      go_simp
    refine And.intro ?_ ?_
    · refine Reg.ob_pure (fun _ => rfl) rfl rfl rfl rfl (fun x w1 hF => ?_)
      go_simp
      with_reducible rfl
    refine And.intro ?_ ?_
    · refine Reg.ob_pure (fun _ => rfl) rfl rfl rfl rfl (fun x w1 hF => ?_)
      go_simp
      with_reducible rfl
    refine And.intro ?_ ?_
    · refine Reg.ob_pure (fun _ => rfl) rfl rfl rfl rfl (fun x w1 hF => ?_)
      go_simp
      with_reducible rfl
    refine And.intro ?_ ?_
    · refine Reg.ob_pure (fun _ => rfl) rfl rfl rfl rfl (fun x w1 hF => ?_)
      have m0 := (hZ.only hF (by simp)).cell 0
      have m1 := (hZ.only hF (by simp)).cell 1
      have m2 := (hZ.only hF (by simp)).cell 2
      have m3 := (hZ.only hF (by simp)).cell 3
      simp at m0 m1 m2 m3
      go_simp
      with_reducible rfl
    refine And.intro ?_ ?_
    · refine Reg.ob_pure (fun _ => rfl) rfl rfl rfl rfl (fun x w1 hF => ?_)
      go_simp
      with_reducible rfl
    refine And.intro ?_ ?_
    · refine Reg.ob_pure (fun _ => rfl) rfl rfl rfl rfl (fun x w1 hF => ?_)
      have m0 := (hP.only hF (by simp)).cell 0
      have m1 := (hP.only hF (by simp)).cell 1
      have m2 := (hP.only hF (by simp)).cell 2
      have m3 := (hP.only hF (by simp)).cell 3
      simp at m0 m1 m2 m3
      go_simp
      with_reducible rfl
    refine And.intro ?_ ?_
    · refine Reg.ob_pure (fun _ => rfl) rfl rfl rfl rfl (fun x w1 hF => ?_)
      go_simp
    refine And.intro ?_ ?_
    · refine Reg.ob_pure (fun _ => rfl) rfl rfl rfl rfl (fun x w1 hF => ?_)
      go_simp
      with_reducible rfl
    refine And.intro ?_ ?_
    · refine Reg.ob_pure (fun _ => rfl) rfl rfl rfl rfl (fun x w1 hF => ?_)
      go_simp
      with_reducible rfl
    refine And.intro ?_ ?_
    · refine Reg.ob_pure (fun _ => rfl) rfl rfl rfl rfl (fun x w1 hF => ?_)
      go_simp
      with_reducible rfl
    refine And.intro ?_ ?_
    · refine Reg.ob_pure (fun _ => rfl) rfl rfl rfl rfl (fun x w1 hF => ?_)
      have m0 := (hZ.only hF (by simp)).cell 0
      have m1 := (hZ.only hF (by simp)).cell 1
      have m2 := (hZ.only hF (by simp)).cell 2
      have m3 := (hZ.only hF (by simp)).cell 3
      simp at m0 m1 m2 m3
      go_simp
      with_reducible rfl
    refine And.intro ?_ ?_
    · refine Reg.ob_pure (fun _ => rfl) rfl rfl rfl rfl (fun x w1 hF => ?_)
      go_simp
      with_reducible rfl
    refine And.intro ?_ ?_
    · refine Reg.ob_pure (fun _ => rfl) rfl rfl rfl rfl (fun x w1 hF => ?_)
      go_simp
      with_reducible rfl
    refine And.intro ?_ ?_
    · refine Reg.ob_pure (fun _ => rfl) rfl rfl rfl rfl (fun x w1 hF => ?_)
      have m0 := (hP.only hF (by simp)).cell 0
      have m1 := (hP.only hF (by simp)).cell 1
      have m2 := (hP.only hF (by simp)).cell 2
      have m3 := (hP.only hF (by simp)).cell 3
      simp at m0 m1 m2 m3
      go_simp
      with_reducible rfl
    refine And.intro ?_ ?_
    · refine Reg.ob_pure (fun _ => rfl) rfl rfl rfl rfl (fun x w1 hF => ?_)
      go_simp
      with_reducible rfl
    refine And.intro ?_ ?_
    · refine Reg.ob_pure (fun _ => rfl) rfl rfl rfl rfl (fun x w1 hF => ?_)
      go_simp
    refine And.intro ?_ ?_
    · refine Reg.ob_pure (fun _ => rfl) rfl rfl rfl rfl (fun x w1 hF => ?_)
      go_simp
      with_reducible rfl
    refine And.intro ?_ ?_
    · refine Reg.ob_pure (fun _ => rfl) rfl rfl rfl rfl (fun x w1 hF => ?_)
      go_simp
      with_reducible rfl
    refine And.intro ?_ ?_
    · refine Reg.ob_pure (fun _ => rfl) rfl rfl rfl rfl (fun x w1 hF => ?_)
      obtain ⟨m0, m1, m2, m3, m4, m5, m6, m7⟩ := cls_cells (hW.only hF (by simp))
      go_simp
      with_reducible rfl
    refine And.intro ?_ ?_
    · refine Reg.ob_pure (fun _ => rfl) rfl rfl rfl rfl (fun x w1 hF => ?_)
      obtain ⟨m0, m1, m2, m3, m4, m5, m6, m7⟩ := cls_cells (hY.only hF (by simp))
      go_simp
      with_reducible rfl
    refine And.intro ?_ ?_
    · refine Reg.ob_known (fun _ => rfl) rfl rfl (fun x w1 hF hU K hK => ?_)
      have hF := hF rfl
      go_simp
      refine (HSM.out w1 hF).mono ?_
      rintro e w5 ⟨rfl, ho⟩
      exact hK _ (fun _ _ _ => hF.trans ho (fun _ _ e => e)) ho
    refine And.intro ?_ ?_
    · refine Reg.ob_pure (fun _ => rfl) rfl rfl rfl rfl (fun x w1 hF => ?_)
      go_simp
      with_reducible rfl
    refine And.intro ?_ ?_
    · refine Reg.ob_pure (fun _ => rfl) rfl rfl rfl rfl (fun x w1 hF => ?_)
      go_simp
      with_reducible rfl
    refine And.intro ?_ ?_
    · refine Reg.ob_pure (fun _ => rfl) rfl rfl rfl rfl (fun x w1 hF => ?_)
      go_simp
      with_reducible rfl
    refine And.intro ?_ ?_
    · refine Reg.ob_pure (fun _ => rfl) rfl rfl rfl rfl (fun x w1 hF => ?_)
      go_simp
      with_reducible rfl
    refine And.intro ?_ ?_
    · refine Reg.ob_pure (fun _ => rfl) rfl rfl rfl rfl (fun x w1 hF => ?_)
      obtain ⟨m0, m1, m2, m3, m4, m5, m6, m7⟩ := cls_cells (hY.only hF (by simp))
      go_simp
      with_reducible rfl
    refine And.intro ?_ ?_
    · refine Reg.ob_pure (fun _ => rfl) rfl rfl rfl rfl (fun x w1 hF => ?_)
      go_simp
    refine And.intro ?_ ?_
    · refine Reg.ob_pure (fun _ => rfl) rfl rfl rfl rfl (fun x w1 hF => ?_)
      go_simp
      with_reducible rfl
    refine And.intro ?_ ?_
    · refine Reg.ob_pure (fun _ => rfl) rfl rfl rfl rfl (fun x w1 hF => ?_)
      go_simp
      with_reducible rfl
    refine And.intro ?_ ?_
    · refine Reg.ob_pure (fun _ => rfl) rfl rfl rfl rfl (fun x w1 hF => ?_)
      have m0 := (hZ.only hF (by simp)).cell 0
      have m1 := (hZ.only hF (by simp)).cell 1
      have m2 := (hZ.only hF (by simp)).cell 2
      have m3 := (hZ.only hF (by simp)).cell 3
      simp at m0 m1 m2 m3
      go_simp
      with_reducible rfl
    refine And.intro ?_ ?_
    · refine Reg.ob_pure (fun _ => rfl) rfl rfl rfl rfl (fun x w1 hF => ?_)
      go_simp
      with_reducible rfl
    refine And.intro ?_ ?_
    · refine Reg.ob_pure (fun _ => rfl) rfl rfl rfl rfl (fun x w1 hF => ?_)
      have m0 := (hP.only hF (by simp)).cell 0
      have m1 := (hP.only hF (by simp)).cell 1
      have m2 := (hP.only hF (by simp)).cell 2
      have m3 := (hP.only hF (by simp)).cell 3
      simp at m0 m1 m2 m3
      go_simp
      with_reducible rfl
    refine And.intro ?_ ?_
    · refine Reg.ob_known (fun _ => rfl) rfl rfl (fun x w1 hF hU K hK => ?_)
      have hF := hF rfl
      go_simp
      refine (HSB.out w1 hF).mono ?_
      rintro e w5 ⟨rfl, ho⟩
      exact hK _ (fun _ _ _ => hF.trans ho (fun _ _ e => e)) ho
    refine And.intro ?_ ?_
    · refine Reg.ob_pure (fun _ => rfl) rfl rfl rfl rfl (fun x w1 hF => ?_)
      go_simp
      with_reducible rfl
    refine And.intro ?_ ?_
    · refine Reg.ob_pure (fun _ => rfl) rfl rfl rfl rfl (fun x w1 hF => ?_)
      go_simp
      with_reducible rfl
    refine And.intro ?_ ?_
    · refine Reg.ob_pure (fun _ => rfl) rfl rfl rfl rfl (fun x w1 hF => ?_)
      go_simp
      with_reducible rfl
    exact trivial
  case hF =>
    exact Only.refl _ w0
  case hini =>
    exact trivial
  case pres =>
    intro i hi j hj hc x wx wy hF hE hW
    simp only [List.mem_cons, List.mem_nil_iff, or_false] at hj
  case fin =>
    rintro x w9 hF hU
    repeat apply Exists.intro
    exact ⟨rfl, rfl, hF rfl⟩

set_option maxRecDepth 100000 in
set_option maxHeartbeats 4000000 in
theorem fk12a (y : Ms) (p1 o1 s1 p2 o2 s2 : Value) (Au Av : Option Addr) (ct kd pad L cu cv pb yb zb wb : Nat) (bs : List Nat) (hl : y.pairs.length ≤ 300 ∧ y.orders.length ≤ 300 ∧ y.srcs.length ≤ 300) (hr : rightMs y = true) (hf : MFit y) (h3 : y.sort ≠ 3) (hL : bs.length ≤ 1200) (u0 u1 u2 u3 u4 u6 u7 u8 u9 u10 u11 u12 u14 u19 u20 u21 u22 u23 u24 u25 u26 u27 u28 u29 u30 u31 u32 u33 u34 u35 u36 u37 u38 u39 u40 u41 u42 u43 u44 u45 u46 u47 u48 u49 u50 u51 u52 u53 u54 u55 u56 u57 u58 u59 u60 u61 u62 u63 u64 u65 u66 u67 u68 u69 u70 u71 u72 u73 u74 u75 u76 u77 u78 u79 u80 u81 u82 u83 u84 u85 u86 u87 u88 u89 u90 u91 u92 u93 u94 u95 u96 u97 u98 u99 u100 u101 u102 u103 u104 u105 u106 u107 u108 u109 u110 u111 u112 u113 u114 u115 u116 u117 u118 u119 u120 u121 u122 u123 u124 u125 u126 u127 u128 u129 u130 u131 u132 u133 u134 u135 u136 u137 u138 u139 u140 u141 u142 u143 u144 u145 u146 u147 u148 u149 u150 u151 u152 u153 u154 u155 u156 u157 u158 u159 u160 u161 u162 u163 u164 u165 u166 u167 u168 u169 u170 u171 u172 u173 u174 u175 u176 u177 u178 u179 u180 u181 u182 u183 u184 u185 u186 u187 u188 u189 u190 u191 u192 u193 u194 u195 u196 u197 u198 u199 u200 u201 u202 u203 u204 : Value) (Q : Exit → Act → World → Prop) (w0 : World) (hP : Is w0 pb 41 #[.int .u8 (ct : Nat), .int .u8 (kd : Nat), .slice Av L cv, .int .u8 (pad : Nat)]) (hY : Is w0 yb 27 (y.cls p1 o1 s1)) (hZ : Is w0 zb 41 #[.int .u8 (ct : Nat), .int .u8 (kd : Nat), .slice Au L cu, .int .u8 (0 : Nat)]) (hW : Is w0 wb 27 (y.cls p2 o2 s2)) (hDy : RdM y p1 o1 s1 w0) (hDw : RdM y p2 o2 s2 w0) (hs1 : Src w0 (.slice Au L cu) bs) (hs2 : Src w0 (.slice Av L cv) bs)
    (hend : ∀ (y89 y90 y91 y92 y93 y94 y95 y96 y97 y98 y99 y100 y101 y102 y103 y104 y105 y106 y107 y108 y109 y110 y111 y112 y113 y114 y115 y116 y117 y118 y119 y120 y121 y122 y123 y124 y125 y126 y127 y128 y129 y130 y131 y132 y133 y134 y135 y136 y137 y138 y139 y140 : Value) (w' : World), Only (fun _ => False) w0 w' → Q .normal ⟨(List.toArray (u0 :: u1 :: u2 :: u3 :: u4 :: .pointer (some ⟨pb, 0, none⟩) :: u6 :: u7 :: u8 :: u9 :: u10 :: u11 :: u12 :: .pointer (some ⟨yb, 0, none⟩) :: u14 :: .pointer (some ⟨zb, 0, none⟩) :: .int .i64 0 :: .pointer (some ⟨wb, 0, none⟩) :: .int .i64 0 :: u19 :: u20 :: u21 :: u22 :: u23 :: u24 :: u25 :: u26 :: u27 :: u28 :: u29 :: u30 :: u31 :: u32 :: u33 :: u34 :: u35 :: u36 :: u37 :: u38 :: u39 :: u40 :: u41 :: u42 :: u43 :: u44 :: u45 :: u46 :: u47 :: u48 :: u49 :: u50 :: u51 :: u52 :: u53 :: u54 :: u55 :: u56 :: u57 :: u58 :: u59 :: u60 :: u61 :: u62 :: u63 :: u64 :: u65 :: u66 :: u67 :: u68 :: u69 :: u70 :: u71 :: u72 :: u73 :: u74 :: u75 :: u76 :: u77 :: u78 :: u79 :: u80 :: u81 :: u82 :: u83 :: u84 :: u85 :: u86 :: u87 :: u88 :: y89 :: y90 :: y91 :: y92 :: y93 :: y94 :: y95 :: y96 :: y97 :: y98 :: y99 :: y100 :: y101 :: y102 :: y103 :: y104 :: y105 :: y106 :: y107 :: y108 :: y109 :: y110 :: y111 :: y112 :: y113 :: y114 :: y115 :: y116 :: y117 :: y118 :: y119 :: y120 :: y121 :: y122 :: y123 :: y124 :: y125 :: y126 :: y127 :: y128 :: y129 :: y130 :: y131 :: y132 :: y133 :: y134 :: y135 :: y136 :: y137 :: y138 :: y139 :: y140 :: .bool false :: u142 :: u143 :: u144 :: u145 :: u146 :: u147 :: u148 :: u149 :: u150 :: u151 :: u152 :: u153 :: u154 :: u155 :: u156 :: u157 :: u158 :: u159 :: u160 :: u161 :: u162 :: u163 :: u164 :: u165 :: u166 :: u167 :: u168 :: u169 :: u170 :: u171 :: u172 :: u173 :: u174 :: u175 :: u176 :: u177 :: u178 :: u179 :: u180 :: u181 :: u182 :: u183 :: u184 :: u185 :: u186 :: u187 :: u188 :: u189 :: u190 :: u191 :: u192 :: u193 :: u194 :: u195 :: u196 :: u197 :: u198 :: u199 :: u200 :: u201 :: u202 :: u203 :: u204 :: [])), []⟩ w') :
    Code.wp Try.prog fk12a_code Q ⟨(List.toArray (u0 :: u1 :: u2 :: u3 :: u4 :: .pointer (some ⟨pb, 0, none⟩) :: u6 :: u7 :: u8 :: u9 :: u10 :: u11 :: u12 :: .pointer (some ⟨yb, 0, none⟩) :: u14 :: .pointer (some ⟨zb, 0, none⟩) :: .int .i64 0 :: .pointer (some ⟨wb, 0, none⟩) :: .int .i64 0 :: u19 :: u20 :: u21 :: u22 :: u23 :: u24 :: u25 :: u26 :: u27 :: u28 :: u29 :: u30 :: u31 :: u32 :: u33 :: u34 :: u35 :: u36 :: u37 :: u38 :: u39 :: u40 :: u41 :: u42 :: u43 :: u44 :: u45 :: u46 :: u47 :: u48 :: u49 :: u50 :: u51 :: u52 :: u53 :: u54 :: u55 :: u56 :: u57 :: u58 :: u59 :: u60 :: u61 :: u62 :: u63 :: u64 :: u65 :: u66 :: u67 :: u68 :: u69 :: u70 :: u71 :: u72 :: u73 :: u74 :: u75 :: u76 :: u77 :: u78 :: u79 :: u80 :: u81 :: u82 :: u83 :: u84 :: u85 :: u86 :: u87 :: u88 :: u89 :: u90 :: u91 :: u92 :: u93 :: u94 :: u95 :: u96 :: u97 :: u98 :: u99 :: u100 :: u101 :: u102 :: u103 :: u104 :: u105 :: u106 :: u107 :: u108 :: u109 :: u110 :: u111 :: u112 :: u113 :: u114 :: u115 :: u116 :: u117 :: u118 :: u119 :: u120 :: u121 :: u122 :: u123 :: u124 :: u125 :: u126 :: u127 :: u128 :: u129 :: u130 :: u131 :: u132 :: u133 :: u134 :: u135 :: u136 :: u137 :: u138 :: u139 :: u140 :: u141 :: u142 :: u143 :: u144 :: u145 :: u146 :: u147 :: u148 :: u149 :: u150 :: u151 :: u152 :: u153 :: u154 :: u155 :: u156 :: u157 :: u158 :: u159 :: u160 :: u161 :: u162 :: u163 :: u164 :: u165 :: u166 :: u167 :: u168 :: u169 :: u170 :: u171 :: u172 :: u173 :: u174 :: u175 :: u176 :: u177 :: u178 :: u179 :: u180 :: u181 :: u182 :: u183 :: u184 :: u185 :: u186 :: u187 :: u188 :: u189 :: u190 :: u191 :: u192 :: u193 :: u194 :: u195 :: u196 :: u197 :: u198 :: u199 :: u200 :: u201 :: u202 :: u203 :: u204 :: [])), []⟩ w0 := by
  refine wp_mono (fk12a_in y p1 o1 s1 p2 o2 s2 Au Av ct kd pad L cu cv pb yb zb wb bs hl hr hf h3 hL _ _ _ _ _ _ _ _ _ _ _ _ _ _ _ _ _ _ _ _ _ _ _ _ _ _ _ _ _ _ _ _ _ _ _ _ _ _ _ _ _ _ _ _ _ _ _ _ _ _ _ _ _ _ _ _ _ _ _ _ _ _ _ _ _ _ _ _ _ _ _ _ _ _ _ _ _ _ _ _ _ _ _ _ _ _ _ _ _ _ _ _ _ _ _ _ _ _ _ _ _ _ _ _ _ _ _ _ _ _ _ _ _ _ _ _ _ _ _ _ _ _ _ _ _ _ _ _ _ _ _ _ _ _ _ _ _ _ _ _ _ _ _ _ _ _ _ _ _ _ _ _ _ _ _ _ _ _ _ _ _ _ _ _ _ _ _ _ _ _ _ _ _ _ _ _ _ _ _ _ _ _ _ _ _ _ _ _ _ _ _ _ _ _ _ _ _ _ _ w0 hP hY hZ hW hDy hDw hs1 hs2) ?_
  rintro e a w' h
  obtain ⟨y89, h⟩ := h
  obtain ⟨y90, h⟩ := h
  obtain ⟨y91, h⟩ := h
  obtain ⟨y92, h⟩ := h
  obtain ⟨y93, h⟩ := h
  obtain ⟨y94, h⟩ := h
  obtain ⟨y95, h⟩ := h
  obtain ⟨y96, h⟩ := h
  obtain ⟨y97, h⟩ := h
  obtain ⟨y98, h⟩ := h
  obtain ⟨y99, h⟩ := h
  obtain ⟨y100, h⟩ := h
  obtain ⟨y101, h⟩ := h
  obtain ⟨y102, h⟩ := h
  obtain ⟨y103, h⟩ := h
  obtain ⟨y104, h⟩ := h
  obtain ⟨y105, h⟩ := h
  obtain ⟨y106, h⟩ := h
  obtain ⟨y107, h⟩ := h
  obtain ⟨y108, h⟩ := h
  obtain ⟨y109, h⟩ := h
  obtain ⟨y110, h⟩ := h
  obtain ⟨y111, h⟩ := h
  obtain ⟨y112, h⟩ := h
  obtain ⟨y113, h⟩ := h
  obtain ⟨y114, h⟩ := h
  obtain ⟨y115, h⟩ := h
  obtain ⟨y116, h⟩ := h
  obtain ⟨y117, h⟩ := h
  obtain ⟨y118, h⟩ := h
  obtain ⟨y119, h⟩ := h
  obtain ⟨y120, h⟩ := h
  obtain ⟨y121, h⟩ := h
  obtain ⟨y122, h⟩ := h
  obtain ⟨y123, h⟩ := h
  obtain ⟨y124, h⟩ := h
  obtain ⟨y125, h⟩ := h
  obtain ⟨y126, h⟩ := h
  obtain ⟨y127, h⟩ := h
  obtain ⟨y128, h⟩ := h
  obtain ⟨y129, h⟩ := h
  obtain ⟨y130, h⟩ := h
  obtain ⟨y131, h⟩ := h
  obtain ⟨y132, h⟩ := h
  obtain ⟨y133, h⟩ := h
  obtain ⟨y134, h⟩ := h
  obtain ⟨y135, h⟩ := h
  obtain ⟨y136, h⟩ := h
  obtain ⟨y137, h⟩ := h
  obtain ⟨y138, h⟩ := h
  obtain ⟨y139, h⟩ := h
  obtain ⟨y140, h⟩ := h
  obtain ⟨h, rfl, hq⟩ := h
  subst h
  exact hend y89 y90 y91 y92 y93 y94 y95 y96 y97 y98 y99 y100 y101 y102 y103 y104 y105 y106 y107 y108 y109 y110 y111 y112 y113 y114 y115 y116 y117 y118 y119 y120 y121 y122 y123 y124 y125 y126 y127 y128 y129 y130 y131 y132 y133 y134 y135 y136 y137 y138 y139 y140 w' hq
def fk12b_A : List (List Nat) := ([] :: [0] :: [1, 0] :: [2, 1, 0] :: [3, 2, 1, 0] :: [4, 3, 2, 1, 0] :: [3, 5, 2, 1, 0, 4] :: [6, 3, 5, 2, 1, 0, 4] :: (7 :: 6 :: 3 :: 5 :: 2 :: 1 :: 0 :: 4 :: []) :: (8 :: 7 :: 6 :: 3 :: 5 :: 2 :: 1 :: 0 :: 4 :: []) :: (7 :: 9 :: 6 :: 3 :: 5 :: 2 :: 1 :: 0 :: 4 :: 8 :: []) :: (10 :: 7 :: 9 :: 6 :: 3 :: 5 :: 2 :: 1 :: 0 :: 4 :: 8 :: []) :: (11 :: 10 :: 7 :: 9 :: 6 :: 3 :: 5 :: 2 :: 1 :: 0 :: 4 :: 8 :: []) :: (12 :: 11 :: 10 :: 7 :: 9 :: 6 :: 3 :: 5 :: 2 :: 1 :: 0 :: 4 :: 8 :: []) :: (11 :: 10 :: 7 :: 9 :: 6 :: 3 :: 5 :: 2 :: 1 :: 0 :: 4 :: 8 :: []) :: (14 :: 11 :: 10 :: 7 :: 9 :: 6 :: 3 :: 5 :: 2 :: 1 :: 0 :: 4 :: 8 :: []) :: (13 :: 15 :: 11 :: 12 :: 10 :: 7 :: 9 :: 6 :: 3 :: 5 :: 2 :: 1 :: 0 :: 4 :: 8 :: 14 :: []) :: (11 :: 16 :: 10 :: 7 :: 9 :: 6 :: 3 :: 5 :: 2 :: 1 :: 0 :: 4 :: 8 :: 13 :: 15 :: 12 :: 14 :: []) :: (17 :: 11 :: 16 :: 10 :: 7 :: 9 :: 6 :: 3 :: 5 :: 2 :: 1 :: 0 :: 4 :: 8 :: 13 :: 15 :: 12 :: 14 :: []) :: (18 :: 17 :: 11 :: 16 :: 10 :: 7 :: 9 :: 6 :: 3 :: 5 :: 2 :: 1 :: 0 :: 4 :: 8 :: 13 :: 15 :: 12 :: 14 :: []) :: (19 :: 18 :: 17 :: 11 :: 16 :: 10 :: 7 :: 9 :: 6 :: 3 :: 5 :: 2 :: 1 :: 0 :: 4 :: 8 :: 13 :: 15 :: 12 :: 14 :: []) :: (18 :: 17 :: 11 :: 16 :: 10 :: 7 :: 9 :: 6 :: 3 :: 5 :: 2 :: 1 :: 0 :: 4 :: 8 :: 13 :: 15 :: 12 :: 14 :: []) :: (21 :: 18 :: 17 :: 11 :: 16 :: 10 :: 7 :: 9 :: 6 :: 3 :: 5 :: 2 :: 1 :: 0 :: 4 :: 8 :: 13 :: 15 :: 12 :: 14 :: []) :: (20 :: 22 :: 18 :: 19 :: 17 :: 11 :: 16 :: 10 :: 7 :: 9 :: 6 :: 3 :: 5 :: 2 :: 1 :: 0 :: 4 :: 8 :: 13 :: 15 :: 12 :: 14 :: 21 :: []) :: (18 :: 23 :: 17 :: 11 :: 16 :: 10 :: 7 :: 9 :: 6 :: 3 :: 5 :: 2 :: 1 :: 0 :: 4 :: 8 :: 13 :: 15 :: 12 :: 14 :: 20 :: 22 :: 19 :: 21 :: []) :: (24 :: 18 :: 23 :: 17 :: 11 :: 16 :: 10 :: 7 :: 9 :: 6 :: 3 :: 5 :: 2 :: 1 :: 0 :: 4 :: 8 :: 13 :: 15 :: 12 :: 14 :: 20 :: 22 :: 19 :: 21 :: []) :: (25 :: 24 :: 18 :: 23 :: 17 :: 11 :: 16 :: 10 :: 7 :: 9 :: 6 :: 3 :: 5 :: 2 :: 1 :: 0 :: 4 :: 8 :: 13 :: 15 :: 12 :: 14 :: 20 :: 22 :: 19 :: 21 :: []) :: (26 :: 25 :: 24 :: 18 :: 23 :: 17 :: 11 :: 16 :: 10 :: 7 :: 9 :: 6 :: 3 :: 5 :: 2 :: 1 :: 0 :: 4 :: 8 :: 13 :: 15 :: 12 :: 14 :: 20 :: 22 :: 19 :: 21 :: []) :: (27 :: 25 :: 26 :: 24 :: 18 :: 23 :: 17 :: 11 :: 16 :: 10 :: 7 :: 9 :: 6 :: 3 :: 5 :: 2 :: 1 :: 0 :: 4 :: 8 :: 13 :: 15 :: 12 :: 14 :: 20 :: 22 :: 19 :: 21 :: []) :: (25 :: 24 :: 18 :: 23 :: 17 :: 11 :: 16 :: 10 :: 7 :: 9 :: 6 :: 3 :: 5 :: 2 :: 1 :: 0 :: 4 :: 8 :: 13 :: 15 :: 12 :: 14 :: 20 :: 22 :: 19 :: 21 :: []) :: (29 :: 25 :: 24 :: 18 :: 23 :: 17 :: 11 :: 16 :: 10 :: 7 :: 9 :: 6 :: 3 :: 5 :: 2 :: 1 :: 0 :: 4 :: 8 :: 13 :: 15 :: 12 :: 14 :: 20 :: 22 :: 19 :: 21 :: []) :: (30 :: 25 :: 29 :: 24 :: 18 :: 23 :: 17 :: 11 :: 16 :: 10 :: 7 :: 9 :: 6 :: 3 :: 5 :: 2 :: 1 :: 0 :: 4 :: 8 :: 13 :: 15 :: 12 :: 14 :: 20 :: 22 :: 19 :: 21 :: []) :: (28 :: 31 :: 25 :: 27 :: 26 :: 24 :: 18 :: 23 :: 17 :: 11 :: 16 :: 10 :: 7 :: 9 :: 6 :: 3 :: 5 :: 2 :: 1 :: 0 :: 4 :: 8 :: 13 :: 15 :: 12 :: 14 :: 20 :: 22 :: 19 :: 21 :: 30 :: 29 :: []) :: (25 :: 32 :: 24 :: 18 :: 23 :: 17 :: 11 :: 16 :: 10 :: 7 :: 9 :: 6 :: 3 :: 5 :: 2 :: 1 :: 0 :: 4 :: 8 :: 13 :: 15 :: 12 :: 14 :: 20 :: 22 :: 19 :: 21 :: 28 :: 31 :: 27 :: 26 :: 30 :: 29 :: []) :: (33 :: 25 :: 32 :: 24 :: 18 :: 23 :: 17 :: 11 :: 16 :: 10 :: 7 :: 9 :: 6 :: 3 :: 5 :: 2 :: 1 :: 0 :: 4 :: 8 :: 13 :: 15 :: 12 :: 14 :: 20 :: 22 :: 19 :: 21 :: 28 :: 31 :: 27 :: 26 :: 30 :: 29 :: []) :: (34 :: 33 :: 25 :: 32 :: 24 :: 18 :: 23 :: 17 :: 11 :: 16 :: 10 :: 7 :: 9 :: 6 :: 3 :: 5 :: 2 :: 1 :: 0 :: 4 :: 8 :: 13 :: 15 :: 12 :: 14 :: 20 :: 22 :: 19 :: 21 :: 28 :: 31 :: 27 :: 26 :: 30 :: 29 :: []) :: (34 :: 33 :: 25 :: 32 :: 24 :: 18 :: 23 :: 17 :: 11 :: 16 :: 10 :: 7 :: 9 :: 6 :: 3 :: 5 :: 2 :: 1 :: 0 :: 4 :: 8 :: 13 :: 15 :: 12 :: 14 :: 20 :: 22 :: 19 :: 21 :: 28 :: 31 :: 27 :: 26 :: 30 :: 29 :: []) :: (35 :: 36 :: 34 :: 33 :: 25 :: 32 :: 24 :: 18 :: 23 :: 17 :: 11 :: 16 :: 10 :: 7 :: 9 :: 6 :: 3 :: 5 :: 2 :: 1 :: 0 :: 4 :: 8 :: 13 :: 15 :: 12 :: 14 :: 20 :: 22 :: 19 :: 21 :: 28 :: 31 :: 27 :: 26 :: 30 :: 29 :: []) :: (37 :: 34 :: 35 :: 36 :: 33 :: 25 :: 32 :: 24 :: 18 :: 23 :: 17 :: 11 :: 16 :: 10 :: 7 :: 9 :: 6 :: 3 :: 5 :: 2 :: 1 :: 0 :: 4 :: 8 :: 13 :: 15 :: 12 :: 14 :: 20 :: 22 :: 19 :: 21 :: 28 :: 31 :: 27 :: 26 :: 30 :: 29 :: []) :: (34 :: 38 :: 33 :: 25 :: 32 :: 24 :: 18 :: 23 :: 17 :: 11 :: 16 :: 10 :: 7 :: 9 :: 6 :: 3 :: 5 :: 2 :: 1 :: 0 :: 4 :: 8 :: 13 :: 15 :: 12 :: 14 :: 20 :: 22 :: 19 :: 21 :: 28 :: 31 :: 27 :: 26 :: 30 :: 29 :: 37 :: 35 :: 36 :: []) :: (39 :: 37 :: 34 :: 38 :: 33 :: 25 :: 32 :: 24 :: 18 :: 23 :: 17 :: 11 :: 16 :: 10 :: 7 :: 9 :: 6 :: 3 :: 5 :: 2 :: 1 :: 0 :: 4 :: 8 :: 13 :: 15 :: 12 :: 14 :: 20 :: 22 :: 19 :: 21 :: 28 :: 31 :: 27 :: 26 :: 30 :: 29 :: 35 :: 36 :: []) :: (40 :: 39 :: 37 :: 34 :: 38 :: 33 :: 25 :: 32 :: 24 :: 18 :: 23 :: 17 :: 11 :: 16 :: 10 :: 7 :: 9 :: 6 :: 3 :: 5 :: 2 :: 1 :: 0 :: 4 :: 8 :: 13 :: 15 :: 12 :: 14 :: 20 :: 22 :: 19 :: 21 :: 28 :: 31 :: 27 :: 26 :: 30 :: 29 :: 35 :: 36 :: []) :: (41 :: 40 :: 39 :: 37 :: 34 :: 38 :: 33 :: 25 :: 32 :: 24 :: 18 :: 23 :: 17 :: 11 :: 16 :: 10 :: 7 :: 9 :: 6 :: 3 :: 5 :: 2 :: 1 :: 0 :: 4 :: 8 :: 13 :: 15 :: 12 :: 14 :: 20 :: 22 :: 19 :: 21 :: 28 :: 31 :: 27 :: 26 :: 30 :: 29 :: 35 :: 36 :: []) :: (42 :: 40 :: 41 :: 39 :: 37 :: 34 :: 38 :: 33 :: 25 :: 32 :: 24 :: 18 :: 23 :: 17 :: 11 :: 16 :: 10 :: 7 :: 9 :: 6 :: 3 :: 5 :: 2 :: 1 :: 0 :: 4 :: 8 :: 13 :: 15 :: 12 :: 14 :: 20 :: 22 :: 19 :: 21 :: 28 :: 31 :: 27 :: 26 :: 30 :: 29 :: 35 :: 36 :: []) :: (43 :: 40 :: 42 :: 41 :: 39 :: 37 :: 34 :: 38 :: 33 :: 25 :: 32 :: 24 :: 18 :: 23 :: 17 :: 11 :: 16 :: 10 :: 7 :: 9 :: 6 :: 3 :: 5 :: 2 :: 1 :: 0 :: 4 :: 8 :: 13 :: 15 :: 12 :: 14 :: 20 :: 22 :: 19 :: 21 :: 28 :: 31 :: 27 :: 26 :: 30 :: 29 :: 35 :: 36 :: []) :: (44 :: 43 :: 40 :: 42 :: 41 :: 39 :: 37 :: 34 :: 38 :: 33 :: 25 :: 32 :: 24 :: 18 :: 23 :: 17 :: 11 :: 16 :: 10 :: 7 :: 9 :: 6 :: 3 :: 5 :: 2 :: 1 :: 0 :: 4 :: 8 :: 13 :: 15 :: 12 :: 14 :: 20 :: 22 :: 19 :: 21 :: 28 :: 31 :: 27 :: 26 :: 30 :: 29 :: 35 :: 36 :: []) :: (45 :: 44 :: 43 :: 40 :: 42 :: 41 :: 39 :: 37 :: 34 :: 38 :: 33 :: 25 :: 32 :: 24 :: 18 :: 23 :: 17 :: 11 :: 16 :: 10 :: 7 :: 9 :: 6 :: 3 :: 5 :: 2 :: 1 :: 0 :: 4 :: 8 :: 13 :: 15 :: 12 :: 14 :: 20 :: 22 :: 19 :: 21 :: 28 :: 31 :: 27 :: 26 :: 30 :: 29 :: 35 :: 36 :: []) :: (44 :: 43 :: 40 :: 42 :: 41 :: 39 :: 37 :: 34 :: 38 :: 33 :: 25 :: 32 :: 24 :: 18 :: 23 :: 17 :: 11 :: 16 :: 10 :: 7 :: 9 :: 6 :: 3 :: 5 :: 2 :: 1 :: 0 :: 4 :: 8 :: 13 :: 15 :: 12 :: 14 :: 20 :: 22 :: 19 :: 21 :: 28 :: 31 :: 27 :: 26 :: 30 :: 29 :: 35 :: 36 :: []) :: (47 :: 44 :: 43 :: 40 :: 42 :: 41 :: 39 :: 37 :: 34 :: 38 :: 33 :: 25 :: 32 :: 24 :: 18 :: 23 :: 17 :: 11 :: 16 :: 10 :: 7 :: 9 :: 6 :: 3 :: 5 :: 2 :: 1 :: 0 :: 4 :: 8 :: 13 :: 15 :: 12 :: 14 :: 20 :: 22 :: 19 :: 21 :: 28 :: 31 :: 27 :: 26 :: 30 :: 29 :: 35 :: 36 :: []) :: (46 :: 48 :: 44 :: 45 :: 43 :: 40 :: 42 :: 41 :: 39 :: 37 :: 34 :: 38 :: 33 :: 25 :: 32 :: 24 :: 18 :: 23 :: 17 :: 11 :: 16 :: 10 :: 7 :: 9 :: 6 :: 3 :: 5 :: 2 :: 1 :: 0 :: 4 :: 8 :: 13 :: 15 :: 12 :: 14 :: 20 :: 22 :: 19 :: 21 :: 28 :: 31 :: 27 :: 26 :: 30 :: 29 :: 35 :: 36 :: 47 :: []) :: (49 :: 44 :: 46 :: 48 :: 45 :: 43 :: 40 :: 42 :: 41 :: 39 :: 37 :: 34 :: 38 :: 33 :: 25 :: 32 :: 24 :: 18 :: 23 :: 17 :: 11 :: 16 :: 10 :: 7 :: 9 :: 6 :: 3 :: 5 :: 2 :: 1 :: 0 :: 4 :: 8 :: 13 :: 15 :: 12 :: 14 :: 20 :: 22 :: 19 :: 21 :: 28 :: 31 :: 27 :: 26 :: 30 :: 29 :: 35 :: 36 :: 47 :: []) :: (44 :: 50 :: 40 :: 43 :: 42 :: 41 :: 39 :: 37 :: 34 :: 38 :: 33 :: 25 :: 32 :: 24 :: 18 :: 23 :: 17 :: 11 :: 16 :: 10 :: 7 :: 9 :: 6 :: 3 :: 5 :: 2 :: 1 :: 0 :: 4 :: 8 :: 13 :: 15 :: 12 :: 14 :: 20 :: 22 :: 19 :: 21 :: 28 :: 31 :: 27 :: 26 :: 30 :: 29 :: 35 :: 36 :: 49 :: 46 :: 48 :: 45 :: 47 :: []) :: (40 :: 51 :: 39 :: 37 :: 34 :: 38 :: 33 :: 25 :: 32 :: 24 :: 18 :: 23 :: 17 :: 11 :: 16 :: 10 :: 7 :: 9 :: 6 :: 3 :: 5 :: 2 :: 1 :: 0 :: 4 :: 8 :: 13 :: 15 :: 12 :: 14 :: 20 :: 22 :: 19 :: 21 :: 28 :: 31 :: 27 :: 26 :: 30 :: 29 :: 35 :: 36 :: 44 :: 50 :: 43 :: 42 :: 41 :: 49 :: 46 :: 48 :: 45 :: 47 :: []) :: [])
def fk12b_kill : List (List Nat) := ([] :: [] :: [] :: [] :: [] :: [] :: [] :: [] :: [] :: [] :: [] :: [] :: [] :: [] :: [] :: [] :: [] :: [] :: [] :: [] :: [] :: [] :: [] :: [] :: [] :: [] :: [] :: [] :: [] :: [] :: [] :: [] :: [] :: [] :: [] :: [] :: [] :: [] :: [] :: [] :: [] :: [] :: [] :: [] :: [] :: [] :: [] :: [] :: [] :: [] :: [] :: [] :: [] :: [])
def fk12b_uses : List (List Nat) := ([] :: [] :: [] :: [] :: [] :: [] :: [] :: [] :: [] :: [] :: [] :: [] :: [] :: [] :: [] :: [] :: [] :: [] :: [] :: [] :: [] :: [] :: [] :: [] :: [] :: [] :: [] :: [] :: [] :: [] :: [] :: [] :: [] :: [] :: [] :: [] :: [] :: [] :: [] :: [] :: [] :: [] :: [] :: [] :: [] :: [] :: [] :: [] :: [] :: [] :: [] :: [] :: [] :: [])
noncomputable def fk12b_code : Code := ((Try.f6.body.bind (codeRegion 12)).getD .skip)
set_option maxRecDepth 100000 in
set_option maxHeartbeats 4000000 in
theorem fk12b_in (y : Ms) (p1 o1 s1 p2 o2 s2 : Value) (Au Av : Option Addr) (ct kd pad L cu cv pb yb zb wb : Nat) (bs : List Nat) (hl : y.pairs.length ≤ 300 ∧ y.orders.length ≤ 300 ∧ y.srcs.length ≤ 300) (hr : rightMs y = true) (hf : MFit y) (h3 : y.sort = 3) (u0 u1 u2 u3 u4 u6 u7 u8 u9 u10 u11 u12 u14 u19 u20 u21 u22 u23 u24 u25 u26 u27 u28 u29 u30 u31 u32 u33 u34 u35 u36 u37 u38 u39 u40 u41 u42 u43 u44 u45 u46 u47 u48 u49 u50 u51 u52 u53 u54 u55 u56 u57 u58 u59 u60 u61 u62 u63 u64 u65 u66 u67 u68 u69 u70 u71 u72 u73 u74 u75 u76 u77 u78 u79 u80 u81 u82 u83 u84 u85 u86 u87 u88 u89 u90 u91 u92 u93 u94 u95 u96 u97 u98 u99 u100 u101 u102 u103 u104 u105 u106 u107 u108 u109 u110 u111 u112 u113 u114 u115 u116 u117 u118 u119 u120 u121 u122 u123 u124 u125 u126 u127 u128 u129 u130 u131 u132 u133 u134 u135 u136 u137 u138 u139 u140 u141 u142 u143 u144 u145 u146 u147 u148 u149 u150 u151 u152 u153 u154 u155 u156 u157 u158 u159 u160 u161 u162 u163 u164 u165 u166 u167 u168 u169 u170 u171 u172 u173 u174 u175 u176 u177 u178 u179 u180 u181 u182 u183 u184 u185 u186 u187 u188 u189 u190 u191 u192 u193 u194 u195 u196 u197 u198 u199 u200 u201 u202 u203 u204 : Value) (w0 : World) (hP : Is w0 pb 41 #[.int .u8 (ct : Nat), .int .u8 (kd : Nat), .slice Av L cv, .int .u8 (pad : Nat)]) (hY : Is w0 yb 27 (y.cls p1 o1 s1)) (hZ : Is w0 zb 41 #[.int .u8 (ct : Nat), .int .u8 (kd : Nat), .slice Au L cu, .int .u8 (0 : Nat)]) (hW : Is w0 wb 27 (y.cls p2 o2 s2)) (hDy : RdM y p1 o1 s1 w0) (hDw : RdM y p2 o2 s2 w0) :
    Code.wp Try.prog fk12b_code (fun e a w' => ∃ y89 y90 y91 y92 y93 y94 y95 y96 y97 y98 y99 y100 y101 y102 y103 y104 y105 y106 y107 y108 y109 y110 y111 y112 y113 y114 y115 y116 y117 y118 y119 y120 y121 y122 y123 y124 y125 y126 y127 y128 y129 y130 y131 y132 y133 y134 y135 y136 y137 y138 y139 y140 : Value, a = ⟨(List.toArray (u0 :: u1 :: u2 :: u3 :: u4 :: .pointer (some ⟨pb, 0, none⟩) :: u6 :: u7 :: u8 :: u9 :: u10 :: u11 :: u12 :: .pointer (some ⟨yb, 0, none⟩) :: u14 :: .pointer (some ⟨zb, 0, none⟩) :: .int .i64 0 :: .pointer (some ⟨wb, 0, none⟩) :: .int .i64 0 :: u19 :: u20 :: u21 :: u22 :: u23 :: u24 :: u25 :: u26 :: u27 :: u28 :: u29 :: u30 :: u31 :: u32 :: u33 :: u34 :: u35 :: u36 :: u37 :: u38 :: u39 :: u40 :: u41 :: u42 :: u43 :: u44 :: u45 :: u46 :: u47 :: u48 :: u49 :: u50 :: u51 :: u52 :: u53 :: u54 :: u55 :: u56 :: u57 :: u58 :: u59 :: u60 :: u61 :: u62 :: u63 :: u64 :: u65 :: u66 :: u67 :: u68 :: u69 :: u70 :: u71 :: u72 :: u73 :: u74 :: u75 :: u76 :: u77 :: u78 :: u79 :: u80 :: u81 :: u82 :: u83 :: u84 :: u85 :: u86 :: u87 :: u88 :: y89 :: y90 :: y91 :: y92 :: y93 :: y94 :: y95 :: y96 :: y97 :: y98 :: y99 :: y100 :: y101 :: y102 :: y103 :: y104 :: y105 :: y106 :: y107 :: y108 :: y109 :: y110 :: y111 :: y112 :: y113 :: y114 :: y115 :: y116 :: y117 :: y118 :: y119 :: y120 :: y121 :: y122 :: y123 :: y124 :: y125 :: y126 :: y127 :: y128 :: y129 :: y130 :: y131 :: y132 :: y133 :: y134 :: y135 :: y136 :: y137 :: y138 :: y139 :: y140 :: .bool false :: u142 :: u143 :: u144 :: u145 :: u146 :: u147 :: u148 :: u149 :: u150 :: u151 :: u152 :: u153 :: u154 :: u155 :: u156 :: u157 :: u158 :: u159 :: u160 :: u161 :: u162 :: u163 :: u164 :: u165 :: u166 :: u167 :: u168 :: u169 :: u170 :: u171 :: u172 :: u173 :: u174 :: u175 :: u176 :: u177 :: u178 :: u179 :: u180 :: u181 :: u182 :: u183 :: u184 :: u185 :: u186 :: u187 :: u188 :: u189 :: u190 :: u191 :: u192 :: u193 :: u194 :: u195 :: u196 :: u197 :: u198 :: u199 :: u200 :: u201 :: u202 :: u203 :: u204 :: [])), []⟩ ∧ e = .normal ∧ Only (fun _ => False) w0 w') ⟨(List.toArray (u0 :: u1 :: u2 :: u3 :: u4 :: .pointer (some ⟨pb, 0, none⟩) :: u6 :: u7 :: u8 :: u9 :: u10 :: u11 :: u12 :: .pointer (some ⟨yb, 0, none⟩) :: u14 :: .pointer (some ⟨zb, 0, none⟩) :: .int .i64 0 :: .pointer (some ⟨wb, 0, none⟩) :: .int .i64 0 :: u19 :: u20 :: u21 :: u22 :: u23 :: u24 :: u25 :: u26 :: u27 :: u28 :: u29 :: u30 :: u31 :: u32 :: u33 :: u34 :: u35 :: u36 :: u37 :: u38 :: u39 :: u40 :: u41 :: u42 :: u43 :: u44 :: u45 :: u46 :: u47 :: u48 :: u49 :: u50 :: u51 :: u52 :: u53 :: u54 :: u55 :: u56 :: u57 :: u58 :: u59 :: u60 :: u61 :: u62 :: u63 :: u64 :: u65 :: u66 :: u67 :: u68 :: u69 :: u70 :: u71 :: u72 :: u73 :: u74 :: u75 :: u76 :: u77 :: u78 :: u79 :: u80 :: u81 :: u82 :: u83 :: u84 :: u85 :: u86 :: u87 :: u88 :: u89 :: u90 :: u91 :: u92 :: u93 :: u94 :: u95 :: u96 :: u97 :: u98 :: u99 :: u100 :: u101 :: u102 :: u103 :: u104 :: u105 :: u106 :: u107 :: u108 :: u109 :: u110 :: u111 :: u112 :: u113 :: u114 :: u115 :: u116 :: u117 :: u118 :: u119 :: u120 :: u121 :: u122 :: u123 :: u124 :: u125 :: u126 :: u127 :: u128 :: u129 :: u130 :: u131 :: u132 :: u133 :: u134 :: u135 :: u136 :: u137 :: u138 :: u139 :: u140 :: u141 :: u142 :: u143 :: u144 :: u145 :: u146 :: u147 :: u148 :: u149 :: u150 :: u151 :: u152 :: u153 :: u154 :: u155 :: u156 :: u157 :: u158 :: u159 :: u160 :: u161 :: u162 :: u163 :: u164 :: u165 :: u166 :: u167 :: u168 :: u169 :: u170 :: u171 :: u172 :: u173 :: u174 :: u175 :: u176 :: u177 :: u178 :: u179 :: u180 :: u181 :: u182 :: u183 :: u184 :: u185 :: u186 :: u187 :: u188 :: u189 :: u190 :: u191 :: u192 :: u193 :: u194 :: u195 :: u196 :: u197 :: u198 :: u199 :: u200 :: u201 :: u202 :: u203 :: u204 :: [])), []⟩ w0 := by
  conv => arg 2; whnf
  have HRI := Lib.hid (fun (wx : World) (h : Only (fun _ => False) w0 wx) => by
    have := fright_is y p1 o1 s1 wx (hDy.only h) (by omega) hf.mant hf.exp
    rwa [hr] at this)
  have HSM := Lib.hid (fun (wx : World) (h : Only (fun _ => False) w0 wx) => by
    have := fsame_is y y p2 o2 s2 p1 o1 s1 wx (hDw.only h) (hDy.only h) (by omega) (by omega)
    rwa [same_self] at this)
  have h3e : ((y.sort : Int) != 3) = false := by rw [h3]; rfl
  clear hl hr hf h3 hDy hDw
  refine wp_region_text fk12b_A [1, 37] [] fk12b_kill fk12b_uses [] [] [] []
      (some ?v0 :: some (.bool true) :: some ?v2 :: some ?v3 :: some ?v4 :: some (.bool false) :: some ?v6 :: some ?v7 :: some ?v8 :: some (.bool false) :: some ?v10 :: some ?v11 :: some ?v12 :: some ?v13 :: some ?v14 :: some ?v15 :: some (.bool false) :: some ?v17 :: some ?v18 :: some ?v19 :: some ?v20 :: some ?v21 :: some ?v22 :: some (.bool false) :: some ?v24 :: some ?v25 :: some ?v26 :: some ?v27 :: some ?v28 :: some ?v29 :: some ?v30 :: some ?v31 :: some (.bool false) :: some ?v33 :: some ?v34 :: some ?v35 :: some ?v36 :: some (.bool true) :: some ?v38 :: some ?v39 :: some ?v40 :: some ?v41 :: some ?v42 :: some (.bool false) :: some ?v44 :: some undef :: some undef :: some undef :: some undef :: some undef :: some undef :: some ?v51 :: some ?v52 :: [])
      ?T (fun wx => Only (fun _ => False) w0 wx) ?W ?E (by kernel_rfl) (by kernel_rfl) (by kernel_rfl) (fun x => ?hT) ?hF ?hini (Reg.all_ops ?runs) ?pres ?fin
  case W => exact fun j x wz => True
  case E => exact fun _ wx wy => Only (fun _ => False) wx wy
  case hT =>
    simp only [Reg.fillV, Act.put, List.setIfInBounds_toArray, List.set_cons_zero, List.set_cons_succ]
    rfl
  case runs =>
    refine And.intro ?_ ?_
    · refine Reg.ob_pure (fun _ => rfl) rfl rfl rfl rfl (fun x w1 hF => ?_)
      obtain ⟨m0, m1, m2, m3, m4, m5, m6, m7⟩ := cls_cells (hY.only hF (by simp))
      go_simp
      with_reducible rfl
    refine And.intro ?_ ?_
    · refine Reg.ob_known (fun _ => rfl) rfl rfl (fun x w1 hF hU K hK => ?_)
      have hF := hF rfl
      go_simp
      refine (HRI.out w1 hF).mono ?_
      rintro e w5 ⟨rfl, ho⟩
      exact hK _ (fun _ _ _ => hF.trans ho (fun _ _ e => e)) ho
    refine And.intro ?_ ?_
    · refine Reg.ob_pure (fun _ => rfl) rfl rfl rfl rfl (fun x w1 hF => ?_)
      go_simp
      with_reducible rfl
    refine And.intro ?_ ?_
    · refine Reg.ob_pure (fun _ => rfl) rfl rfl rfl rfl (fun x w1 hF => ?_)
      go_simp
      with_reducible rfl
    refine And.intro ?_ ?_
    · refine Reg.ob_pure (fun _ => rfl) rfl rfl rfl rfl (fun x w1 hF => ?_)
      go_simp
      with_reducible rfl
    refine And.intro ?_ ?_
    · refine Reg.ob_pure (fun _ => rfl) rfl rfl rfl rfl (fun x w1 hF => ?_)
      go_simp
    refine And.intro ?_ ?_
    · refine Reg.ob_pure (fun _ => rfl) rfl rfl rfl rfl (fun x w1 hF => ?_)
      go_simp
      with_reducible rfl
    refine And.intro ?_ ?_
    · refine Reg.ob_pure (fun _ => rfl) rfl rfl rfl rfl (fun x w1 hF => ?_)
      go_simp
      with_reducible rfl
    refine And.intro ?_ ?_
    · refine Reg.ob_pure (fun _ => rfl) rfl rfl rfl rfl (fun x w1 hF => ?_)
      go_simp
      with_reducible rfl
    refine And.intro ?_ ?_
    · refine Reg.ob_pure (fun _ => rfl) rfl rfl rfl rfl (fun x w1 hF => ?_)
      go_simp
    refine And.intro ?_ ?_
    · refine Reg.ob_pure (fun _ => rfl) rfl rfl rfl rfl (fun x w1 hF => ?_)
      go_simp
      with_reducible rfl
    refine And.intro ?_ ?_
    · refine Reg.ob_pure (fun _ => rfl) rfl rfl rfl rfl (fun x w1 hF => ?_)
      go_simp
      with_reducible rfl
    refine And.intro ?_ ?_
    · refine Reg.ob_pure (fun _ => rfl) rfl rfl rfl rfl (fun x w1 hF => ?_)
      go_simp
      with_reducible rfl
    refine And.intro ?_ ?_
    · refine Reg.ob_pure (fun _ => rfl) rfl rfl rfl rfl (fun x w1 hF => ?_)
      have m0 := (hZ.only hF (by simp)).cell 0
      have m1 := (hZ.only hF (by simp)).cell 1
      have m2 := (hZ.only hF (by simp)).cell 2
      have m3 := (hZ.only hF (by simp)).cell 3
      simp at m0 m1 m2 m3
      go_simp
      with_reducible rfl
    refine And.intro ?_ ?_
    · refine Reg.ob_pure (fun _ => rfl) rfl rfl rfl rfl (fun x w1 hF => ?_)
      go_simp
      with_reducible rfl
    refine And.intro ?_ ?_
    · refine Reg.ob_pure (fun _ => rfl) rfl rfl rfl rfl (fun x w1 hF => ?_)
      have m0 := (hP.only hF (by simp)).cell 0
      have m1 := (hP.only hF (by simp)).cell 1
      have m2 := (hP.only hF (by simp)).cell 2
      have m3 := (hP.only hF (by simp)).cell 3
      simp at m0 m1 m2 m3
      go_simp
      with_reducible rfl
    refine And.intro ?_ ?_
    · refine Reg.ob_pure (fun _ => rfl) rfl rfl rfl rfl (fun x w1 hF => ?_)
      go_simp
    refine And.intro ?_ ?_
    · refine Reg.ob_pure (fun _ => rfl) rfl rfl rfl rfl (fun x w1 hF => ?_)
      go_simp
      with_reducible rfl
    refine And.intro ?_ ?_
    · refine Reg.ob_pure (fun _ => rfl) rfl rfl rfl rfl (fun x w1 hF => ?_)
      go_simp
      with_reducible rfl
    refine And.intro ?_ ?_
    · refine Reg.ob_pure (fun _ => rfl) rfl rfl rfl rfl (fun x w1 hF => ?_)
      go_simp
      with_reducible rfl
    refine And.intro ?_ ?_
    · refine Reg.ob_pure (fun _ => rfl) rfl rfl rfl rfl (fun x w1 hF => ?_)
      have m0 := (hZ.only hF (by simp)).cell 0
      have m1 := (hZ.only hF (by simp)).cell 1
      have m2 := (hZ.only hF (by simp)).cell 2
      have m3 := (hZ.only hF (by simp)).cell 3
      simp at m0 m1 m2 m3
      go_simp
      with_reducible rfl
    refine And.intro ?_ ?_
    · refine Reg.ob_pure (fun _ => rfl) rfl rfl rfl rfl (fun x w1 hF => ?_)
      go_simp
      with_reducible rfl
    refine And.intro ?_ ?_
    · refine Reg.ob_pure (fun _ => rfl) rfl rfl rfl rfl (fun x w1 hF => ?_)
      have m0 := (hP.only hF (by simp)).cell 0
      have m1 := (hP.only hF (by simp)).cell 1
      have m2 := (hP.only hF (by simp)).cell 2
      have m3 := (hP.only hF (by simp)).cell 3
      simp at m0 m1 m2 m3
      go_simp
      with_reducible rfl
    refine And.intro ?_ ?_
    · refine Reg.ob_pure (fun _ => rfl) rfl rfl rfl rfl (fun x w1 hF => ?_)
      go_simp
    refine And.intro ?_ ?_
    · refine Reg.ob_pure (fun _ => rfl) rfl rfl rfl rfl (fun x w1 hF => ?_)
      go_simp
      with_reducible rfl
    refine And.intro ?_ ?_
    · refine Reg.ob_pure (fun _ => rfl) rfl rfl rfl rfl (fun x w1 hF => ?_)
      go_simp
      with_reducible rfl
    refine And.intro ?_ ?_
    · refine Reg.ob_pure (fun _ => rfl) rfl rfl rfl rfl (fun x w1 hF => ?_)
      go_simp
      with_reducible rfl
    refine And.intro ?_ ?_
    · refine Reg.ob_pure (fun _ => rfl) rfl rfl rfl rfl (fun x w1 hF => ?_)
      have m0 := (hZ.only hF (by simp)).cell 0
      have m1 := (hZ.only hF (by simp)).cell 1
      have m2 := (hZ.only hF (by simp)).cell 2
      have m3 := (hZ.only hF (by simp)).cell 3
      simp at m0 m1 m2 m3
      go_simp
      with_reducible rfl
    refine And.intro ?_ ?_
    · refine Reg.ob_pure (fun _ => rfl) rfl rfl rfl rfl (fun x w1 hF => ?_)
      go_simp
      with_reducible rfl
    refine And.intro ?_ ?_
    · refine Reg.ob_pure (fun _ => rfl) rfl rfl rfl rfl (fun x w1 hF => ?_)
      go_simp
      with_reducible rfl
    refine And.intro ?_ ?_
    · refine Reg.ob_pure (fun _ => rfl) rfl rfl rfl rfl (fun x w1 hF => ?_)
      have m0 := (hP.only hF (by simp)).cell 0
      have m1 := (hP.only hF (by simp)).cell 1
      have m2 := (hP.only hF (by simp)).cell 2
      have m3 := (hP.only hF (by simp)).cell 3
      simp at m0 m1 m2 m3
      go_simp
      with_reducible rfl
    refine And.intro ?_ ?_
    · refine Reg.ob_pure (fun _ => rfl) rfl rfl rfl rfl (fun x w1 hF => ?_)
      go_simp
      with_reducible rfl
    refine And.intro ?_ ?_
    · refine Reg.ob_pure (fun _ => rfl) rfl rfl rfl rfl (fun x w1 hF => ?_)
      go_simp
    refine And.intro ?_ ?_
    · refine Reg.ob_pure (fun _ => rfl) rfl rfl rfl rfl (fun x w1 hF => ?_)
      go_simp
      with_reducible rfl
    refine And.intro ?_ ?_
    · refine Reg.ob_pure (fun _ => rfl) rfl rfl rfl rfl (fun x w1 hF => ?_)
      go_simp
      with_reducible rfl
    refine And.intro ?_ ?_
    · refine Reg.ob_pure (fun _ => rfl) rfl rfl rfl rfl (fun x w1 hF => ?_)
      obtain ⟨m0, m1, m2, m3, m4, m5, m6, m7⟩ := cls_cells (hW.only hF (by simp))
      go_simp
      with_reducible rfl
    refine And.intro ?_ ?_
    · refine Reg.ob_pure (fun _ => rfl) rfl rfl rfl rfl (fun x w1 hF => ?_)
      obtain ⟨m0, m1, m2, m3, m4, m5, m6, m7⟩ := cls_cells (hY.only hF (by simp))
      go_simp
      with_reducible rfl
    refine And.intro ?_ ?_
    · refine Reg.ob_known (fun _ => rfl) rfl rfl (fun x w1 hF hU K hK => ?_)
      have hF := hF rfl
      go_simp
      refine (HSM.out w1 hF).mono ?_
      rintro e w5 ⟨rfl, ho⟩
      exact hK _ (fun _ _ _ => hF.trans ho (fun _ _ e => e)) ho
    refine And.intro ?_ ?_
    · refine Reg.ob_pure (fun _ => rfl) rfl rfl rfl rfl (fun x w1 hF => ?_)
      go_simp
      with_reducible rfl
    refine And.intro ?_ ?_
    · refine Reg.ob_pure (fun _ => rfl) rfl rfl rfl rfl (fun x w1 hF => ?_)
      go_simp
      with_reducible rfl
    refine And.intro ?_ ?_
    · refine Reg.ob_pure (fun _ => rfl) rfl rfl rfl rfl (fun x w1 hF => ?_)
      go_simp
      with_reducible rfl
    refine And.intro ?_ ?_
    · refine Reg.ob_pure (fun _ => rfl) rfl rfl rfl rfl (fun x w1 hF => ?_)
      go_simp
      with_reducible rfl
    refine And.intro ?_ ?_
    · refine Reg.ob_pure (fun _ => rfl) rfl rfl rfl rfl (fun x w1 hF => ?_)
      obtain ⟨m0, m1, m2, m3, m4, m5, m6, m7⟩ := cls_cells (hY.only hF (by simp))
      go_simp
      with_reducible rfl
    refine And.intro ?_ ?_
    · refine Reg.ob_pure (fun _ => rfl) rfl rfl rfl rfl (fun x w1 hF => ?_)
      go_simp
    refine And.intro ?_ ?_
    · refine Reg.ob_pure (fun _ => rfl) rfl rfl rfl rfl (fun x w1 hF => ?_)
      go_simp
      with_reducible rfl
    refine And.intro ?_ ?_
    · exact Reg.ob_skip (fun _ => rfl) rfl rfl rfl
    refine And.intro ?_ ?_
    · exact Reg.ob_skip (fun _ => rfl) rfl rfl rfl
    refine And.intro ?_ ?_
    · exact Reg.ob_skip (fun _ => rfl) rfl rfl rfl
    refine And.intro ?_ ?_
    · exact Reg.ob_skip (fun _ => rfl) rfl rfl rfl
    refine And.intro ?_ ?_
    · exact Reg.ob_skip (fun _ => rfl) rfl rfl rfl
    refine And.intro ?_ ?_
    · exact Reg.ob_skip (fun _ => rfl) rfl rfl rfl
    refine And.intro ?_ ?_
    · refine Reg.ob_pure (fun _ => rfl) rfl rfl rfl rfl (fun x w1 hF => ?_)
      go_simp
      with_reducible rfl
    refine And.intro ?_ ?_
    · refine Reg.ob_pure (fun _ => rfl) rfl rfl rfl rfl (fun x w1 hF => ?_)
      go_simp
      with_reducible rfl
    exact trivial
  case hF =>
    exact Only.refl _ w0
  case hini =>
    exact trivial
  case pres =>
    intro i hi j hj hc x wx wy hF hE hW
    simp only [List.mem_cons, List.mem_nil_iff, or_false] at hj
  case fin =>
    rintro x w9 hF hU
    repeat apply Exists.intro
    exact ⟨rfl, rfl, hF rfl⟩

set_option maxRecDepth 100000 in
set_option maxHeartbeats 4000000 in
theorem fk12b (y : Ms) (p1 o1 s1 p2 o2 s2 : Value) (Au Av : Option Addr) (ct kd pad L cu cv pb yb zb wb : Nat) (bs : List Nat) (hl : y.pairs.length ≤ 300 ∧ y.orders.length ≤ 300 ∧ y.srcs.length ≤ 300) (hr : rightMs y = true) (hf : MFit y) (h3 : y.sort = 3) (u0 u1 u2 u3 u4 u6 u7 u8 u9 u10 u11 u12 u14 u19 u20 u21 u22 u23 u24 u25 u26 u27 u28 u29 u30 u31 u32 u33 u34 u35 u36 u37 u38 u39 u40 u41 u42 u43 u44 u45 u46 u47 u48 u49 u50 u51 u52 u53 u54 u55 u56 u57 u58 u59 u60 u61 u62 u63 u64 u65 u66 u67 u68 u69 u70 u71 u72 u73 u74 u75 u76 u77 u78 u79 u80 u81 u82 u83 u84 u85 u86 u87 u88 u89 u90 u91 u92 u93 u94 u95 u96 u97 u98 u99 u100 u101 u102 u103 u104 u105 u106 u107 u108 u109 u110 u111 u112 u113 u114 u115 u116 u117 u118 u119 u120 u121 u122 u123 u124 u125 u126 u127 u128 u129 u130 u131 u132 u133 u134 u135 u136 u137 u138 u139 u140 u141 u142 u143 u144 u145 u146 u147 u148 u149 u150 u151 u152 u153 u154 u155 u156 u157 u158 u159 u160 u161 u162 u163 u164 u165 u166 u167 u168 u169 u170 u171 u172 u173 u174 u175 u176 u177 u178 u179 u180 u181 u182 u183 u184 u185 u186 u187 u188 u189 u190 u191 u192 u193 u194 u195 u196 u197 u198 u199 u200 u201 u202 u203 u204 : Value) (Q : Exit → Act → World → Prop) (w0 : World) (hP : Is w0 pb 41 #[.int .u8 (ct : Nat), .int .u8 (kd : Nat), .slice Av L cv, .int .u8 (pad : Nat)]) (hY : Is w0 yb 27 (y.cls p1 o1 s1)) (hZ : Is w0 zb 41 #[.int .u8 (ct : Nat), .int .u8 (kd : Nat), .slice Au L cu, .int .u8 (0 : Nat)]) (hW : Is w0 wb 27 (y.cls p2 o2 s2)) (hDy : RdM y p1 o1 s1 w0) (hDw : RdM y p2 o2 s2 w0)
    (hend : ∀ (y89 y90 y91 y92 y93 y94 y95 y96 y97 y98 y99 y100 y101 y102 y103 y104 y105 y106 y107 y108 y109 y110 y111 y112 y113 y114 y115 y116 y117 y118 y119 y120 y121 y122 y123 y124 y125 y126 y127 y128 y129 y130 y131 y132 y133 y134 y135 y136 y137 y138 y139 y140 : Value) (w' : World), Only (fun _ => False) w0 w' → Q .normal ⟨(List.toArray (u0 :: u1 :: u2 :: u3 :: u4 :: .pointer (some ⟨pb, 0, none⟩) :: u6 :: u7 :: u8 :: u9 :: u10 :: u11 :: u12 :: .pointer (some ⟨yb, 0, none⟩) :: u14 :: .pointer (some ⟨zb, 0, none⟩) :: .int .i64 0 :: .pointer (some ⟨wb, 0, none⟩) :: .int .i64 0 :: u19 :: u20 :: u21 :: u22 :: u23 :: u24 :: u25 :: u26 :: u27 :: u28 :: u29 :: u30 :: u31 :: u32 :: u33 :: u34 :: u35 :: u36 :: u37 :: u38 :: u39 :: u40 :: u41 :: u42 :: u43 :: u44 :: u45 :: u46 :: u47 :: u48 :: u49 :: u50 :: u51 :: u52 :: u53 :: u54 :: u55 :: u56 :: u57 :: u58 :: u59 :: u60 :: u61 :: u62 :: u63 :: u64 :: u65 :: u66 :: u67 :: u68 :: u69 :: u70 :: u71 :: u72 :: u73 :: u74 :: u75 :: u76 :: u77 :: u78 :: u79 :: u80 :: u81 :: u82 :: u83 :: u84 :: u85 :: u86 :: u87 :: u88 :: y89 :: y90 :: y91 :: y92 :: y93 :: y94 :: y95 :: y96 :: y97 :: y98 :: y99 :: y100 :: y101 :: y102 :: y103 :: y104 :: y105 :: y106 :: y107 :: y108 :: y109 :: y110 :: y111 :: y112 :: y113 :: y114 :: y115 :: y116 :: y117 :: y118 :: y119 :: y120 :: y121 :: y122 :: y123 :: y124 :: y125 :: y126 :: y127 :: y128 :: y129 :: y130 :: y131 :: y132 :: y133 :: y134 :: y135 :: y136 :: y137 :: y138 :: y139 :: y140 :: .bool false :: u142 :: u143 :: u144 :: u145 :: u146 :: u147 :: u148 :: u149 :: u150 :: u151 :: u152 :: u153 :: u154 :: u155 :: u156 :: u157 :: u158 :: u159 :: u160 :: u161 :: u162 :: u163 :: u164 :: u165 :: u166 :: u167 :: u168 :: u169 :: u170 :: u171 :: u172 :: u173 :: u174 :: u175 :: u176 :: u177 :: u178 :: u179 :: u180 :: u181 :: u182 :: u183 :: u184 :: u185 :: u186 :: u187 :: u188 :: u189 :: u190 :: u191 :: u192 :: u193 :: u194 :: u195 :: u196 :: u197 :: u198 :: u199 :: u200 :: u201 :: u202 :: u203 :: u204 :: [])), []⟩ w') :
    Code.wp Try.prog fk12b_code Q ⟨(List.toArray (u0 :: u1 :: u2 :: u3 :: u4 :: .pointer (some ⟨pb, 0, none⟩) :: u6 :: u7 :: u8 :: u9 :: u10 :: u11 :: u12 :: .pointer (some ⟨yb, 0, none⟩) :: u14 :: .pointer (some ⟨zb, 0, none⟩) :: .int .i64 0 :: .pointer (some ⟨wb, 0, none⟩) :: .int .i64 0 :: u19 :: u20 :: u21 :: u22 :: u23 :: u24 :: u25 :: u26 :: u27 :: u28 :: u29 :: u30 :: u31 :: u32 :: u33 :: u34 :: u35 :: u36 :: u37 :: u38 :: u39 :: u40 :: u41 :: u42 :: u43 :: u44 :: u45 :: u46 :: u47 :: u48 :: u49 :: u50 :: u51 :: u52 :: u53 :: u54 :: u55 :: u56 :: u57 :: u58 :: u59 :: u60 :: u61 :: u62 :: u63 :: u64 :: u65 :: u66 :: u67 :: u68 :: u69 :: u70 :: u71 :: u72 :: u73 :: u74 :: u75 :: u76 :: u77 :: u78 :: u79 :: u80 :: u81 :: u82 :: u83 :: u84 :: u85 :: u86 :: u87 :: u88 :: u89 :: u90 :: u91 :: u92 :: u93 :: u94 :: u95 :: u96 :: u97 :: u98 :: u99 :: u100 :: u101 :: u102 :: u103 :: u104 :: u105 :: u106 :: u107 :: u108 :: u109 :: u110 :: u111 :: u112 :: u113 :: u114 :: u115 :: u116 :: u117 :: u118 :: u119 :: u120 :: u121 :: u122 :: u123 :: u124 :: u125 :: u126 :: u127 :: u128 :: u129 :: u130 :: u131 :: u132 :: u133 :: u134 :: u135 :: u136 :: u137 :: u138 :: u139 :: u140 :: u141 :: u142 :: u143 :: u144 :: u145 :: u146 :: u147 :: u148 :: u149 :: u150 :: u151 :: u152 :: u153 :: u154 :: u155 :: u156 :: u157 :: u158 :: u159 :: u160 :: u161 :: u162 :: u163 :: u164 :: u165 :: u166 :: u167 :: u168 :: u169 :: u170 :: u171 :: u172 :: u173 :: u174 :: u175 :: u176 :: u177 :: u178 :: u179 :: u180 :: u181 :: u182 :: u183 :: u184 :: u185 :: u186 :: u187 :: u188 :: u189 :: u190 :: u191 :: u192 :: u193 :: u194 :: u195 :: u196 :: u197 :: u198 :: u199 :: u200 :: u201 :: u202 :: u203 :: u204 :: [])), []⟩ w0 := by
  refine wp_mono (fk12b_in y p1 o1 s1 p2 o2 s2 Au Av ct kd pad L cu cv pb yb zb wb bs hl hr hf h3 _ _ _ _ _ _ _ _ _ _ _ _ _ _ _ _ _ _ _ _ _ _ _ _ _ _ _ _ _ _ _ _ _ _ _ _ _ _ _ _ _ _ _ _ _ _ _ _ _ _ _ _ _ _ _ _ _ _ _ _ _ _ _ _ _ _ _ _ _ _ _ _ _ _ _ _ _ _ _ _ _ _ _ _ _ _ _ _ _ _ _ _ _ _ _ _ _ _ _ _ _ _ _ _ _ _ _ _ _ _ _ _ _ _ _ _ _ _ _ _ _ _ _ _ _ _ _ _ _ _ _ _ _ _ _ _ _ _ _ _ _ _ _ _ _ _ _ _ _ _ _ _ _ _ _ _ _ _ _ _ _ _ _ _ _ _ _ _ _ _ _ _ _ _ _ _ _ _ _ _ _ _ _ _ _ _ _ _ _ _ _ _ _ _ _ _ _ _ _ w0 hP hY hZ hW hDy hDw) ?_
  rintro e a w' h
  obtain ⟨y89, h⟩ := h
  obtain ⟨y90, h⟩ := h
  obtain ⟨y91, h⟩ := h
  obtain ⟨y92, h⟩ := h
  obtain ⟨y93, h⟩ := h
  obtain ⟨y94, h⟩ := h
  obtain ⟨y95, h⟩ := h
  obtain ⟨y96, h⟩ := h
  obtain ⟨y97, h⟩ := h
  obtain ⟨y98, h⟩ := h
  obtain ⟨y99, h⟩ := h
  obtain ⟨y100, h⟩ := h
  obtain ⟨y101, h⟩ := h
  obtain ⟨y102, h⟩ := h
  obtain ⟨y103, h⟩ := h
  obtain ⟨y104, h⟩ := h
  obtain ⟨y105, h⟩ := h
  obtain ⟨y106, h⟩ := h
  obtain ⟨y107, h⟩ := h
  obtain ⟨y108, h⟩ := h
  obtain ⟨y109, h⟩ := h
  obtain ⟨y110, h⟩ := h
  obtain ⟨y111, h⟩ := h
  obtain ⟨y112, h⟩ := h
  obtain ⟨y113, h⟩ := h
  obtain ⟨y114, h⟩ := h
  obtain ⟨y115, h⟩ := h
  obtain ⟨y116, h⟩ := h
  obtain ⟨y117, h⟩ := h
  obtain ⟨y118, h⟩ := h
  obtain ⟨y119, h⟩ := h
  obtain ⟨y120, h⟩ := h
  obtain ⟨y121, h⟩ := h
  obtain ⟨y122, h⟩ := h
  obtain ⟨y123, h⟩ := h
  obtain ⟨y124, h⟩ := h
  obtain ⟨y125, h⟩ := h
  obtain ⟨y126, h⟩ := h
  obtain ⟨y127, h⟩ := h
  obtain ⟨y128, h⟩ := h
  obtain ⟨y129, h⟩ := h
  obtain ⟨y130, h⟩ := h
  obtain ⟨y131, h⟩ := h
  obtain ⟨y132, h⟩ := h
  obtain ⟨y133, h⟩ := h
  obtain ⟨y134, h⟩ := h
  obtain ⟨y135, h⟩ := h
  obtain ⟨y136, h⟩ := h
  obtain ⟨y137, h⟩ := h
  obtain ⟨y138, h⟩ := h
  obtain ⟨y139, h⟩ := h
  obtain ⟨y140, h⟩ := h
  obtain ⟨h, rfl, hq⟩ := h
  subst h
  exact hend y89 y90 y91 y92 y93 y94 y95 y96 y97 y98 y99 y100 y101 y102 y103 y104 y105 y106 y107 y108 y109 y110 y111 y112 y113 y114 y115 y116 y117 y118 y119 y120 y121 y122 y123 y124 y125 y126 y127 y128 y129 y130 y131 y132 y133 y134 y135 y136 y137 y138 y139 y140 w' hq
end Go.Proofs.Ytefcimkopgcagaa
