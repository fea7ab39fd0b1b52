/- RosterSources: the drawn region of a look, and the round's end. Conditions: as each says. -/
import Derived.Test.YtglgmhdajmncjaaRyS
import Derived.Test.YtglgmhdajmncjaaCodeIf
set_option linter.unusedVariables false
set_option linter.unusedSimpArgs false
namespace Go.Proofs.Ytglgmhdajmncjaa
open Go Go.RowKit

theorem mbEq_self (a : Mb) : mbEq a a = true := by simp [mbEq]
theorem run_ne_mb {o : Oper} {ρ : Operand → Value} (w : World) (x y : Operand) (a : Mb)
    (ho : o.op = .binOp .neq 58 x y 58) (hx : ρ x = mbV a) (hy : ρ y = mbV a) :
    (execOp ρ o).run Try.prog w = .ok (.value (.bool false)) w := by
  have h := eq_mb a a w
  rw [mbEq_self, run_eql_struct] at h
  have hn : (binOp .neq 58 (mbV a) (mbV a)).run Try.prog w = .ok (.bool false) w := by
    rw [run_neq_struct, okb h]
    rfl
  unfold execOp
  simp only [ho, hx, hy, Sem.run_bind, Sem.run_pure, Result.andThen_ok, run_eqGuard_agg (P := Try.prog) w .neq 58 x y _ _ (by kernel_rfl), hn]
/-- What is compared in a look. -/
structure Fk (x : Mb) (ga g7 k i22 i25 : Nat) (w0 wx : World) : Prop where
  ra : wx.rangeAt ga (k * 4) (mbA x).toList
  r7 : wx.rangeAt g7 (k * 4) (mbA x).toList
  ia : Is wx i22 58 (mbA x)
  ib : Is wx i25 58 (mbA x)
  la : ga < wx.heap.size
  l7 : g7 < wx.heap.size
  only : Only (fun _ => False) w0 wx
theorem Fk.go {x : Mb} {ga g7 k i22 i25 : Nat} {w0 wx wy : World} (h : Fk x ga g7 k i22 i25 w0 wx) (ho : Only (fun _ => False) wx wy) : Fk x ga g7 k i22 i25 w0 wy :=
  ⟨range_only h.ra h.la ho (by simp), range_only h.r7 h.l7 ho (by simp), h.ia.only ho (by simp), h.ib.only ho (by simp), Nat.lt_of_lt_of_le h.la ho.size, Nat.lt_of_lt_of_le h.l7 ho.size, h.only.trans ho (fun _ _ e => e)⟩
theorem own_of {r : Ro} (h : r.Fit) {x : Mb} (hx : x ∈ r.l) {s : Nat} (hs : x.co = s ∨ x.ca = s) : ownM r.l s = some x := by
  rcases h1 : ownM r.l s with _ | y
  · have := ownM_none h1 x hx
    omega
  · obtain ⟨h2, h3⟩ := ownM_mem h1
    by_cases he : y.id = x.id
    · rw [ids_inj h.ids h2 hx he]
    · obtain ⟨q1, q2, q3, q4⟩ := h.apart y h2 x hx he
      omega
theorem right_ne {m : Mb} (h : m.right = true) : m.co ≠ m.ca ∧ m.co ≠ 0 ∧ m.ca ≠ 0 := by
  unfold Mb.right at h
  simp at h
  omega
theorem gone_own {r : Ro} (h : r.Fit) {id : Int} {m : Mb} (hm : getM r.l id = some m) : ownM (r.leave id).1.l m.co = none ∧ ownM (r.leave id).1.l m.ca = none := by
  obtain ⟨h1, h2⟩ := getM_mem hm
  have e : (r.leave id).1.l = r.l.filter fun x => x.id != id := by
    unfold Ro.leave
    rw [hm]
    rfl
  have key : ∀ s, (m.co = s ∨ m.ca = s) → ownM (r.leave id).1.l s = none := fun s hs => by
    rcases h3 : ownM (r.leave id).1.l s with _ | y
    · rfl
    · obtain ⟨h4, h5⟩ := ownM_mem h3
      rw [e] at h4
      obtain ⟨h6, h7⟩ := List.mem_filter.1 h4
      have hne : y.id ≠ m.id := by rw [h2]; simpa using h7
      obtain ⟨q1, q2, q3, q4⟩ := h.apart y h6 m h1 hne
      omega
  exact ⟨key _ (.inl rfl), key _ (.inr rfl)⟩
theorem srcV_co (x : Mb) : srcV (some x) x.co = .tuple #[mbV x, .bool true, .bool true] := by simp [srcV]
theorem srcV_ca {x : Mb} (h : x.co ≠ x.ca) : srcV (some x) x.ca = .tuple #[mbV x, .bool false, .bool true] := by simp [srcV, h]
theorem leave_l (r : Ro) (id : Int) : (r.leave id).1.l = r.l.filter fun x => x.id != id := by
  unfold Ro.leave
  rcases h : getM r.l id with _ | m
  · exact (List.filter_eq_self.2 (fun x hx => by simpa using getM_none h x hx)).symm
  · rfl
def rq34_A : List (List Nat) := ([] :: [] :: [0, 1] :: [2, 0, 1] :: [] :: [] :: [4, 5] :: [6, 4, 5] :: (3 :: 7 :: 2 :: 0 :: 1 :: 6 :: 4 :: 5 :: []) :: (8 :: 3 :: 7 :: 2 :: 0 :: 1 :: 6 :: 4 :: 5 :: []) :: (9 :: 8 :: 3 :: 7 :: 2 :: 0 :: 1 :: 6 :: 4 :: 5 :: []) :: (10 :: 9 :: 8 :: 3 :: 7 :: 2 :: 0 :: 1 :: 6 :: 4 :: 5 :: []) :: (9 :: 11 :: 8 :: 3 :: 7 :: 2 :: 0 :: 1 :: 6 :: 4 :: 5 :: 10 :: []) :: (12 :: 9 :: 11 :: 8 :: 3 :: 7 :: 2 :: 0 :: 1 :: 6 :: 4 :: 5 :: 10 :: []) :: (13 :: 12 :: 9 :: 11 :: 8 :: 3 :: 7 :: 2 :: 0 :: 1 :: 6 :: 4 :: 5 :: 10 :: []) :: (14 :: 13 :: 12 :: 9 :: 11 :: 8 :: 3 :: 7 :: 2 :: 0 :: 1 :: 6 :: 4 :: 5 :: 10 :: []) :: (13 :: 15 :: 12 :: 9 :: 11 :: 8 :: 3 :: 7 :: 2 :: 0 :: 1 :: 6 :: 4 :: 5 :: 10 :: 14 :: []) :: (16 :: 13 :: 15 :: 12 :: 9 :: 11 :: 8 :: 3 :: 7 :: 2 :: 0 :: 1 :: 6 :: 4 :: 5 :: 10 :: 14 :: []) :: (17 :: 16 :: 13 :: 15 :: 12 :: 9 :: 11 :: 8 :: 3 :: 7 :: 2 :: 0 :: 1 :: 6 :: 4 :: 5 :: 10 :: 14 :: []) :: (17 :: 16 :: 13 :: 15 :: 12 :: 9 :: 11 :: 8 :: 3 :: 7 :: 2 :: 0 :: 1 :: 6 :: 4 :: 5 :: 10 :: 14 :: []) :: (17 :: 16 :: 13 :: 15 :: 12 :: 9 :: 11 :: 8 :: 3 :: 7 :: 2 :: 0 :: 1 :: 6 :: 4 :: 5 :: 10 :: 14 :: []) :: (19 :: 20 :: 17 :: 16 :: 13 :: 15 :: 12 :: 9 :: 11 :: 8 :: 3 :: 7 :: 2 :: 0 :: 1 :: 6 :: 4 :: 5 :: 10 :: 14 :: []) :: (21 :: 17 :: 19 :: 20 :: 16 :: 13 :: 15 :: 12 :: 9 :: 11 :: 8 :: 3 :: 7 :: 2 :: 0 :: 1 :: 6 :: 4 :: 5 :: 10 :: 14 :: []) :: (18 :: 22 :: 17 :: 16 :: 13 :: 15 :: 12 :: 9 :: 11 :: 8 :: 3 :: 7 :: 2 :: 0 :: 1 :: 6 :: 4 :: 5 :: 10 :: 14 :: 21 :: 19 :: 20 :: []) :: (17 :: 23 :: 16 :: 13 :: 15 :: 12 :: 9 :: 11 :: 8 :: 3 :: 7 :: 2 :: 0 :: 1 :: 6 :: 4 :: 5 :: 10 :: 14 :: 18 :: 22 :: 21 :: 19 :: 20 :: []) :: (24 :: 17 :: 23 :: 16 :: 13 :: 15 :: 12 :: 9 :: 11 :: 8 :: 3 :: 7 :: 2 :: 0 :: 1 :: 6 :: 4 :: 5 :: 10 :: 14 :: 18 :: 22 :: 21 :: 19 :: 20 :: []) :: (25 :: 24 :: 17 :: 23 :: 16 :: 13 :: 15 :: 12 :: 9 :: 11 :: 8 :: 3 :: 7 :: 2 :: 0 :: 1 :: 6 :: 4 :: 5 :: 10 :: 14 :: 18 :: 22 :: 21 :: 19 :: 20 :: []) :: (25 :: 24 :: 17 :: 23 :: 16 :: 13 :: 15 :: 12 :: 9 :: 11 :: 8 :: 3 :: 7 :: 2 :: 0 :: 1 :: 6 :: 4 :: 5 :: 10 :: 14 :: 18 :: 22 :: 21 :: 19 :: 20 :: []) :: (25 :: 24 :: 17 :: 23 :: 16 :: 13 :: 15 :: 12 :: 9 :: 11 :: 8 :: 3 :: 7 :: 2 :: 0 :: 1 :: 6 :: 4 :: 5 :: 10 :: 14 :: 18 :: 22 :: 21 :: 19 :: 20 :: []) :: (27 :: 28 :: 25 :: 24 :: 17 :: 23 :: 16 :: 13 :: 15 :: 12 :: 9 :: 11 :: 8 :: 3 :: 7 :: 2 :: 0 :: 1 :: 6 :: 4 :: 5 :: 10 :: 14 :: 18 :: 22 :: 21 :: 19 :: 20 :: []) :: (29 :: 25 :: 27 :: 28 :: 24 :: 17 :: 23 :: 16 :: 13 :: 15 :: 12 :: 9 :: 11 :: 8 :: 3 :: 7 :: 2 :: 0 :: 1 :: 6 :: 4 :: 5 :: 10 :: 14 :: 18 :: 22 :: 21 :: 19 :: 20 :: []) :: (26 :: 30 :: 25 :: 24 :: 17 :: 23 :: 16 :: 13 :: 15 :: 12 :: 9 :: 11 :: 8 :: 3 :: 7 :: 2 :: 0 :: 1 :: 6 :: 4 :: 5 :: 10 :: 14 :: 18 :: 22 :: 21 :: 19 :: 20 :: 29 :: 27 :: 28 :: []) :: (25 :: 31 :: 24 :: 17 :: 23 :: 16 :: 13 :: 15 :: 12 :: 9 :: 11 :: 8 :: 3 :: 7 :: 2 :: 0 :: 1 :: 6 :: 4 :: 5 :: 10 :: 14 :: 18 :: 22 :: 21 :: 19 :: 20 :: 26 :: 30 :: 29 :: 27 :: 28 :: []) :: (32 :: 25 :: 31 :: 24 :: 17 :: 23 :: 16 :: 13 :: 15 :: 12 :: 9 :: 11 :: 8 :: 3 :: 7 :: 2 :: 0 :: 1 :: 6 :: 4 :: 5 :: 10 :: 14 :: 18 :: 22 :: 21 :: 19 :: 20 :: 26 :: 30 :: 29 :: 27 :: 28 :: []) :: (33 :: 32 :: 25 :: 31 :: 24 :: 17 :: 23 :: 16 :: 13 :: 15 :: 12 :: 9 :: 11 :: 8 :: 3 :: 7 :: 2 :: 0 :: 1 :: 6 :: 4 :: 5 :: 10 :: 14 :: 18 :: 22 :: 21 :: 19 :: 20 :: 26 :: 30 :: 29 :: 27 :: 28 :: []) :: (34 :: 33 :: 32 :: 25 :: 31 :: 24 :: 17 :: 23 :: 16 :: 13 :: 15 :: 12 :: 9 :: 11 :: 8 :: 3 :: 7 :: 2 :: 0 :: 1 :: 6 :: 4 :: 5 :: 10 :: 14 :: 18 :: 22 :: 21 :: 19 :: 20 :: 26 :: 30 :: 29 :: 27 :: 28 :: []) :: (33 :: 35 :: 32 :: 25 :: 31 :: 24 :: 17 :: 23 :: 16 :: 13 :: 15 :: 12 :: 9 :: 11 :: 8 :: 3 :: 7 :: 2 :: 0 :: 1 :: 6 :: 4 :: 5 :: 10 :: 14 :: 18 :: 22 :: 21 :: 19 :: 20 :: 26 :: 30 :: 29 :: 27 :: 28 :: 34 :: []) :: (36 :: 33 :: 35 :: 32 :: 25 :: 31 :: 24 :: 17 :: 23 :: 16 :: 13 :: 15 :: 12 :: 9 :: 11 :: 8 :: 3 :: 7 :: 2 :: 0 :: 1 :: 6 :: 4 :: 5 :: 10 :: 14 :: 18 :: 22 :: 21 :: 19 :: 20 :: 26 :: 30 :: 29 :: 27 :: 28 :: 34 :: []) :: (37 :: 36 :: 33 :: 35 :: 32 :: 25 :: 31 :: 24 :: 17 :: 23 :: 16 :: 13 :: 15 :: 12 :: 9 :: 11 :: 8 :: 3 :: 7 :: 2 :: 0 :: 1 :: 6 :: 4 :: 5 :: 10 :: 14 :: 18 :: 22 :: 21 :: 19 :: 20 :: 26 :: 30 :: 29 :: 27 :: 28 :: 34 :: []) :: (37 :: 38 :: 36 :: 33 :: 35 :: 32 :: 25 :: 31 :: 24 :: 17 :: 23 :: 16 :: 13 :: 15 :: 12 :: 9 :: 11 :: 8 :: 3 :: 7 :: 2 :: 0 :: 1 :: 6 :: 4 :: 5 :: 10 :: 14 :: 18 :: 22 :: 21 :: 19 :: 20 :: 26 :: 30 :: 29 :: 27 :: 28 :: 34 :: []) :: [])
def rq34_kill : List (List Nat) := ([] :: [] :: [] :: [] :: [] :: [] :: [] :: [] :: [] :: [] :: [] :: [] :: [] :: [] :: [] :: [] :: [] :: [] :: [] :: [] :: [] :: [] :: [] :: [] :: [] :: [] :: [] :: [] :: [] :: [] :: [] :: [] :: [] :: [] :: [] :: [] :: [] :: [] :: [] :: [] :: [])
def rq34_uses : List (List Nat) := ([] :: [] :: [] :: [] :: [] :: [] :: [] :: [] :: [] :: [] :: [] :: [] :: [] :: [] :: [] :: [] :: [] :: [] :: [] :: [] :: [] :: [] :: [] :: [] :: [] :: [] :: [] :: [] :: [] :: [] :: [] :: [] :: [] :: [] :: [] :: [] :: [] :: [] :: [] :: [] :: [])
noncomputable def rq34_code : Code := ((Try.f6.body.bind (codeRegion 34)).getD .skip)
set_option maxRecDepth 100000 in
set_option maxHeartbeats 4000000 in
theorem rq34_in (xm : Mb) (ga g7 k L c7 ca i22 i25 : Nat) (w0 : World) (hkI : (k : Int) < (L : Int))  (u0 u1 u2 u3 u4 u5 u6 u8 u9 u10 u11 u12 u13 u14 u15 u16 u17 u18 u19 u28 u29 u30 u31 u32 u33 u34 u35 u36 u37 u38 u39 u40 u41 u42 u43 u44 u45 u46 u47 u48 u49 u50 u51 u52 u53 u54 u55 u56 u57 u58 u59 u60 u61 u62 u63 u64 u65 u66 u67 u68 u69 u70 u71 u72 u73 u74 u75 u76 u77 u78 u79 u80 u81 u82 u83 u84 u85 u86 u87 u88 u89 u90 u91 u92 u93 u94 u95 u96 u97 u98 u99 u100 u101 u102 u103 u104 u105 u106 u107 u108 u109 u110 u111 u112 u113 u114 u115 u116 u117 u118 u119 u120 u121 u122 u123 u124 u125 u126 u127 u128 u129 u130 u131 u132 u133 u134 u135 u136 u137 u138 u139 u140 u141 u142 u143 u144 u145 u146 u147 u148 u149 u150 u151 u152 u153 u154 u155 u156 u157 u158 u159 u160 u161 u162 u163 u164 u165 u166 u167 u168 u169 u170 u171 u172 u173 u174 u175 u176 u177 u178 u179 u180 u181 u182 u183 u184 u185 u186 u187 u188 u189 u190 u191 u192 u193 u194 u195 u196 u197 u198 u199 u200 u201 u202 u203 u204 u205 u206 u207 u208 u209 u210 u211 u212 u213 u214 u215 u216 u217 u218 u219 u220 u221 : Value) (w : World) (hG : Fk xm ga g7 k i22 i25 w0 w) :
    Code.wp Try.prog rq34_code (fun e a w' => ∃ y181 y182 y183 y184 y185 y186 y187 y188 y189 y190 y191 y192 y193 y194 y195 y196 y197 y198 y199 y200 y201 y202 y203 y204 y205 y206 y207 y208 y209 y210 y211 y212 y213 y214 y215 y216 y217 y218 y219 : Value, a = ⟨(List.toArray (u0 :: u1 :: u2 :: u3 :: u4 :: u5 :: u6 :: .slice (some ⟨g7, 0, none⟩) L c7 :: u8 :: u9 :: u10 :: u11 :: u12 :: u13 :: u14 :: u15 :: u16 :: u17 :: u18 :: u19 :: .slice (some ⟨ga, 0, none⟩) L ca :: .int .i64 (k : Int) :: .pointer (some ⟨i22, 0, none⟩) :: .bool true :: .bool true :: .pointer (some ⟨i25, 0, none⟩) :: .bool false :: .bool true :: u28 :: u29 :: u30 :: u31 :: u32 :: u33 :: u34 :: u35 :: u36 :: u37 :: u38 :: u39 :: u40 :: u41 :: u42 :: u43 :: u44 :: u45 :: u46 :: u47 :: u48 :: u49 :: u50 :: u51 :: u52 :: u53 :: u54 :: u55 :: u56 :: u57 :: u58 :: u59 :: u60 :: u61 :: u62 :: u63 :: u64 :: u65 :: u66 :: u67 :: u68 :: u69 :: u70 :: u71 :: u72 :: u73 :: u74 :: u75 :: u76 :: u77 :: u78 :: u79 :: u80 :: u81 :: u82 :: u83 :: u84 :: u85 :: u86 :: u87 :: u88 :: u89 :: u90 :: u91 :: u92 :: u93 :: u94 :: u95 :: u96 :: u97 :: u98 :: u99 :: u100 :: u101 :: u102 :: u103 :: u104 :: u105 :: u106 :: u107 :: u108 :: u109 :: u110 :: u111 :: u112 :: u113 :: u114 :: u115 :: u116 :: u117 :: u118 :: u119 :: u120 :: u121 :: u122 :: u123 :: u124 :: u125 :: u126 :: u127 :: u128 :: u129 :: u130 :: u131 :: u132 :: u133 :: u134 :: u135 :: u136 :: u137 :: u138 :: u139 :: u140 :: u141 :: u142 :: u143 :: u144 :: u145 :: u146 :: u147 :: u148 :: u149 :: u150 :: u151 :: u152 :: u153 :: u154 :: u155 :: u156 :: u157 :: u158 :: u159 :: u160 :: u161 :: u162 :: u163 :: u164 :: u165 :: u166 :: u167 :: u168 :: u169 :: u170 :: u171 :: u172 :: u173 :: u174 :: u175 :: u176 :: u177 :: u178 :: u179 :: u180 :: y181 :: y182 :: y183 :: y184 :: y185 :: y186 :: y187 :: y188 :: y189 :: y190 :: y191 :: y192 :: y193 :: y194 :: y195 :: y196 :: y197 :: y198 :: y199 :: y200 :: y201 :: y202 :: y203 :: y204 :: y205 :: y206 :: y207 :: y208 :: y209 :: y210 :: y211 :: y212 :: y213 :: y214 :: y215 :: y216 :: y217 :: y218 :: y219 :: .bool false :: u221 :: [])), []⟩ ∧ e = .normal ∧ (Only (fun _ => False) w0 w')) ⟨(List.toArray (u0 :: u1 :: u2 :: u3 :: u4 :: u5 :: u6 :: .slice (some ⟨g7, 0, none⟩) L c7 :: u8 :: u9 :: u10 :: u11 :: u12 :: u13 :: u14 :: u15 :: u16 :: u17 :: u18 :: u19 :: .slice (some ⟨ga, 0, none⟩) L ca :: .int .i64 (k : Int) :: .pointer (some ⟨i22, 0, none⟩) :: .bool true :: .bool true :: .pointer (some ⟨i25, 0, none⟩) :: .bool false :: .bool true :: u28 :: u29 :: u30 :: u31 :: u32 :: u33 :: u34 :: u35 :: u36 :: u37 :: u38 :: u39 :: u40 :: u41 :: u42 :: u43 :: u44 :: u45 :: u46 :: u47 :: u48 :: u49 :: u50 :: u51 :: u52 :: u53 :: u54 :: u55 :: u56 :: u57 :: u58 :: u59 :: u60 :: u61 :: u62 :: u63 :: u64 :: u65 :: u66 :: u67 :: u68 :: u69 :: u70 :: u71 :: u72 :: u73 :: u74 :: u75 :: u76 :: u77 :: u78 :: u79 :: u80 :: u81 :: u82 :: u83 :: u84 :: u85 :: u86 :: u87 :: u88 :: u89 :: u90 :: u91 :: u92 :: u93 :: u94 :: u95 :: u96 :: u97 :: u98 :: u99 :: u100 :: u101 :: u102 :: u103 :: u104 :: u105 :: u106 :: u107 :: u108 :: u109 :: u110 :: u111 :: u112 :: u113 :: u114 :: u115 :: u116 :: u117 :: u118 :: u119 :: u120 :: u121 :: u122 :: u123 :: u124 :: u125 :: u126 :: u127 :: u128 :: u129 :: u130 :: u131 :: u132 :: u133 :: u134 :: u135 :: u136 :: u137 :: u138 :: u139 :: u140 :: u141 :: u142 :: u143 :: u144 :: u145 :: u146 :: u147 :: u148 :: u149 :: u150 :: u151 :: u152 :: u153 :: u154 :: u155 :: u156 :: u157 :: u158 :: u159 :: u160 :: u161 :: u162 :: u163 :: u164 :: u165 :: u166 :: u167 :: u168 :: u169 :: u170 :: u171 :: u172 :: u173 :: u174 :: u175 :: u176 :: u177 :: u178 :: u179 :: u180 :: u181 :: u182 :: u183 :: u184 :: u185 :: u186 :: u187 :: u188 :: u189 :: u190 :: u191 :: u192 :: u193 :: u194 :: u195 :: u196 :: u197 :: u198 :: u199 :: u200 :: u201 :: u202 :: u203 :: u204 :: u205 :: u206 :: u207 :: u208 :: u209 :: u210 :: u211 :: u212 :: u213 :: u214 :: u215 :: u216 :: u217 :: u218 :: u219 :: u220 :: u221 :: [])), []⟩ w := by
  conv => arg 2; whnf
  refine wp_region_posts rq34_A [] [] rq34_kill rq34_uses [] [] [] []
      (some ?v0 :: some ?v1 :: some ?v2 :: some ((mbV xm)) :: some ?v4 :: some ?v5 :: some ?v6 :: some ((mbV xm)) :: some ((.bool false)) :: some ?v9 :: some ?v10 :: some ?v11 :: some ?v12 :: some ?v13 :: some ?v14 :: some ?v15 :: some ?v16 :: some ?v17 :: some ((mbV xm)) :: some ?v19 :: some ?v20 :: some ?v21 :: some ((mbV xm)) :: some ((.bool false)) :: some ?v24 :: some ?v25 :: some ((mbV xm)) :: some ?v27 :: some ?v28 :: some ?v29 :: some ((mbV xm)) :: some ((.bool false)) :: some ?v32 :: some ?v33 :: some ?v34 :: some ?v35 :: some ?v36 :: some ?v37 :: some ?v38 :: some ?v39 :: [])
      ?T (fun wx => Fk xm ga g7 k i22 i25 w0 wx) ?W ?E (by kernel_rfl) (by kernel_rfl) (by kernel_rfl) (fun x => ?hT) ?hF ?hini (Reg.all_ops ?runs) ?pres ?fin
  case W => exact fun j y w' => True
  case E => exact fun i wx wy => Only (fun _ => False) wx wy
  case hT =>
    simp only [Reg.fillV, Act.put, List.setIfInBounds_toArray, List.set_cons_zero, List.set_cons_succ]
    rfl
  case runs =>
    refine And.intro ?_ ?_
    · refine Reg.ob_pure (fun _ => rfl) rfl rfl rfl rfl (fun x w1 hF => ?_)
      have hkI := hkI
      have _h := hF
      go_simp
      with_reducible rfl
    refine And.intro ?_ ?_
    · refine Reg.ob_pure (fun _ => rfl) rfl rfl rfl rfl (fun x w1 hF => ?_)
      have hkI := hkI
      have _h := hF
      go_simp
      with_reducible rfl
    refine And.intro ?_ ?_
    · refine Reg.ob_pure (fun _ => rfl) rfl rfl rfl rfl (fun x w1 hF => ?_)
      have hkI := hkI
      have _h := hF
      go_simp
      with_reducible rfl
    refine And.intro ?_ ?_
    · refine Reg.ob_known (fun _ => rfl) rfl rfl (fun x w1 hF hU K hK => ?_)
      refine wp_load_mid 58 _ rfl ga (k * 4) ?_ (mbA xm).toList _ (hF rfl).ra Try.underlying58 rfl Try.sizeMb ?_
      · go_simp
        try rfl
      · exact hK w1 (fun h _ _ => absurd h (by decide)) rfl
    refine And.intro ?_ ?_
    · refine Reg.ob_pure (fun _ => rfl) rfl rfl rfl rfl (fun x w1 hF => ?_)
      have hkI := hkI
      have _h := hF
      go_simp
      with_reducible rfl
    refine And.intro ?_ ?_
    · refine Reg.ob_pure (fun _ => rfl) rfl rfl rfl rfl (fun x w1 hF => ?_)
      have hkI := hkI
      have _h := hF
      go_simp
      with_reducible rfl
    refine And.intro ?_ ?_
    · refine Reg.ob_pure (fun _ => rfl) rfl rfl rfl rfl (fun x w1 hF => ?_)
      have hkI := hkI
      have _h := hF
      go_simp
      with_reducible rfl
    refine And.intro ?_ ?_
    · refine Reg.ob_known (fun _ => rfl) rfl rfl (fun x w1 hF hU K hK => ?_)
      refine wp_load_mid 58 _ rfl g7 (k * 4) ?_ (mbA xm).toList _ (hF rfl).r7 Try.underlying58 rfl Try.sizeMb ?_
      · go_simp
        try rfl
      · exact hK w1 (fun h _ _ => absurd h (by decide)) rfl
    refine And.intro ?_ ?_
    · refine Reg.ob_pure (fun _ => rfl) rfl rfl rfl rfl (fun x w1 hF => ?_)
      exact run_ne_mb _ _ _ xm rfl rfl rfl
    refine And.intro ?_ ?_
    · refine Reg.ob_pure (fun _ => rfl) rfl rfl rfl rfl (fun x w1 hF => ?_)
      have hkI := hkI
      have _h := hF
      go_simp
      with_reducible rfl
    refine And.intro ?_ ?_
    · refine Reg.ob_pure (fun _ => rfl) rfl rfl rfl rfl (fun x w1 hF => ?_)
      have hkI := hkI
      have _h := hF
      go_simp
      with_reducible rfl
    refine And.intro ?_ ?_
    · refine Reg.ob_pure (fun _ => rfl) rfl rfl rfl rfl (fun x w1 hF => ?_)
      have hkI := hkI
      have _h := hF
      go_simp
      with_reducible rfl
    refine And.intro ?_ ?_
    · refine Reg.ob_pure (fun _ => rfl) rfl rfl rfl rfl (fun x w1 hF => ?_)
      have hkI := hkI
      have _h := hF
      go_simp
      with_reducible rfl
    refine And.intro ?_ ?_
    · refine Reg.ob_pure (fun _ => rfl) rfl rfl rfl rfl (fun x w1 hF => ?_)
      have hkI := hkI
      have _h := hF
      go_simp
      with_reducible rfl
    refine And.intro ?_ ?_
    · refine Reg.ob_pure (fun _ => rfl) rfl rfl rfl rfl (fun x w1 hF => ?_)
      have hkI := hkI
      have _h := hF
      go_simp
      with_reducible rfl
    refine And.intro ?_ ?_
    · refine Reg.ob_pure (fun _ => rfl) rfl rfl rfl rfl (fun x w1 hF => ?_)
      have hkI := hkI
      have _h := hF
      go_simp
      with_reducible rfl
    refine And.intro ?_ ?_
    · refine Reg.ob_pure (fun _ => rfl) rfl rfl rfl rfl (fun x w1 hF => ?_)
      have hkI := hkI
      have _h := hF
      go_simp
      with_reducible rfl
    refine And.intro ?_ ?_
    · refine Reg.ob_pure (fun _ => rfl) rfl rfl rfl rfl (fun x w1 hF => ?_)
      have hkI := hkI
      have _h := hF
      go_simp
      with_reducible rfl
    refine And.intro ?_ ?_
    · refine Reg.ob_known (fun _ => rfl) rfl rfl (fun x w1 hF hU K hK => ?_)
      refine wp_load_mid 58 _ rfl i22 0 rfl (mbA xm).toList _ (World.rangeAt_of_block (hF rfl).ia 0 4) Try.underlying58 rfl Try.sizeMb ?_
      exact hK w1 (fun h _ _ => absurd h (by decide)) rfl
    refine And.intro ?_ ?_
    · refine Reg.ob_pure (fun _ => rfl) rfl rfl rfl rfl (fun x w1 hF => ?_)
      have hkI := hkI
      have _h := hF
      go_simp
      with_reducible rfl
    refine And.intro ?_ ?_
    · refine Reg.ob_pure (fun _ => rfl) rfl rfl rfl rfl (fun x w1 hF => ?_)
      have hkI := hkI
      have _h := hF
      go_simp
      with_reducible rfl
    refine And.intro ?_ ?_
    · refine Reg.ob_pure (fun _ => rfl) rfl rfl rfl rfl (fun x w1 hF => ?_)
      have hkI := hkI
      have _h := hF
      go_simp
      with_reducible rfl
    refine And.intro ?_ ?_
    · refine Reg.ob_known (fun _ => rfl) rfl rfl (fun x w1 hF hU K hK => ?_)
      refine wp_load_mid 58 _ rfl ga (k * 4) ?_ (mbA xm).toList _ (hF rfl).ra Try.underlying58 rfl Try.sizeMb ?_
      · go_simp
        try rfl
      · exact hK w1 (fun h _ _ => absurd h (by decide)) rfl
    refine And.intro ?_ ?_
    · refine Reg.ob_pure (fun _ => rfl) rfl rfl rfl rfl (fun x w1 hF => ?_)
      exact run_ne_mb _ _ _ xm rfl rfl rfl
    refine And.intro ?_ ?_
    · refine Reg.ob_pure (fun _ => rfl) rfl rfl rfl rfl (fun x w1 hF => ?_)
      have hkI := hkI
      have _h := hF
      go_simp
      with_reducible rfl
    refine And.intro ?_ ?_
    · refine Reg.ob_pure (fun _ => rfl) rfl rfl rfl rfl (fun x w1 hF => ?_)
      have hkI := hkI
      have _h := hF
      go_simp
      with_reducible rfl
    refine And.intro ?_ ?_
    · refine Reg.ob_known (fun _ => rfl) rfl rfl (fun x w1 hF hU K hK => ?_)
      refine wp_load_mid 58 _ rfl i25 0 rfl (mbA xm).toList _ (World.rangeAt_of_block (hF rfl).ib 0 4) Try.underlying58 rfl Try.sizeMb ?_
      exact hK w1 (fun h _ _ => absurd h (by decide)) rfl
    refine And.intro ?_ ?_
    · refine Reg.ob_pure (fun _ => rfl) rfl rfl rfl rfl (fun x w1 hF => ?_)
      have hkI := hkI
      have _h := hF
      go_simp
      with_reducible rfl
    refine And.intro ?_ ?_
    · refine Reg.ob_pure (fun _ => rfl) rfl rfl rfl rfl (fun x w1 hF => ?_)
      have hkI := hkI
      have _h := hF
      go_simp
      with_reducible rfl
    refine And.intro ?_ ?_
    · refine Reg.ob_pure (fun _ => rfl) rfl rfl rfl rfl (fun x w1 hF => ?_)
      have hkI := hkI
      have _h := hF
      go_simp
      with_reducible rfl
    refine And.intro ?_ ?_
    · refine Reg.ob_known (fun _ => rfl) rfl rfl (fun x w1 hF hU K hK => ?_)
      refine wp_load_mid 58 _ rfl ga (k * 4) ?_ (mbA xm).toList _ (hF rfl).ra Try.underlying58 rfl Try.sizeMb ?_
      · go_simp
        try rfl
      · exact hK w1 (fun h _ _ => absurd h (by decide)) rfl
    refine And.intro ?_ ?_
    · refine Reg.ob_pure (fun _ => rfl) rfl rfl rfl rfl (fun x w1 hF => ?_)
      exact run_ne_mb _ _ _ xm rfl rfl rfl
    refine And.intro ?_ ?_
    · refine Reg.ob_pure (fun _ => rfl) rfl rfl rfl rfl (fun x w1 hF => ?_)
      have hkI := hkI
      have _h := hF
      go_simp
      with_reducible rfl
    refine And.intro ?_ ?_
    · refine Reg.ob_pure (fun _ => rfl) rfl rfl rfl rfl (fun x w1 hF => ?_)
      have hkI := hkI
      have _h := hF
      go_simp
      with_reducible rfl
    refine And.intro ?_ ?_
    · refine Reg.ob_pure (fun _ => rfl) rfl rfl rfl rfl (fun x w1 hF => ?_)
      have hkI := hkI
      have _h := hF
      go_simp
      with_reducible rfl
    refine And.intro ?_ ?_
    · refine Reg.ob_pure (fun _ => rfl) rfl rfl rfl rfl (fun x w1 hF => ?_)
      have hkI := hkI
      have _h := hF
      go_simp
      with_reducible rfl
    refine And.intro ?_ ?_
    · refine Reg.ob_pure (fun _ => rfl) rfl rfl rfl rfl (fun x w1 hF => ?_)
      have hkI := hkI
      have _h := hF
      go_simp
      with_reducible rfl
    refine And.intro ?_ ?_
    · refine Reg.ob_pure (fun _ => rfl) rfl rfl rfl rfl (fun x w1 hF => ?_)
      have hkI := hkI
      have _h := hF
      go_simp
      with_reducible rfl
    refine And.intro ?_ ?_
    · refine Reg.ob_pure (fun _ => rfl) rfl rfl rfl rfl (fun x w1 hF => ?_)
      have hkI := hkI
      have _h := hF
      go_simp
      with_reducible rfl
    refine And.intro ?_ ?_
    · refine Reg.ob_pure (fun _ => rfl) rfl rfl rfl rfl (fun x w1 hF => ?_)
      have hkI := hkI
      have _h := hF
      go_simp
      with_reducible rfl
    exact trivial
  case hF =>
    exact hG.go ((Only.refl _ _).drewN 1)
  case hini =>
    exact trivial
  case pres =>
    intro i hi j hj
    simp at hi
  case fin =>
    rintro x w9 hF hU
    repeat apply Exists.intro
    exact ⟨rfl, rfl, (hF rfl).only⟩

set_option maxRecDepth 100000 in
set_option maxHeartbeats 4000000 in
theorem rq34 (xm : Mb) (ga g7 k L c7 ca i22 i25 : Nat) (w0 : World) (hkI : (k : Int) < (L : Int))  (u0 u1 u2 u3 u4 u5 u6 u8 u9 u10 u11 u12 u13 u14 u15 u16 u17 u18 u19 u28 u29 u30 u31 u32 u33 u34 u35 u36 u37 u38 u39 u40 u41 u42 u43 u44 u45 u46 u47 u48 u49 u50 u51 u52 u53 u54 u55 u56 u57 u58 u59 u60 u61 u62 u63 u64 u65 u66 u67 u68 u69 u70 u71 u72 u73 u74 u75 u76 u77 u78 u79 u80 u81 u82 u83 u84 u85 u86 u87 u88 u89 u90 u91 u92 u93 u94 u95 u96 u97 u98 u99 u100 u101 u102 u103 u104 u105 u106 u107 u108 u109 u110 u111 u112 u113 u114 u115 u116 u117 u118 u119 u120 u121 u122 u123 u124 u125 u126 u127 u128 u129 u130 u131 u132 u133 u134 u135 u136 u137 u138 u139 u140 u141 u142 u143 u144 u145 u146 u147 u148 u149 u150 u151 u152 u153 u154 u155 u156 u157 u158 u159 u160 u161 u162 u163 u164 u165 u166 u167 u168 u169 u170 u171 u172 u173 u174 u175 u176 u177 u178 u179 u180 u181 u182 u183 u184 u185 u186 u187 u188 u189 u190 u191 u192 u193 u194 u195 u196 u197 u198 u199 u200 u201 u202 u203 u204 u205 u206 u207 u208 u209 u210 u211 u212 u213 u214 u215 u216 u217 u218 u219 u220 u221 : Value) (Q : Exit → Act → World → Prop) (w : World) (hG : Fk xm ga g7 k i22 i25 w0 w)
    (hend : ∀ (y181 y182 y183 y184 y185 y186 y187 y188 y189 y190 y191 y192 y193 y194 y195 y196 y197 y198 y199 y200 y201 y202 y203 y204 y205 y206 y207 y208 y209 y210 y211 y212 y213 y214 y215 y216 y217 y218 y219 : Value) (w' : World), (Only (fun _ => False) w0 w') → Q .normal ⟨(List.toArray (u0 :: u1 :: u2 :: u3 :: u4 :: u5 :: u6 :: .slice (some ⟨g7, 0, none⟩) L c7 :: u8 :: u9 :: u10 :: u11 :: u12 :: u13 :: u14 :: u15 :: u16 :: u17 :: u18 :: u19 :: .slice (some ⟨ga, 0, none⟩) L ca :: .int .i64 (k : Int) :: .pointer (some ⟨i22, 0, none⟩) :: .bool true :: .bool true :: .pointer (some ⟨i25, 0, none⟩) :: .bool false :: .bool true :: u28 :: u29 :: u30 :: u31 :: u32 :: u33 :: u34 :: u35 :: u36 :: u37 :: u38 :: u39 :: u40 :: u41 :: u42 :: u43 :: u44 :: u45 :: u46 :: u47 :: u48 :: u49 :: u50 :: u51 :: u52 :: u53 :: u54 :: u55 :: u56 :: u57 :: u58 :: u59 :: u60 :: u61 :: u62 :: u63 :: u64 :: u65 :: u66 :: u67 :: u68 :: u69 :: u70 :: u71 :: u72 :: u73 :: u74 :: u75 :: u76 :: u77 :: u78 :: u79 :: u80 :: u81 :: u82 :: u83 :: u84 :: u85 :: u86 :: u87 :: u88 :: u89 :: u90 :: u91 :: u92 :: u93 :: u94 :: u95 :: u96 :: u97 :: u98 :: u99 :: u100 :: u101 :: u102 :: u103 :: u104 :: u105 :: u106 :: u107 :: u108 :: u109 :: u110 :: u111 :: u112 :: u113 :: u114 :: u115 :: u116 :: u117 :: u118 :: u119 :: u120 :: u121 :: u122 :: u123 :: u124 :: u125 :: u126 :: u127 :: u128 :: u129 :: u130 :: u131 :: u132 :: u133 :: u134 :: u135 :: u136 :: u137 :: u138 :: u139 :: u140 :: u141 :: u142 :: u143 :: u144 :: u145 :: u146 :: u147 :: u148 :: u149 :: u150 :: u151 :: u152 :: u153 :: u154 :: u155 :: u156 :: u157 :: u158 :: u159 :: u160 :: u161 :: u162 :: u163 :: u164 :: u165 :: u166 :: u167 :: u168 :: u169 :: u170 :: u171 :: u172 :: u173 :: u174 :: u175 :: u176 :: u177 :: u178 :: u179 :: u180 :: y181 :: y182 :: y183 :: y184 :: y185 :: y186 :: y187 :: y188 :: y189 :: y190 :: y191 :: y192 :: y193 :: y194 :: y195 :: y196 :: y197 :: y198 :: y199 :: y200 :: y201 :: y202 :: y203 :: y204 :: y205 :: y206 :: y207 :: y208 :: y209 :: y210 :: y211 :: y212 :: y213 :: y214 :: y215 :: y216 :: y217 :: y218 :: y219 :: .bool false :: u221 :: [])), []⟩ w') :
    Code.wp Try.prog rq34_code Q ⟨(List.toArray (u0 :: u1 :: u2 :: u3 :: u4 :: u5 :: u6 :: .slice (some ⟨g7, 0, none⟩) L c7 :: u8 :: u9 :: u10 :: u11 :: u12 :: u13 :: u14 :: u15 :: u16 :: u17 :: u18 :: u19 :: .slice (some ⟨ga, 0, none⟩) L ca :: .int .i64 (k : Int) :: .pointer (some ⟨i22, 0, none⟩) :: .bool true :: .bool true :: .pointer (some ⟨i25, 0, none⟩) :: .bool false :: .bool true :: u28 :: u29 :: u30 :: u31 :: u32 :: u33 :: u34 :: u35 :: u36 :: u37 :: u38 :: u39 :: u40 :: u41 :: u42 :: u43 :: u44 :: u45 :: u46 :: u47 :: u48 :: u49 :: u50 :: u51 :: u52 :: u53 :: u54 :: u55 :: u56 :: u57 :: u58 :: u59 :: u60 :: u61 :: u62 :: u63 :: u64 :: u65 :: u66 :: u67 :: u68 :: u69 :: u70 :: u71 :: u72 :: u73 :: u74 :: u75 :: u76 :: u77 :: u78 :: u79 :: u80 :: u81 :: u82 :: u83 :: u84 :: u85 :: u86 :: u87 :: u88 :: u89 :: u90 :: u91 :: u92 :: u93 :: u94 :: u95 :: u96 :: u97 :: u98 :: u99 :: u100 :: u101 :: u102 :: u103 :: u104 :: u105 :: u106 :: u107 :: u108 :: u109 :: u110 :: u111 :: u112 :: u113 :: u114 :: u115 :: u116 :: u117 :: u118 :: u119 :: u120 :: u121 :: u122 :: u123 :: u124 :: u125 :: u126 :: u127 :: u128 :: u129 :: u130 :: u131 :: u132 :: u133 :: u134 :: u135 :: u136 :: u137 :: u138 :: u139 :: u140 :: u141 :: u142 :: u143 :: u144 :: u145 :: u146 :: u147 :: u148 :: u149 :: u150 :: u151 :: u152 :: u153 :: u154 :: u155 :: u156 :: u157 :: u158 :: u159 :: u160 :: u161 :: u162 :: u163 :: u164 :: u165 :: u166 :: u167 :: u168 :: u169 :: u170 :: u171 :: u172 :: u173 :: u174 :: u175 :: u176 :: u177 :: u178 :: u179 :: u180 :: u181 :: u182 :: u183 :: u184 :: u185 :: u186 :: u187 :: u188 :: u189 :: u190 :: u191 :: u192 :: u193 :: u194 :: u195 :: u196 :: u197 :: u198 :: u199 :: u200 :: u201 :: u202 :: u203 :: u204 :: u205 :: u206 :: u207 :: u208 :: u209 :: u210 :: u211 :: u212 :: u213 :: u214 :: u215 :: u216 :: u217 :: u218 :: u219 :: u220 :: u221 :: [])), []⟩ w := by
  refine wp_mono (rq34_in xm ga g7 k L c7 ca i22 i25 w0 hkI _ _ _ _ _ _ _ _ _ _ _ _ _ _ _ _ _ _ _ _ _ _ _ _ _ _ _ _ _ _ _ _ _ _ _ _ _ _ _ _ _ _ _ _ _ _ _ _ _ _ _ _ _ _ _ _ _ _ _ _ _ _ _ _ _ _ _ _ _ _ _ _ _ _ _ _ _ _ _ _ _ _ _ _ _ _ _ _ _ _ _ _ _ _ _ _ _ _ _ _ _ _ _ _ _ _ _ _ _ _ _ _ _ _ _ _ _ _ _ _ _ _ _ _ _ _ _ _ _ _ _ _ _ _ _ _ _ _ _ _ _ _ _ _ _ _ _ _ _ _ _ _ _ _ _ _ _ _ _ _ _ _ _ _ _ _ _ _ _ _ _ _ _ _ _ _ _ _ _ _ _ _ _ _ _ _ _ _ _ _ _ _ _ _ _ _ _ _ _ _ _ _ _ _ _ _ _ _ _ _ _ _ _ w hG) ?_
  rintro e a w' h
  obtain ⟨y181, h⟩ := h
  obtain ⟨y182, h⟩ := h
  obtain ⟨y183, h⟩ := h
  obtain ⟨y184, h⟩ := h
  obtain ⟨y185, h⟩ := h
  obtain ⟨y186, h⟩ := h
  obtain ⟨y187, h⟩ := h
  obtain ⟨y188, h⟩ := h
  obtain ⟨y189, h⟩ := h
  obtain ⟨y190, h⟩ := h
  obtain ⟨y191, h⟩ := h
  obtain ⟨y192, h⟩ := h
  obtain ⟨y193, h⟩ := h
  obtain ⟨y194, h⟩ := h
  obtain ⟨y195, h⟩ := h
  obtain ⟨y196, h⟩ := h
  obtain ⟨y197, h⟩ := h
  obtain ⟨y198, h⟩ := h
  obtain ⟨y199, h⟩ := h
  obtain ⟨y200, h⟩ := h
  obtain ⟨y201, h⟩ := h
  obtain ⟨y202, h⟩ := h
  obtain ⟨y203, h⟩ := h
  obtain ⟨y204, h⟩ := h
  obtain ⟨y205, h⟩ := h
  obtain ⟨y206, h⟩ := h
  obtain ⟨y207, h⟩ := h
  obtain ⟨y208, h⟩ := h
  obtain ⟨y209, h⟩ := h
  obtain ⟨y210, h⟩ := h
  obtain ⟨y211, h⟩ := h
  obtain ⟨y212, h⟩ := h
  obtain ⟨y213, h⟩ := h
  obtain ⟨y214, h⟩ := h
  obtain ⟨y215, h⟩ := h
  obtain ⟨y216, h⟩ := h
  obtain ⟨y217, h⟩ := h
  obtain ⟨y218, h⟩ := h
  obtain ⟨y219, h⟩ := h
  obtain ⟨h, rfl, hq⟩ := h
  subst h
  exact hend y181 y182 y183 y184 y185 y186 y187 y188 y189 y190 y191 y192 y193 y194 y195 y196 y197 y198 y199 y200 y201 y202 y203 y204 y205 y206 y207 y208 y209 y210 y211 y212 y213 y214 y215 y216 y217 y218 y219 w' hq
noncomputable def pzE_a : Code := match Try.f6.body.bind (codeIf 26) with | some (.seq a _) => a | _ => .skip
noncomputable def pzE_b : Code := match Try.f6.body.bind (codeIf 26) with | some (.seq _ b) => b | _ => .skip
set_option maxRecDepth 100000 in
set_option maxHeartbeats 8000000 in
theorem pzE (b mb n B7 : Nat) (r : Ro) (S : Nat → Prop) (v7 : Value) (w0 : World) (hm : r.most = n)  (u1 u2 u3 u4 u6 u8 u9 u10 u11 u12 u13 u14 u15 u16 u17 u18 u19 u20 u21 u22 u23 u24 u25 u26 u27 u28 u29 u30 u31 u32 u33 u34 u35 u36 u37 u38 u39 u40 u41 u42 u43 u44 u45 u46 u47 u48 u49 u50 u51 u52 u53 u54 u55 u56 u57 u58 u59 u60 u61 u62 u63 u64 u65 u66 u67 u68 u69 u70 u71 u72 u73 u74 u75 u76 u77 u78 u79 u80 u81 u82 u83 u84 u85 u86 u87 u88 u89 u90 u91 u92 u93 u94 u95 u96 u97 u98 u99 u100 u101 u102 u103 u104 u105 u106 u107 u108 u109 u110 u111 u112 u113 u114 u115 u116 u117 u118 u119 u120 u121 u122 u123 u124 u125 u126 u127 u128 u129 u130 u131 u132 u133 u134 u135 u136 u137 u138 u139 u140 u141 u142 u143 u144 u145 u146 u147 u148 u149 u150 u151 u152 u153 u154 u155 u156 u157 u158 u159 u160 u161 u162 u163 u164 u165 u166 u167 u168 u169 u170 u171 u172 u173 u174 u175 u176 u177 u178 u179 u180 u181 u182 u183 u184 u185 u186 u187 u188 u189 u190 u191 u192 u193 u194 u195 u196 u197 u198 u199 u200 u201 u202 u203 u204 u205 u206 u207 u208 u209 u210 u211 u212 u213 u214 u215 u216 u217 u218 u219 u220 u221 : Value) (Q : Exit → Act → World → Prop) (K9 : Act → World → Prop) (w : World) (hf : Rs w0 b mb r S w) (ho : OwnS w B7 58 4 v7 (mbRows r.l)) (hK9 : ∀ a w, Code.wp Try.prog pzE_b Q a w → K9 a w)
    (hend : ∀ (y4 y20 y21 y22 y23 y24 y25 y26 y27 y140 y141 y142 y143 y144 y145 y146 y147 y148 y149 y150 y151 y152 y153 y154 y155 y156 y157 y158 y159 y160 y161 y162 y163 y164 y165 y166 y167 y168 y169 y170 y171 y172 y173 y174 y175 y176 y177 y178 y179 y180 y181 y182 y183 y184 y185 y186 y187 y188 y189 y190 y191 y192 y193 y194 y195 y196 y197 y198 y199 y200 y201 y202 y203 y204 y205 y206 y207 y208 y209 y210 y211 y212 y213 y214 y215 y216 y217 y218 y219 y220 : Value) (w' : World), (Only (fun _ => False) w w') → Q .normal ⟨(List.toArray (.int .i64 (n : Int) :: u1 :: u2 :: u3 :: y4 :: .pointer (some ⟨b, 0, none⟩) :: u6 :: v7 :: u8 :: u9 :: u10 :: u11 :: u12 :: u13 :: u14 :: u15 :: u16 :: u17 :: u18 :: u19 :: y20 :: y21 :: y22 :: y23 :: y24 :: y25 :: y26 :: y27 :: u28 :: u29 :: u30 :: u31 :: u32 :: u33 :: u34 :: u35 :: u36 :: u37 :: u38 :: u39 :: u40 :: u41 :: u42 :: u43 :: u44 :: u45 :: u46 :: u47 :: u48 :: u49 :: u50 :: u51 :: u52 :: u53 :: u54 :: u55 :: u56 :: u57 :: u58 :: u59 :: u60 :: u61 :: u62 :: u63 :: u64 :: u65 :: u66 :: u67 :: u68 :: u69 :: u70 :: u71 :: u72 :: u73 :: u74 :: u75 :: u76 :: u77 :: u78 :: u79 :: u80 :: u81 :: u82 :: u83 :: u84 :: u85 :: u86 :: u87 :: u88 :: u89 :: u90 :: u91 :: u92 :: u93 :: u94 :: u95 :: u96 :: u97 :: u98 :: u99 :: u100 :: u101 :: u102 :: u103 :: u104 :: u105 :: u106 :: u107 :: u108 :: u109 :: u110 :: u111 :: u112 :: u113 :: u114 :: u115 :: u116 :: u117 :: u118 :: u119 :: u120 :: u121 :: u122 :: u123 :: u124 :: u125 :: u126 :: u127 :: u128 :: u129 :: u130 :: u131 :: u132 :: u133 :: u134 :: u135 :: u136 :: u137 :: u138 :: u139 :: y140 :: y141 :: y142 :: y143 :: y144 :: y145 :: y146 :: y147 :: y148 :: y149 :: y150 :: y151 :: y152 :: y153 :: y154 :: y155 :: y156 :: y157 :: y158 :: y159 :: y160 :: y161 :: y162 :: y163 :: y164 :: y165 :: y166 :: y167 :: y168 :: y169 :: y170 :: y171 :: y172 :: y173 :: y174 :: y175 :: y176 :: y177 :: y178 :: y179 :: y180 :: y181 :: y182 :: y183 :: y184 :: y185 :: y186 :: y187 :: y188 :: y189 :: y190 :: y191 :: y192 :: y193 :: y194 :: y195 :: y196 :: y197 :: y198 :: y199 :: y200 :: y201 :: y202 :: y203 :: y204 :: y205 :: y206 :: y207 :: y208 :: y209 :: y210 :: y211 :: y212 :: y213 :: y214 :: y215 :: y216 :: y217 :: y218 :: y219 :: y220 :: u221 :: [])), []⟩ w') :
    Code.wp Try.prog pzE_a (Exit.then K9 Q) ⟨(List.toArray (.int .i64 (n : Int) :: u1 :: u2 :: u3 :: u4 :: .pointer (some ⟨b, 0, none⟩) :: u6 :: v7 :: u8 :: u9 :: u10 :: u11 :: u12 :: u13 :: u14 :: u15 :: u16 :: u17 :: u18 :: u19 :: u20 :: u21 :: u22 :: u23 :: u24 :: u25 :: u26 :: u27 :: u28 :: u29 :: u30 :: u31 :: u32 :: u33 :: u34 :: u35 :: u36 :: u37 :: u38 :: u39 :: u40 :: u41 :: u42 :: u43 :: u44 :: u45 :: u46 :: u47 :: u48 :: u49 :: u50 :: u51 :: u52 :: u53 :: u54 :: u55 :: u56 :: u57 :: u58 :: u59 :: u60 :: u61 :: u62 :: u63 :: u64 :: u65 :: u66 :: u67 :: u68 :: u69 :: u70 :: u71 :: u72 :: u73 :: u74 :: u75 :: u76 :: u77 :: u78 :: u79 :: u80 :: u81 :: u82 :: u83 :: u84 :: u85 :: u86 :: u87 :: u88 :: u89 :: u90 :: u91 :: u92 :: u93 :: u94 :: u95 :: u96 :: u97 :: u98 :: u99 :: u100 :: u101 :: u102 :: u103 :: u104 :: u105 :: u106 :: u107 :: u108 :: u109 :: u110 :: u111 :: u112 :: u113 :: u114 :: u115 :: u116 :: u117 :: u118 :: u119 :: u120 :: u121 :: u122 :: u123 :: u124 :: u125 :: u126 :: u127 :: u128 :: u129 :: u130 :: u131 :: u132 :: u133 :: u134 :: u135 :: u136 :: u137 :: u138 :: u139 :: u140 :: u141 :: u142 :: u143 :: u144 :: u145 :: u146 :: u147 :: u148 :: u149 :: u150 :: u151 :: u152 :: u153 :: u154 :: u155 :: u156 :: u157 :: u158 :: u159 :: u160 :: u161 :: u162 :: u163 :: u164 :: u165 :: u166 :: u167 :: u168 :: u169 :: u170 :: u171 :: u172 :: u173 :: u174 :: u175 :: u176 :: u177 :: u178 :: u179 :: u180 :: u181 :: u182 :: u183 :: u184 :: u185 :: u186 :: u187 :: u188 :: u189 :: u190 :: u191 :: u192 :: u193 :: u194 :: u195 :: u196 :: u197 :: u198 :: u199 :: u200 :: u201 :: u202 :: u203 :: u204 :: u205 :: u206 :: u207 :: u208 :: u209 :: u210 :: u211 :: u212 :: u213 :: u214 :: u215 :: u216 :: u217 :: u218 :: u219 :: u220 :: u221 :: [])), []⟩ w := by
  conv => arg 2; whnf
  conv at hK9 => intro a w; arg 1; arg 2; whnf
  have HEND := Lib.hid hend
  have HF := Lib.hid hf
  have HO := Lib.hid ho
  obtain ⟨A7, c7, rfl, -⟩ := ho.slice
  obtain ⟨L, hL⟩ : ∃ L, r.l.length = L := ⟨_, rfl⟩
  have HL := Lib.hid hL
  rw [mbRows_length, hL] at HO HEND ⊢
  have hLn : ¬ n < L := by have := hf.1.few; omega
  have hLs : L ≤ 1000 := by rw [← hL]; exact hf.small
  clear hend hf ho hL hm
  go_wp2_with fail
  refine (rs_all HF.out).mono ?_
  rintro e w1 ⟨va, rfl, ha, ho1⟩
  have HA := Lib.hid ha
  have O1 := Lib.hid ho1
  clear ha ho1
  obtain ⟨Aa, ca, rfl, -⟩ := HA.out.slice
  rw [mbRows_length, HL.out] at HA ⊢
  go_wp2
  go_loopw [21] (fun s21 wr => ∃ k : Nat, k ≤ L ∧ s21 = .int .i64 (k : Int) ∧ Hid (Only (fun _ => False) w wr ∧ OwnS wr w.heap.size 58 4 (.slice Aa L ca) (mbRows r.l))) (fun s21 _ => L - (intOf s21).toNat)
  case atStart => exact ⟨0, by omega, rfl, Lib.hid ⟨O1.out, HA.out⟩⟩
  case round =>
    obtain ⟨k, hk, rfl, HR⟩ := hrel
    by_cases hkl : k < L
    · have hkI : (k : Int) < (L : Int) := by omega
      have hkx : k < r.l.length := by rw [HL.out]; exact hkl
      have hx : r.l[k]? = some r.l[k] := List.getElem?_eq_getElem hkx
      have hmem := List.getElem_mem hkx
      have hS1 := own_of HF.out.1 hmem (s := r.l[k].co) (.inl rfl)
      have hS2 := own_of HF.out.1 hmem (s := r.l[k].ca) (.inr rfl)
      have hft := HF.out.1.fits _ hmem
      have hrt := right_ne (HF.out.1.right _ hmem)
      have h7 := HO.out.only HR.out.1 (by simp)
      obtain ⟨ga, c', e1, -⟩ := HR.out.2.place (by rw [mbRows_length]; omega)
      obtain ⟨hA1, -, -⟩ := Value.slice.inj e1
      obtain ⟨g7, c'', e2, -⟩ := h7.place (by rw [mbRows_length]; omega)
      obtain ⟨hA2, -, -⟩ := Value.slice.inj e2
      subst hA1 hA2
      clear e1 e2
      have q1 := HR.out.2.range (g := ga) rfl (mbRows_get hx)
      have q2 := h7.range (g := g7) rfl (mbRows_get hx)
      have Q1 := Lib.hid (And.intro q1 (HR.out.2.lt ga rfl).2)
      have Q2 := Lib.hid (And.intro q2 (h7.lt g7 rfl).2)
      have HS1 := Lib.hid (fun (wx : World) (h : Only (fun _ => False) w wx) => hS1 ▸ rs_source (s := r.l[k].co) (HF.out.go h) hft.co)
      have HS2 := Lib.hid (fun (wx : World) (h : Only (fun _ => False) w wx) => hS2 ▸ rs_source (s := r.l[k].ca) (HF.out.go h) hft.ca)
      generalize r.l[k] = x at *
      have d1 := srcV_co x
      have d2 := srcV_ca hrt.1
      have HS1' := Lib.hid (fun (wx : World) (h : Only (fun _ => False) w wx) => (show Calls Try.prog 28 #[ptr b, .int .u32 (x.co : Int)] wx (SaysR (.tuple #[mbV x, .bool true, .bool true]) wx) from d1 ▸ HS1.out wx h))
      have HS2' := Lib.hid (fun (wx : World) (h : Only (fun _ => False) w wx) => (show Calls Try.prog 28 #[ptr b, .int .u32 (x.ca : Int)] wx (SaysR (.tuple #[mbV x, .bool false, .bool true]) wx) from d2 ▸ HS2.out wx h))
      have r1 : wr.cell? ⟨ga, k * 4 + 1, none⟩ = some (.int .u32 (x.co : Int)) := range_cell (j := 1) q1 rfl
      clear hkx hx hmem hS1 hS2 hft hrt h7 q1 q2 HS1 HS2 d1 d2
      go_wp2_with fail
      refine (HS1'.out wr HR.out.1).mono ?_
      rintro e w2 ⟨rfl, ho2⟩
      have O2 := Lib.hid (HR.out.1.trans ho2 (fun _ _ e => e))
      have W2 := Lib.hid ho2
      clear ho2 r1
      go_upto_region 33 with (fail)
      have hal := (Only.refl (fun _ => False) w2).alloc (.cells #[.int .i64 x.id, .int .u32 (x.co : Int), .int .u32 (x.ca : Int), .bool x.mo] 58)
      have I22 := Lib.hid (show Is _ w2.heap.size 58 (mbA x) from Is.made w2 58 #[.int .i64 x.id, .int .u32 (x.co : Int), .int .u32 (x.ca : Int), .bool x.mo])
      have O3 := Lib.hid (O2.out.trans hal (fun _ _ e => e))
      have W3 := Lib.hid (W2.out.trans hal (fun _ _ e => e))
      generalize w2.alloc (.cells #[.int .i64 x.id, .int .u32 (x.co : Int), .int .u32 (x.ca : Int), .bool x.mo] 58) = w3 at *
      generalize w2.heap.size = i22 at *
      clear hal O2 W2
      have r2 : w3.cell? ⟨ga, k * 4 + 2, none⟩ = some (.int .u32 (x.ca : Int)) := range_cell (j := 2) (range_only Q1.out.1 Q1.out.2 W3.out (by simp)) rfl
      go_wp2_with fail
      refine (HS2'.out w3 O3.out).mono ?_
      rintro e w4 ⟨rfl, ho4⟩
      have O4 := Lib.hid (O3.out.trans ho4 (fun _ _ e => e))
      have W4 := Lib.hid (W3.out.trans ho4 (fun _ _ e => e))
      replace I22 := Lib.hid (I22.out.only ho4 (by simp))
      clear ho4 r2 O3 W3
      go_upto_region 34 with (fail)
      have hal := (Only.refl (fun _ => False) w4).alloc (.cells #[.int .i64 x.id, .int .u32 (x.co : Int), .int .u32 (x.ca : Int), .bool x.mo] 58)
      have I25 := Lib.hid (show Is _ w4.heap.size 58 (mbA x) from Is.made w4 58 #[.int .i64 x.id, .int .u32 (x.co : Int), .int .u32 (x.ca : Int), .bool x.mo])
      have O5 := Lib.hid (O4.out.trans hal (fun _ _ e => e))
      have W5 := Lib.hid (W4.out.trans hal (fun _ _ e => e))
      replace I22 := Lib.hid (I22.out.only hal (by simp))
      generalize w4.alloc (.cells #[.int .i64 x.id, .int .u32 (x.co : Int), .int .u32 (x.ca : Int), .bool x.mo] 58) = w5 at *
      generalize w4.heap.size = i25 at *
      clear hal O4 W4
      refine rq34 x ga g7 k L c7 ca i22 i25 w5 hkI _ _ _ _ _ _ _ _ _ _ _ _ _ _ _ _ _ _ _ _ _ _ _ _ _ _ _ _ _ _ _ _ _ _ _ _ _ _ _ _ _ _ _ _ _ _ _ _ _ _ _ _ _ _ _ _ _ _ _ _ _ _ _ _ _ _ _ _ _ _ _ _ _ _ _ _ _ _ _ _ _ _ _ _ _ _ _ _ _ _ _ _ _ _ _ _ _ _ _ _ _ _ _ _ _ _ _ _ _ _ _ _ _ _ _ _ _ _ _ _ _ _ _ _ _ _ _ _ _ _ _ _ _ _ _ _ _ _ _ _ _ _ _ _ _ _ _ _ _ _ _ _ _ _ _ _ _ _ _ _ _ _ _ _ _ _ _ _ _ _ _ _ _ _ _ _ _ _ _ _ _ _ _ _ _ _ _ _ _ _ _ _ _ _ _ _ _ _ _ _ _ _ _ _ _ _ _ _ _ _ _ _ _ _ w5 ⟨range_only Q1.out.1 Q1.out.2 W5.out (by simp), range_only Q2.out.1 Q2.out.2 W5.out (by simp), I22.out, I25.out, Nat.lt_of_lt_of_le Q1.out.2 W5.out.size, Nat.lt_of_lt_of_le Q2.out.2 W5.out.size, Only.refl _ _⟩ ?_
      rintro q181 q182 q183 q184 q185 q186 q187 q188 q189 q190 q191 q192 q193 q194 q195 q196 q197 q198 q199 q200 q201 q202 q203 q204 q205 q206 q207 q208 q209 q210 q211 q212 q213 q214 q215 q216 q217 q218 q219 w6 ho6
      have O6 := Lib.hid (O5.out.trans ho6 (fun _ _ e => e))
      have W6 := Lib.hid (W5.out.trans ho6 (fun _ _ e => e))
      clear ho6 I22 I25 O5 W5
      go_wp2
      exact ⟨⟨k + 1, by omega, by go_num, Lib.hid ⟨O6.out, HR.out.2.only W6.out (by simp)⟩⟩, by simp [intOf]; omega⟩
    · obtain rfl : k = L := by omega
      go_wp2
      exact HEND.out _ _ _ _ _ _ _ _ _ _ _ _ _ _ _ _ _ _ _ _ _ _ _ _ _ _ _ _ _ _ _ _ _ _ _ _ _ _ _ _ _ _ _ _ _ _ _ _ _ _ _ _ _ _ _ _ _ _ _ _ _ _ _ _ _ _ _ _ _ _ _ _ _ _ _ _ _ _ _ _ _ _ _ _ _ _ _ _ _ _ _ HR.out.1

end Go.Proofs.Ytglgmhdajmncjaa
