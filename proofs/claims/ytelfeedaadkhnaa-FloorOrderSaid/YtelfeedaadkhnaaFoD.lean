/- floor: the regions of FloorOrder that draw their order. Conditions: as each says. -/
import Derived.Test.YtelfeedaadkhnaaFoC
set_option linter.unusedVariables false
set_option linter.unusedSimpArgs false
namespace Go.Proofs.Ytelfeedaadkhnaa
open Go Go.RowKit

theorem okb {r : Result Bool} {v : Bool} {w : World} (h : (r.andThen fun b w' => .ok (Value.bool b) w') = .ok (.bool v) w) : r = .ok v w := by
  cases r <;> simp_all [Result.andThen]
theorem eq_gr (a b c : Nat) (w : World) : (binOp .eql 48 (gV a b c) (gV a b c)).run Try.prog w = .ok (.bool true) w := by
  rw [run_eql_struct, run_equalIn_agg w 9999 _ _ _ (by kernel_rfl) (by kernel_rfl)]
  simp only [Program.fieldsOf, Try.underlying48]
  simp [Op.eqFields, go_sem]
theorem run_ne_gr {o : Oper} {ρ : Operand → Value} (w : World) (x y : Operand) (a b c : Nat)
    (ho : o.op = .binOp .neq 48 x y 48) (hx : ρ x = gV a b c) (hy : ρ y = gV a b c) :
    (execOp ρ o).run Try.prog w = .ok (.value (.bool false)) w := by
  have h := eq_gr a b c w
  rw [run_eql_struct] at h
  have hn : (binOp .neq 48 (gV a b c) (gV a b c)).run Try.prog w = .ok (.bool false) w := by
    rw [run_neq_struct, okb h]
    rfl
  unfold execOp
  simp only [ho, hx, hy, Sem.run_bind, Sem.run_pure, Result.andThen_ok, run_eqGuard_agg (P := Try.prog) w .neq 48 x y _ _ (by kernel_rfl), hn]
/-- What is read at a round's end. -/
structure Fo (B : Nat) (vm vw va vl : Value) (ys wt ask : List Nat) (gs : List (Nat × Nat × Nat)) (rb no who at_ : Nat) (w0 wx : World) : Prop where
  m : Rd .u32 wx vm (nats ys)
  w : Rd .u32 wx vw (nats wt)
  a : Rd .u32 wx va (nats ask)
  r : Is wx rb 48 #[.int .u64 (no : Int), .int .u32 (who : Int), .int .u64 (at_ : Int)]
  g : OwnS wx B 48 3 vl (grRows gs)
  pure : Only (fun _ => False) w0 wx
theorem Fo.go {B : Nat} {vm vw va vl : Value} {ys wt ask : List Nat} {gs : List (Nat × Nat × Nat)} {rb no who at_ : Nat} {w0 wx wy : World} (h : Fo B vm vw va vl ys wt ask gs rb no who at_ w0 wx) (ho : Only (fun _ => False) wx wy) : Fo B vm vw va vl ys wt ask gs rb no who at_ w0 wy :=
  ⟨h.m.only ho (by simp), h.w.only ho (by simp), h.a.only ho (by simp), h.r.only ho (by simp), h.g.only ho (by simp), h.pure.trans ho (fun _ _ e => e)⟩
def fo35t_A : List (List Nat) := ([] :: [0] :: [1, 0] :: [1, 0] :: [3, 1, 0] :: [2, 4, 1, 0, 3] :: [5, 1, 2, 4, 0, 3] :: [6, 5, 1, 2, 4, 0, 3] :: (7 :: 6 :: 5 :: 1 :: 2 :: 4 :: 0 :: 3 :: []) :: (7 :: 6 :: 5 :: 1 :: 2 :: 4 :: 0 :: 3 :: []) :: (9 :: 7 :: 6 :: 5 :: 1 :: 2 :: 4 :: 0 :: 3 :: []) :: (8 :: 10 :: 7 :: 6 :: 5 :: 1 :: 2 :: 4 :: 0 :: 3 :: 9 :: []) :: (7 :: 11 :: 1 :: 6 :: 5 :: 2 :: 4 :: 0 :: 3 :: 8 :: 10 :: 9 :: []) :: (12 :: 11 :: 1 :: 7 :: 6 :: 5 :: 2 :: 4 :: 0 :: 3 :: 8 :: 10 :: 9 :: []) :: (13 :: 12 :: 11 :: 1 :: 7 :: 6 :: 5 :: 2 :: 4 :: 0 :: 3 :: 8 :: 10 :: 9 :: []) :: (14 :: 13 :: 12 :: 11 :: 1 :: 7 :: 6 :: 5 :: 2 :: 4 :: 0 :: 3 :: 8 :: 10 :: 9 :: []) :: (13 :: 15 :: 1 :: 12 :: 11 :: 7 :: 6 :: 5 :: 2 :: 4 :: 0 :: 3 :: 8 :: 10 :: 9 :: 14 :: []) :: (16 :: 13 :: 1 :: 15 :: 12 :: 11 :: 7 :: 6 :: 5 :: 2 :: 4 :: 0 :: 3 :: 8 :: 10 :: 9 :: 14 :: []) :: (17 :: 16 :: 13 :: 1 :: 15 :: 12 :: 11 :: 7 :: 6 :: 5 :: 2 :: 4 :: 0 :: 3 :: 8 :: 10 :: 9 :: 14 :: []) :: (17 :: 16 :: 13 :: 1 :: 15 :: 12 :: 11 :: 7 :: 6 :: 5 :: 2 :: 4 :: 0 :: 3 :: 8 :: 10 :: 9 :: 14 :: []) :: (19 :: 17 :: 16 :: 13 :: 1 :: 15 :: 12 :: 11 :: 7 :: 6 :: 5 :: 2 :: 4 :: 0 :: 3 :: 8 :: 10 :: 9 :: 14 :: []) :: (18 :: 20 :: 17 :: 16 :: 13 :: 1 :: 15 :: 12 :: 11 :: 7 :: 6 :: 5 :: 2 :: 4 :: 0 :: 3 :: 8 :: 10 :: 9 :: 14 :: 19 :: []) :: (21 :: 17 :: 18 :: 20 :: 16 :: 13 :: 1 :: 15 :: 12 :: 11 :: 7 :: 6 :: 5 :: 2 :: 4 :: 0 :: 3 :: 8 :: 10 :: 9 :: 14 :: 19 :: []) :: (17 :: 16 :: 13 :: 1 :: 15 :: 12 :: 11 :: 7 :: 6 :: 5 :: 2 :: 4 :: 0 :: 3 :: 8 :: 10 :: 9 :: 14 :: []) :: (22 :: 23 :: 17 :: 21 :: 18 :: 20 :: 16 :: 13 :: 1 :: 15 :: 12 :: 11 :: 7 :: 6 :: 5 :: 2 :: 4 :: 0 :: 3 :: 8 :: 10 :: 9 :: 14 :: 19 :: []) :: (17 :: 24 :: 1 :: 16 :: 13 :: 15 :: 12 :: 11 :: 7 :: 6 :: 5 :: 2 :: 4 :: 0 :: 3 :: 8 :: 10 :: 9 :: 14 :: 22 :: 23 :: 21 :: 18 :: 20 :: 19 :: []) :: (1 :: 25 :: 0 :: 17 :: 24 :: 16 :: 13 :: 15 :: 12 :: 11 :: 7 :: 6 :: 5 :: 2 :: 4 :: 3 :: 8 :: 10 :: 9 :: 14 :: 22 :: 23 :: 21 :: 18 :: 20 :: 19 :: []) :: (26 :: 17 :: 1 :: 25 :: 0 :: 24 :: 16 :: 13 :: 15 :: 12 :: 11 :: 7 :: 6 :: 5 :: 2 :: 4 :: 3 :: 8 :: 10 :: 9 :: 14 :: 22 :: 23 :: 21 :: 18 :: 20 :: 19 :: []) :: (27 :: 26 :: 17 :: 1 :: 25 :: 0 :: 24 :: 16 :: 13 :: 15 :: 12 :: 11 :: 7 :: 6 :: 5 :: 2 :: 4 :: 3 :: 8 :: 10 :: 9 :: 14 :: 22 :: 23 :: 21 :: 18 :: 20 :: 19 :: []) :: (28 :: 27 :: 26 :: 17 :: 1 :: 25 :: 0 :: 24 :: 16 :: 13 :: 15 :: 12 :: 11 :: 7 :: 6 :: 5 :: 2 :: 4 :: 3 :: 8 :: 10 :: 9 :: 14 :: 22 :: 23 :: 21 :: 18 :: 20 :: 19 :: []) :: (29 :: 27 :: 28 :: 26 :: 17 :: 1 :: 25 :: 0 :: 24 :: 16 :: 13 :: 15 :: 12 :: 11 :: 7 :: 6 :: 5 :: 2 :: 4 :: 3 :: 8 :: 10 :: 9 :: 14 :: 22 :: 23 :: 21 :: 18 :: 20 :: 19 :: []) :: (30 :: 29 :: 27 :: 28 :: 26 :: 17 :: 1 :: 25 :: 0 :: 24 :: 16 :: 13 :: 15 :: 12 :: 11 :: 7 :: 6 :: 5 :: 2 :: 4 :: 3 :: 8 :: 10 :: 9 :: 14 :: 22 :: 23 :: 21 :: 18 :: 20 :: 19 :: []) :: (31 :: 30 :: 29 :: 27 :: 28 :: 26 :: 17 :: 1 :: 25 :: 0 :: 24 :: 16 :: 13 :: 15 :: 12 :: 11 :: 7 :: 6 :: 5 :: 2 :: 4 :: 3 :: 8 :: 10 :: 9 :: 14 :: 22 :: 23 :: 21 :: 18 :: 20 :: 19 :: []) :: (32 :: 30 :: 31 :: 29 :: 27 :: 28 :: 26 :: 17 :: 1 :: 25 :: 0 :: 24 :: 16 :: 13 :: 15 :: 12 :: 11 :: 7 :: 6 :: 5 :: 2 :: 4 :: 3 :: 8 :: 10 :: 9 :: 14 :: 22 :: 23 :: 21 :: 18 :: 20 :: 19 :: []) :: (30 :: 33 :: 27 :: 29 :: 28 :: 26 :: 17 :: 1 :: 25 :: 0 :: 24 :: 16 :: 13 :: 15 :: 12 :: 11 :: 7 :: 6 :: 5 :: 2 :: 4 :: 3 :: 8 :: 10 :: 9 :: 14 :: 22 :: 23 :: 21 :: 18 :: 20 :: 19 :: 32 :: 31 :: []) :: (27 :: 34 :: 26 :: 17 :: 1 :: 25 :: 0 :: 24 :: 16 :: 13 :: 15 :: 12 :: 11 :: 7 :: 6 :: 5 :: 2 :: 4 :: 3 :: 8 :: 10 :: 9 :: 14 :: 22 :: 23 :: 21 :: 18 :: 20 :: 19 :: 30 :: 33 :: 29 :: 28 :: 32 :: 31 :: []) :: (35 :: 30 :: 27 :: 34 :: 26 :: 17 :: 1 :: 25 :: 0 :: 24 :: 16 :: 13 :: 15 :: 12 :: 11 :: 7 :: 6 :: 5 :: 2 :: 4 :: 3 :: 8 :: 10 :: 9 :: 14 :: 22 :: 23 :: 21 :: 18 :: 20 :: 19 :: 33 :: 29 :: 28 :: 32 :: 31 :: []) :: (36 :: 35 :: 30 :: 27 :: 34 :: 26 :: 17 :: 1 :: 25 :: 0 :: 24 :: 16 :: 13 :: 15 :: 12 :: 11 :: 7 :: 6 :: 5 :: 2 :: 4 :: 3 :: 8 :: 10 :: 9 :: 14 :: 22 :: 23 :: 21 :: 18 :: 20 :: 19 :: 33 :: 29 :: 28 :: 32 :: 31 :: []) :: (37 :: 36 :: 35 :: 30 :: 27 :: 34 :: 26 :: 17 :: 1 :: 25 :: 0 :: 24 :: 16 :: 13 :: 15 :: 12 :: 11 :: 7 :: 6 :: 5 :: 2 :: 4 :: 3 :: 8 :: 10 :: 9 :: 14 :: 22 :: 23 :: 21 :: 18 :: 20 :: 19 :: 33 :: 29 :: 28 :: 32 :: 31 :: []) :: (36 :: 35 :: 30 :: 27 :: 34 :: 26 :: 17 :: 1 :: 25 :: 0 :: 24 :: 16 :: 13 :: 15 :: 12 :: 11 :: 7 :: 6 :: 5 :: 2 :: 4 :: 3 :: 8 :: 10 :: 9 :: 14 :: 22 :: 23 :: 21 :: 18 :: 20 :: 19 :: 33 :: 29 :: 28 :: 32 :: 31 :: []) :: (38 :: 39 :: 36 :: 37 :: 35 :: 30 :: 27 :: 34 :: 26 :: 17 :: 1 :: 25 :: 0 :: 24 :: 16 :: 13 :: 15 :: 12 :: 11 :: 7 :: 6 :: 5 :: 2 :: 4 :: 3 :: 8 :: 10 :: 9 :: 14 :: 22 :: 23 :: 21 :: 18 :: 20 :: 19 :: 33 :: 29 :: 28 :: 32 :: 31 :: []) :: (36 :: 40 :: 35 :: 30 :: 27 :: 34 :: 26 :: 17 :: 1 :: 25 :: 0 :: 24 :: 16 :: 13 :: 15 :: 12 :: 11 :: 7 :: 6 :: 5 :: 2 :: 4 :: 3 :: 8 :: 10 :: 9 :: 14 :: 22 :: 23 :: 21 :: 18 :: 20 :: 19 :: 33 :: 29 :: 28 :: 32 :: 31 :: 38 :: 39 :: 37 :: []) :: (41 :: 36 :: 40 :: 35 :: 30 :: 27 :: 34 :: 26 :: 17 :: 1 :: 25 :: 0 :: 24 :: 16 :: 13 :: 15 :: 12 :: 11 :: 7 :: 6 :: 5 :: 2 :: 4 :: 3 :: 8 :: 10 :: 9 :: 14 :: 22 :: 23 :: 21 :: 18 :: 20 :: 19 :: 33 :: 29 :: 28 :: 32 :: 31 :: 38 :: 39 :: 37 :: []) :: (42 :: 41 :: 36 :: 40 :: 35 :: 30 :: 27 :: 34 :: 26 :: 17 :: 1 :: 25 :: 0 :: 24 :: 16 :: 13 :: 15 :: 12 :: 11 :: 7 :: 6 :: 5 :: 2 :: 4 :: 3 :: 8 :: 10 :: 9 :: 14 :: 22 :: 23 :: 21 :: 18 :: 20 :: 19 :: 33 :: 29 :: 28 :: 32 :: 31 :: 38 :: 39 :: 37 :: []) :: (42 :: 41 :: 36 :: 40 :: 35 :: 30 :: 27 :: 34 :: 26 :: 17 :: 1 :: 25 :: 0 :: 24 :: 16 :: 13 :: 15 :: 12 :: 11 :: 7 :: 6 :: 5 :: 2 :: 4 :: 3 :: 8 :: 10 :: 9 :: 14 :: 22 :: 23 :: 21 :: 18 :: 20 :: 19 :: 33 :: 29 :: 28 :: 32 :: 31 :: 38 :: 39 :: 37 :: []) :: (43 :: 44 :: 42 :: 41 :: 36 :: 40 :: 35 :: 30 :: 27 :: 34 :: 26 :: 17 :: 1 :: 25 :: 0 :: 24 :: 16 :: 13 :: 15 :: 12 :: 11 :: 7 :: 6 :: 5 :: 2 :: 4 :: 3 :: 8 :: 10 :: 9 :: 14 :: 22 :: 23 :: 21 :: 18 :: 20 :: 19 :: 33 :: 29 :: 28 :: 32 :: 31 :: 38 :: 39 :: 37 :: []) :: (45 :: 42 :: 43 :: 44 :: 41 :: 36 :: 40 :: 35 :: 30 :: 27 :: 34 :: 26 :: 17 :: 1 :: 25 :: 0 :: 24 :: 16 :: 13 :: 15 :: 12 :: 11 :: 7 :: 6 :: 5 :: 2 :: 4 :: 3 :: 8 :: 10 :: 9 :: 14 :: 22 :: 23 :: 21 :: 18 :: 20 :: 19 :: 33 :: 29 :: 28 :: 32 :: 31 :: 38 :: 39 :: 37 :: []) :: (42 :: 46 :: 41 :: 36 :: 40 :: 35 :: 30 :: 27 :: 34 :: 26 :: 17 :: 1 :: 25 :: 0 :: 24 :: 16 :: 13 :: 15 :: 12 :: 11 :: 7 :: 6 :: 5 :: 2 :: 4 :: 3 :: 8 :: 10 :: 9 :: 14 :: 22 :: 23 :: 21 :: 18 :: 20 :: 19 :: 33 :: 29 :: 28 :: 32 :: 31 :: 38 :: 39 :: 37 :: 45 :: 43 :: 44 :: []) :: [])
def fo35t_kill : List (List Nat) := ([] :: [] :: [] :: [] :: [] :: [] :: [] :: [] :: [] :: [] :: [] :: [] :: [] :: [] :: [] :: [] :: [] :: [] :: [] :: [] :: [] :: [] :: [] :: [] :: [] :: [] :: [] :: [] :: [] :: [] :: [] :: [] :: [] :: [] :: [] :: [] :: [] :: [] :: [] :: [] :: [] :: [] :: [] :: [] :: [] :: [] :: [] :: [] :: [])
def fo35t_uses : List (List Nat) := ([] :: [] :: [] :: [] :: [] :: [] :: [] :: [] :: [] :: [] :: [] :: [] :: [] :: [] :: [] :: [] :: [] :: [] :: [] :: [] :: [] :: [] :: [] :: [] :: [] :: [] :: [] :: [] :: [] :: [] :: [] :: [] :: [] :: [] :: [] :: [] :: [] :: [] :: [] :: [] :: [] :: [] :: [] :: [] :: [] :: [] :: [] :: [] :: [])
noncomputable def fo35t_code : Code := ((Try.f4.body.bind (codeRegion 35)).getD .skip)
set_option maxRecDepth 100000 in
set_option maxHeartbeats 4000000 in
theorem fo35t_in (B gb G g1 cl Lw cw bd rb no who at_ : Nat) (Aw : Option Addr) (vm va : Value) (ys wt ask : List Nat) (gs : List (Nat × Nat × Nat)) (w0 : World) (hgx : (grRows gs)[g1]? = some [.int .u64 (no : Int), .int .u32 (who : Int), .int .u64 (at_ : Int)]) (hg : g1 < G) (eG : ((G : Int) == 0) = false) (eS : IntKind.i64.wrap ((G : Int) - 1) = (g1 : Int)) (eB : ¬ bd < Lw)
    (hm : ∀ w, Rd .u32 w vm (nats ys) → Calls Try.prog 18 #[vm, .int .u32 (who : Int)] w fun e w' => e = .returned (.bool true) ∧ w = w')
    (hw : ∀ w, Rd .u32 w (.slice Aw Lw cw) (nats wt) → Calls Try.prog 18 #[.slice Aw Lw cw, .int .u32 (who : Int)] w fun e w' => e = .returned (.bool false) ∧ w = w')
    (hs : ∀ w, Rd .u32 w (.slice Aw Lw cw) (nats wt) → Rd .u32 w va (nats ask) → Calls Try.prog 19 #[.slice Aw Lw cw, va] w (SaysF (.bool true) w))  (u1 u2 u3 u4 u5 u6 u7 u8 u10 u12 u13 u14 u15 u16 u17 u23 u24 u25 u26 u27 u28 u29 u30 u31 u32 u33 u34 u35 u36 u37 u38 u39 u40 u41 u42 u43 u44 u45 u46 u47 u48 u49 u50 u51 u52 u53 u54 u55 u56 u57 u58 u59 u60 u61 u62 u63 u64 u65 u66 u67 u68 u69 u70 u71 u72 u73 u74 u75 u76 u77 u78 u79 u80 u81 u82 u83 u84 u85 u86 u87 u88 u89 u90 u91 u92 u93 u94 u95 u96 u97 u98 u99 u100 u101 u102 u103 u104 u105 u106 u107 u108 u109 u110 u111 u112 u113 u114 u115 u116 u117 u118 u119 u120 u121 u122 u123 u124 u125 u126 u127 u128 u129 u130 u131 u132 u133 u134 u135 u136 u137 u138 u139 u140 u141 u142 u143 u144 u145 u146 u147 u148 u149 u150 u151 u152 u153 u154 u155 u156 u157 u158 u159 u160 u161 u162 u163 u164 u165 u166 u167 u168 u169 u170 u171 u172 u173 u174 u175 u176 u177 u178 u179 u180 u181 u182 u183 u184 u185 u186 u187 u188 u189 u190 u191 u192 u193 u194 u195 u196 u197 u198 u199 u200 u201 u202 u203 u204 u205 u206 u207 u208 u209 u210 u211 u212 u213 u214 u215 u216 u217 u218 u219 u220 u221 u222 u223 u224 u225 u226 u227 u228 : Value) (w : World) (hG : Fo B vm (.slice Aw Lw cw) va (.slice (some ⟨gb, 0, none⟩) G cl) ys wt ask gs rb no who at_ w0 w) :
    Code.wp Try.prog fo35t_code (fun e a w' => ∃ y156 y157 y158 y159 y160 y161 y162 y163 y164 y165 y166 y167 y168 y169 y170 y171 y172 y173 y174 y175 y176 y177 y178 y179 y180 y181 y182 y183 y184 y185 y186 y187 y188 y189 y190 y191 y192 y193 y194 y195 y196 y197 y198 y199 y200 y201 y202 : Value, a = ⟨(List.toArray (.int .i64 (bd : Int) :: u1 :: u2 :: u3 :: u4 :: u5 :: u6 :: u7 :: u8 :: va :: u10 :: .int .i64 (G : Int) :: u12 :: u13 :: u14 :: u15 :: u16 :: u17 :: .slice (some ⟨gb, 0, none⟩) G cl :: .pointer (some ⟨rb, 0, none⟩) :: .bool true :: .slice Aw Lw cw :: vm :: u23 :: u24 :: u25 :: u26 :: u27 :: u28 :: u29 :: u30 :: u31 :: u32 :: u33 :: u34 :: u35 :: u36 :: u37 :: u38 :: u39 :: u40 :: u41 :: u42 :: u43 :: u44 :: u45 :: u46 :: u47 :: u48 :: u49 :: u50 :: u51 :: u52 :: u53 :: u54 :: u55 :: u56 :: u57 :: u58 :: u59 :: u60 :: u61 :: u62 :: u63 :: u64 :: u65 :: u66 :: u67 :: u68 :: u69 :: u70 :: u71 :: u72 :: u73 :: u74 :: u75 :: u76 :: u77 :: u78 :: u79 :: u80 :: u81 :: u82 :: u83 :: u84 :: u85 :: u86 :: u87 :: u88 :: u89 :: u90 :: u91 :: u92 :: u93 :: u94 :: u95 :: u96 :: u97 :: u98 :: u99 :: u100 :: u101 :: u102 :: u103 :: u104 :: u105 :: u106 :: u107 :: u108 :: u109 :: u110 :: u111 :: u112 :: u113 :: u114 :: u115 :: u116 :: u117 :: u118 :: u119 :: u120 :: u121 :: u122 :: u123 :: u124 :: u125 :: u126 :: u127 :: u128 :: u129 :: u130 :: u131 :: u132 :: u133 :: u134 :: u135 :: u136 :: u137 :: u138 :: u139 :: u140 :: u141 :: u142 :: u143 :: u144 :: u145 :: u146 :: u147 :: u148 :: u149 :: u150 :: u151 :: u152 :: u153 :: u154 :: u155 :: y156 :: y157 :: y158 :: y159 :: y160 :: y161 :: y162 :: y163 :: y164 :: y165 :: y166 :: y167 :: y168 :: y169 :: y170 :: y171 :: y172 :: y173 :: y174 :: y175 :: y176 :: y177 :: y178 :: y179 :: y180 :: y181 :: y182 :: y183 :: y184 :: y185 :: y186 :: y187 :: y188 :: y189 :: y190 :: y191 :: y192 :: y193 :: y194 :: y195 :: y196 :: y197 :: y198 :: y199 :: y200 :: y201 :: y202 :: (.bool false) :: u204 :: u205 :: u206 :: u207 :: u208 :: u209 :: u210 :: u211 :: u212 :: u213 :: u214 :: u215 :: u216 :: u217 :: u218 :: u219 :: u220 :: u221 :: u222 :: u223 :: u224 :: u225 :: u226 :: u227 :: u228 :: [])), []⟩ ∧ e = .normal ∧ (Only (fun _ => False) w0 w')) ⟨(List.toArray (.int .i64 (bd : Int) :: u1 :: u2 :: u3 :: u4 :: u5 :: u6 :: u7 :: u8 :: va :: u10 :: .int .i64 (G : Int) :: u12 :: u13 :: u14 :: u15 :: u16 :: u17 :: .slice (some ⟨gb, 0, none⟩) G cl :: .pointer (some ⟨rb, 0, none⟩) :: .bool true :: .slice Aw Lw cw :: vm :: u23 :: u24 :: u25 :: u26 :: u27 :: u28 :: u29 :: u30 :: u31 :: u32 :: u33 :: u34 :: u35 :: u36 :: u37 :: u38 :: u39 :: u40 :: u41 :: u42 :: u43 :: u44 :: u45 :: u46 :: u47 :: u48 :: u49 :: u50 :: u51 :: u52 :: u53 :: u54 :: u55 :: u56 :: u57 :: u58 :: u59 :: u60 :: u61 :: u62 :: u63 :: u64 :: u65 :: u66 :: u67 :: u68 :: u69 :: u70 :: u71 :: u72 :: u73 :: u74 :: u75 :: u76 :: u77 :: u78 :: u79 :: u80 :: u81 :: u82 :: u83 :: u84 :: u85 :: u86 :: u87 :: u88 :: u89 :: u90 :: u91 :: u92 :: u93 :: u94 :: u95 :: u96 :: u97 :: u98 :: u99 :: u100 :: u101 :: u102 :: u103 :: u104 :: u105 :: u106 :: u107 :: u108 :: u109 :: u110 :: u111 :: u112 :: u113 :: u114 :: u115 :: u116 :: u117 :: u118 :: u119 :: u120 :: u121 :: u122 :: u123 :: u124 :: u125 :: u126 :: u127 :: u128 :: u129 :: u130 :: u131 :: u132 :: u133 :: u134 :: u135 :: u136 :: u137 :: u138 :: u139 :: u140 :: u141 :: u142 :: u143 :: u144 :: u145 :: u146 :: u147 :: u148 :: u149 :: u150 :: u151 :: u152 :: u153 :: u154 :: u155 :: u156 :: u157 :: u158 :: u159 :: u160 :: u161 :: u162 :: u163 :: u164 :: u165 :: u166 :: u167 :: u168 :: u169 :: u170 :: u171 :: u172 :: u173 :: u174 :: u175 :: u176 :: u177 :: u178 :: u179 :: u180 :: u181 :: u182 :: u183 :: u184 :: u185 :: u186 :: u187 :: u188 :: u189 :: u190 :: u191 :: u192 :: u193 :: u194 :: u195 :: u196 :: u197 :: u198 :: u199 :: u200 :: u201 :: u202 :: u203 :: u204 :: u205 :: u206 :: u207 :: u208 :: u209 :: u210 :: u211 :: u212 :: u213 :: u214 :: u215 :: u216 :: u217 :: u218 :: u219 :: u220 :: u221 :: u222 :: u223 :: u224 :: u225 :: u226 :: u227 :: u228 :: [])), []⟩ w := by
  conv => arg 2; whnf
  have Hm := Lib.hid hm
  have Hw := Lib.hid hw
  have Hs := Lib.hid hs
  have hgx := Lib.hid hgx
  clear hm hw hs
  have hgI : (g1 : Int) < (G : Int) := by omega
  refine wp_region_posts fo35t_A [45] [] fo35t_kill fo35t_uses [] [] [] []
      (some ?v0 :: some ?v1 :: some ?v2 :: some ?v3 :: some ?v4 :: some ((.bool true)) :: some ?v6 :: some ?v7 :: some ?v8 :: some ?v9 :: some ?v10 :: some ((.bool false)) :: some ?v12 :: some ?v13 :: some ?v14 :: some ?v15 :: some ?v16 :: some ?v17 :: some ?v18 :: some ?v19 :: some ?v20 :: some ?v21 :: some ((.agg #[.int .u64 (no : Int), .int .u32 (who : Int), .int .u64 (at_ : Int)])) :: some ((.agg #[.int .u64 (no : Int), .int .u32 (who : Int), .int .u64 (at_ : Int)])) :: some ((.bool false)) :: some ?v25 :: some ?v26 :: some ?v27 :: some ?v28 :: some ?v29 :: some ?v30 :: some undef :: some undef :: some undef :: some ?v34 :: some ?v35 :: some ?v36 :: some ?v37 :: some ?v38 :: some ?v39 :: some ?v40 :: some ?v41 :: some ?v42 :: some ?v43 :: some ?v44 :: some ((.bool true)) :: some ?v46 :: some ?v47 :: [])
      ?T (fun wx => Fo B vm (.slice Aw Lw cw) va (.slice (some ⟨gb, 0, none⟩) G cl) ys wt ask gs rb no who at_ w0 wx) ?W ?E (by kernel_rfl) (by kernel_rfl) (by kernel_rfl) (fun x => ?hT) ?hF ?hini (Reg.all_ops ?runs) ?pres ?fin
  case W => exact fun j x w' => True
  case E => exact fun i wx wy => Only (fun _ => False) wx wy
  case hT =>
    simp only [Reg.fillV, Act.put, List.setIfInBounds_toArray, List.set_cons_zero, List.set_cons_succ]
    rfl
  case runs =>
    refine And.intro ?_ ?_
    · refine Reg.ob_pure (fun _ => rfl) rfl rfl rfl rfl (fun x w1 hF => ?_)
      have r1 : w1.cell? ⟨rb, 1, none⟩ = some (.int .u32 (who : Int)) := hF.r.cell 1
      go_simp
      with_reducible rfl
    refine And.intro ?_ ?_
    · refine Reg.ob_pure (fun _ => rfl) rfl rfl rfl rfl (fun x w1 hF => ?_)
      have r1 : w1.cell? ⟨rb, 1, none⟩ = some (.int .u32 (who : Int)) := hF.r.cell 1
      go_simp
      with_reducible rfl
    refine And.intro ?_ ?_
    · refine Reg.ob_pure (fun _ => rfl) rfl rfl rfl rfl (fun x w1 hF => ?_)
      have r1 : w1.cell? ⟨rb, 1, none⟩ = some (.int .u32 (who : Int)) := hF.r.cell 1
      go_simp
      with_reducible rfl
    refine And.intro ?_ ?_
    · refine Reg.ob_pure (fun _ => rfl) rfl rfl rfl rfl (fun x w1 hF => ?_)
      have r1 : w1.cell? ⟨rb, 1, none⟩ = some (.int .u32 (who : Int)) := hF.r.cell 1
      go_simp
      with_reducible rfl
    refine And.intro ?_ ?_
    · refine Reg.ob_pure (fun _ => rfl) rfl rfl rfl rfl (fun x w1 hF => ?_)
      have r1 : w1.cell? ⟨rb, 1, none⟩ = some (.int .u32 (who : Int)) := hF.r.cell 1
      go_simp
      with_reducible rfl
    refine And.intro ?_ ?_
    · refine Reg.ob_known (fun _ => rfl) rfl rfl (fun x w1 hF hU K hK => ?_)
      replace hF := hF rfl
      go_simp
      refine (Hm.out w1 hF.m).mono ?_
      rintro e w5 ⟨rfl, rfl⟩
      exact hK _ (fun _ _ _ => hF) rfl
    refine And.intro ?_ ?_
    · refine Reg.ob_pure (fun _ => rfl) rfl rfl rfl rfl (fun x w1 hF => ?_)
      have r1 : w1.cell? ⟨rb, 1, none⟩ = some (.int .u32 (who : Int)) := hF.r.cell 1
      go_simp
      with_reducible rfl
    refine And.intro ?_ ?_
    · refine Reg.ob_pure (fun _ => rfl) rfl rfl rfl rfl (fun x w1 hF => ?_)
      have r1 : w1.cell? ⟨rb, 1, none⟩ = some (.int .u32 (who : Int)) := hF.r.cell 1
      go_simp
      with_reducible rfl
    refine And.intro ?_ ?_
    · refine Reg.ob_pure (fun _ => rfl) rfl rfl rfl rfl (fun x w1 hF => ?_)
      have r1 : w1.cell? ⟨rb, 1, none⟩ = some (.int .u32 (who : Int)) := hF.r.cell 1
      go_simp
      with_reducible rfl
    refine And.intro ?_ ?_
    · refine Reg.ob_pure (fun _ => rfl) rfl rfl rfl rfl (fun x w1 hF => ?_)
      have r1 : w1.cell? ⟨rb, 1, none⟩ = some (.int .u32 (who : Int)) := hF.r.cell 1
      go_simp
      with_reducible rfl
    refine And.intro ?_ ?_
    · refine Reg.ob_pure (fun _ => rfl) rfl rfl rfl rfl (fun x w1 hF => ?_)
      have r1 : w1.cell? ⟨rb, 1, none⟩ = some (.int .u32 (who : Int)) := hF.r.cell 1
      go_simp
      with_reducible rfl
    refine And.intro ?_ ?_
    · refine Reg.ob_known (fun _ => rfl) rfl rfl (fun x w1 hF hU K hK => ?_)
      replace hF := hF rfl
      go_simp
      refine (Hw.out w1 hF.w).mono ?_
      rintro e w5 ⟨rfl, rfl⟩
      exact hK _ (fun _ _ _ => hF) rfl
    refine And.intro ?_ ?_
    · refine Reg.ob_pure (fun _ => rfl) rfl rfl rfl rfl (fun x w1 hF => ?_)
      have r1 : w1.cell? ⟨rb, 1, none⟩ = some (.int .u32 (who : Int)) := hF.r.cell 1
      go_simp
      with_reducible rfl
    refine And.intro ?_ ?_
    · refine Reg.ob_pure (fun _ => rfl) rfl rfl rfl rfl (fun x w1 hF => ?_)
      have r1 : w1.cell? ⟨rb, 1, none⟩ = some (.int .u32 (who : Int)) := hF.r.cell 1
      go_simp
      with_reducible rfl
    refine And.intro ?_ ?_
    · refine Reg.ob_pure (fun _ => rfl) rfl rfl rfl rfl (fun x w1 hF => ?_)
      have r1 : w1.cell? ⟨rb, 1, none⟩ = some (.int .u32 (who : Int)) := hF.r.cell 1
      go_simp
      with_reducible rfl
    refine And.intro ?_ ?_
    · refine Reg.ob_pure (fun _ => rfl) rfl rfl rfl rfl (fun x w1 hF => ?_)
      have r1 : w1.cell? ⟨rb, 1, none⟩ = some (.int .u32 (who : Int)) := hF.r.cell 1
      go_simp
      with_reducible rfl
    refine And.intro ?_ ?_
    · refine Reg.ob_pure (fun _ => rfl) rfl rfl rfl rfl (fun x w1 hF => ?_)
      have r1 : w1.cell? ⟨rb, 1, none⟩ = some (.int .u32 (who : Int)) := hF.r.cell 1
      go_simp
      with_reducible rfl
    refine And.intro ?_ ?_
    · refine Reg.ob_pure (fun _ => rfl) rfl rfl rfl rfl (fun x w1 hF => ?_)
      have r1 : w1.cell? ⟨rb, 1, none⟩ = some (.int .u32 (who : Int)) := hF.r.cell 1
      go_simp
      with_reducible rfl
    refine And.intro ?_ ?_
    · refine Reg.ob_pure (fun _ => rfl) rfl rfl rfl rfl (fun x w1 hF => ?_)
      have r1 : w1.cell? ⟨rb, 1, none⟩ = some (.int .u32 (who : Int)) := hF.r.cell 1
      go_simp
      with_reducible rfl
    refine And.intro ?_ ?_
    · refine Reg.ob_pure (fun _ => rfl) rfl rfl rfl rfl (fun x w1 hF => ?_)
      have r1 : w1.cell? ⟨rb, 1, none⟩ = some (.int .u32 (who : Int)) := hF.r.cell 1
      go_simp
      with_reducible rfl
    refine And.intro ?_ ?_
    · refine Reg.ob_pure (fun _ => rfl) rfl rfl rfl rfl (fun x w1 hF => ?_)
      have r1 : w1.cell? ⟨rb, 1, none⟩ = some (.int .u32 (who : Int)) := hF.r.cell 1
      go_simp
      with_reducible rfl
    refine And.intro ?_ ?_
    · refine Reg.ob_pure (fun _ => rfl) rfl rfl rfl rfl (fun x w1 hF => ?_)
      have r1 : w1.cell? ⟨rb, 1, none⟩ = some (.int .u32 (who : Int)) := hF.r.cell 1
      go_simp
      with_reducible rfl
    refine And.intro ?_ ?_
    · refine Reg.ob_known (fun _ => rfl) rfl rfl (fun x w1 hF hU K hK => ?_)
      refine wp_load_mid 48 _ rfl gb (g1 * 3) ?_ [.int .u64 (no : Int), .int .u32 (who : Int), .int .u64 (at_ : Int)] _ ((hF rfl).g.range (g := gb) (i := g1) rfl hgx.out) Try.underlying48 rfl Try.sizeGr ?_
      · go_simp
        try rfl
      · exact hK w1 (fun h _ _ => absurd h (by decide)) rfl
    refine And.intro ?_ ?_
    · refine Reg.ob_known (fun _ => rfl) rfl rfl (fun x w1 hF hU K hK => ?_)
      refine wp_load_mid 48 _ rfl rb 0 rfl [.int .u64 (no : Int), .int .u32 (who : Int), .int .u64 (at_ : Int)] _ (World.rangeAt_of_block (hF rfl).r 0 3) Try.underlying48 rfl Try.sizeGr ?_
      exact hK w1 (fun h _ _ => absurd h (by decide)) rfl
    refine And.intro ?_ ?_
    · refine Reg.ob_pure (fun _ => rfl) rfl rfl rfl rfl (fun x w1 hF => ?_)
      exact run_ne_gr _ _ _ no who at_ rfl rfl rfl
    refine And.intro ?_ ?_
    · refine Reg.ob_pure (fun _ => rfl) rfl rfl rfl rfl (fun x w1 hF => ?_)
      have r1 : w1.cell? ⟨rb, 1, none⟩ = some (.int .u32 (who : Int)) := hF.r.cell 1
      go_simp
      with_reducible rfl
    refine And.intro ?_ ?_
    · refine Reg.ob_pure (fun _ => rfl) rfl rfl rfl rfl (fun x w1 hF => ?_)
      have r1 : w1.cell? ⟨rb, 1, none⟩ = some (.int .u32 (who : Int)) := hF.r.cell 1
      go_simp
      with_reducible rfl
    refine And.intro ?_ ?_
    · refine Reg.ob_pure (fun _ => rfl) rfl rfl rfl rfl (fun x w1 hF => ?_)
      have r1 : w1.cell? ⟨rb, 1, none⟩ = some (.int .u32 (who : Int)) := hF.r.cell 1
      go_simp
      with_reducible rfl
    refine And.intro ?_ ?_
    · refine Reg.ob_pure (fun _ => rfl) rfl rfl rfl rfl (fun x w1 hF => ?_)
      have r1 : w1.cell? ⟨rb, 1, none⟩ = some (.int .u32 (who : Int)) := hF.r.cell 1
      go_simp
      with_reducible rfl
    refine And.intro ?_ ?_
    · refine Reg.ob_pure (fun _ => rfl) rfl rfl rfl rfl (fun x w1 hF => ?_)
      have r1 : w1.cell? ⟨rb, 1, none⟩ = some (.int .u32 (who : Int)) := hF.r.cell 1
      go_simp
      with_reducible rfl
    refine And.intro ?_ ?_
    · refine Reg.ob_pure (fun _ => rfl) rfl rfl rfl rfl (fun x w1 hF => ?_)
      have r1 : w1.cell? ⟨rb, 1, none⟩ = some (.int .u32 (who : Int)) := hF.r.cell 1
      go_simp
      with_reducible rfl
    refine And.intro ?_ ?_
    · exact Reg.ob_skip (fun _ => rfl) rfl rfl rfl
    refine And.intro ?_ ?_
    · exact Reg.ob_skip (fun _ => rfl) rfl rfl rfl
    refine And.intro ?_ ?_
    · exact Reg.ob_skip (fun _ => rfl) rfl rfl rfl
    refine And.intro ?_ ?_
    · refine Reg.ob_pure (fun _ => rfl) rfl rfl rfl rfl (fun x w1 hF => ?_)
      have r1 : w1.cell? ⟨rb, 1, none⟩ = some (.int .u32 (who : Int)) := hF.r.cell 1
      go_simp
      with_reducible rfl
    refine And.intro ?_ ?_
    · refine Reg.ob_pure (fun _ => rfl) rfl rfl rfl rfl (fun x w1 hF => ?_)
      have r1 : w1.cell? ⟨rb, 1, none⟩ = some (.int .u32 (who : Int)) := hF.r.cell 1
      go_simp
      with_reducible rfl
    refine And.intro ?_ ?_
    · refine Reg.ob_pure (fun _ => rfl) rfl rfl rfl rfl (fun x w1 hF => ?_)
      have r1 : w1.cell? ⟨rb, 1, none⟩ = some (.int .u32 (who : Int)) := hF.r.cell 1
      go_simp
      with_reducible rfl
    refine And.intro ?_ ?_
    · refine Reg.ob_pure (fun _ => rfl) rfl rfl rfl rfl (fun x w1 hF => ?_)
      have r1 : w1.cell? ⟨rb, 1, none⟩ = some (.int .u32 (who : Int)) := hF.r.cell 1
      go_simp
      with_reducible rfl
    refine And.intro ?_ ?_
    · refine Reg.ob_pure (fun _ => rfl) rfl rfl rfl rfl (fun x w1 hF => ?_)
      have r1 : w1.cell? ⟨rb, 1, none⟩ = some (.int .u32 (who : Int)) := hF.r.cell 1
      go_simp
      with_reducible rfl
    refine And.intro ?_ ?_
    · refine Reg.ob_pure (fun _ => rfl) rfl rfl rfl rfl (fun x w1 hF => ?_)
      have r1 : w1.cell? ⟨rb, 1, none⟩ = some (.int .u32 (who : Int)) := hF.r.cell 1
      go_simp
      with_reducible rfl
    refine And.intro ?_ ?_
    · refine Reg.ob_pure (fun _ => rfl) rfl rfl rfl rfl (fun x w1 hF => ?_)
      have r1 : w1.cell? ⟨rb, 1, none⟩ = some (.int .u32 (who : Int)) := hF.r.cell 1
      go_simp
      with_reducible rfl
    refine And.intro ?_ ?_
    · refine Reg.ob_pure (fun _ => rfl) rfl rfl rfl rfl (fun x w1 hF => ?_)
      have r1 : w1.cell? ⟨rb, 1, none⟩ = some (.int .u32 (who : Int)) := hF.r.cell 1
      go_simp
      with_reducible rfl
    refine And.intro ?_ ?_
    · refine Reg.ob_pure (fun _ => rfl) rfl rfl rfl rfl (fun x w1 hF => ?_)
      have r1 : w1.cell? ⟨rb, 1, none⟩ = some (.int .u32 (who : Int)) := hF.r.cell 1
      go_simp
      with_reducible rfl
    refine And.intro ?_ ?_
    · refine Reg.ob_pure (fun _ => rfl) rfl rfl rfl rfl (fun x w1 hF => ?_)
      have r1 : w1.cell? ⟨rb, 1, none⟩ = some (.int .u32 (who : Int)) := hF.r.cell 1
      go_simp
      with_reducible rfl
    refine And.intro ?_ ?_
    · refine Reg.ob_pure (fun _ => rfl) rfl rfl rfl rfl (fun x w1 hF => ?_)
      have r1 : w1.cell? ⟨rb, 1, none⟩ = some (.int .u32 (who : Int)) := hF.r.cell 1
      go_simp
      with_reducible rfl
    refine And.intro ?_ ?_
    · refine Reg.ob_known (fun _ => rfl) rfl rfl (fun x w1 hF hU K hK => ?_)
      replace hF := hF rfl
      go_simp
      refine (Hs.out w1 hF.w hF.a).mono ?_
      rintro e w5 ⟨rfl, ho⟩
      exact hK w5 (fun _ _ _ => hF.go ho) ho
    refine And.intro ?_ ?_
    · refine Reg.ob_pure (fun _ => rfl) rfl rfl rfl rfl (fun x w1 hF => ?_)
      have r1 : w1.cell? ⟨rb, 1, none⟩ = some (.int .u32 (who : Int)) := hF.r.cell 1
      go_simp
      with_reducible rfl
    refine And.intro ?_ ?_
    · refine Reg.ob_pure (fun _ => rfl) rfl rfl rfl rfl (fun x w1 hF => ?_)
      have r1 : w1.cell? ⟨rb, 1, none⟩ = some (.int .u32 (who : Int)) := hF.r.cell 1
      go_simp
      with_reducible rfl
    exact trivial
  case hF =>
    exact hG.go ((Only.refl _ _).drewN 1)
  case hini =>
    exact trivial
  case pres =>
    intro i hi j hj
    simp at hj
  case fin =>
    rintro x w9 hF hU
    repeat apply Exists.intro
    exact ⟨rfl, rfl, (hF rfl).pure⟩

set_option maxRecDepth 100000 in
set_option maxHeartbeats 4000000 in
theorem fo35t (B gb G g1 cl Lw cw bd rb no who at_ : Nat) (Aw : Option Addr) (vm va : Value) (ys wt ask : List Nat) (gs : List (Nat × Nat × Nat)) (w0 : World) (hgx : (grRows gs)[g1]? = some [.int .u64 (no : Int), .int .u32 (who : Int), .int .u64 (at_ : Int)]) (hg : g1 < G) (eG : ((G : Int) == 0) = false) (eS : IntKind.i64.wrap ((G : Int) - 1) = (g1 : Int)) (eB : ¬ bd < Lw)
    (hm : ∀ w, Rd .u32 w vm (nats ys) → Calls Try.prog 18 #[vm, .int .u32 (who : Int)] w fun e w' => e = .returned (.bool true) ∧ w = w')
    (hw : ∀ w, Rd .u32 w (.slice Aw Lw cw) (nats wt) → Calls Try.prog 18 #[.slice Aw Lw cw, .int .u32 (who : Int)] w fun e w' => e = .returned (.bool false) ∧ w = w')
    (hs : ∀ w, Rd .u32 w (.slice Aw Lw cw) (nats wt) → Rd .u32 w va (nats ask) → Calls Try.prog 19 #[.slice Aw Lw cw, va] w (SaysF (.bool true) w))  (u1 u2 u3 u4 u5 u6 u7 u8 u10 u12 u13 u14 u15 u16 u17 u23 u24 u25 u26 u27 u28 u29 u30 u31 u32 u33 u34 u35 u36 u37 u38 u39 u40 u41 u42 u43 u44 u45 u46 u47 u48 u49 u50 u51 u52 u53 u54 u55 u56 u57 u58 u59 u60 u61 u62 u63 u64 u65 u66 u67 u68 u69 u70 u71 u72 u73 u74 u75 u76 u77 u78 u79 u80 u81 u82 u83 u84 u85 u86 u87 u88 u89 u90 u91 u92 u93 u94 u95 u96 u97 u98 u99 u100 u101 u102 u103 u104 u105 u106 u107 u108 u109 u110 u111 u112 u113 u114 u115 u116 u117 u118 u119 u120 u121 u122 u123 u124 u125 u126 u127 u128 u129 u130 u131 u132 u133 u134 u135 u136 u137 u138 u139 u140 u141 u142 u143 u144 u145 u146 u147 u148 u149 u150 u151 u152 u153 u154 u155 u156 u157 u158 u159 u160 u161 u162 u163 u164 u165 u166 u167 u168 u169 u170 u171 u172 u173 u174 u175 u176 u177 u178 u179 u180 u181 u182 u183 u184 u185 u186 u187 u188 u189 u190 u191 u192 u193 u194 u195 u196 u197 u198 u199 u200 u201 u202 u203 u204 u205 u206 u207 u208 u209 u210 u211 u212 u213 u214 u215 u216 u217 u218 u219 u220 u221 u222 u223 u224 u225 u226 u227 u228 : Value) (Q : Exit → Act → World → Prop) (w : World) (hG : Fo B vm (.slice Aw Lw cw) va (.slice (some ⟨gb, 0, none⟩) G cl) ys wt ask gs rb no who at_ w0 w)
    (hend : ∀ (y156 y157 y158 y159 y160 y161 y162 y163 y164 y165 y166 y167 y168 y169 y170 y171 y172 y173 y174 y175 y176 y177 y178 y179 y180 y181 y182 y183 y184 y185 y186 y187 y188 y189 y190 y191 y192 y193 y194 y195 y196 y197 y198 y199 y200 y201 y202 : Value) (w' : World), (Only (fun _ => False) w0 w') → Q .normal ⟨(List.toArray (.int .i64 (bd : Int) :: u1 :: u2 :: u3 :: u4 :: u5 :: u6 :: u7 :: u8 :: va :: u10 :: .int .i64 (G : Int) :: u12 :: u13 :: u14 :: u15 :: u16 :: u17 :: .slice (some ⟨gb, 0, none⟩) G cl :: .pointer (some ⟨rb, 0, none⟩) :: .bool true :: .slice Aw Lw cw :: vm :: u23 :: u24 :: u25 :: u26 :: u27 :: u28 :: u29 :: u30 :: u31 :: u32 :: u33 :: u34 :: u35 :: u36 :: u37 :: u38 :: u39 :: u40 :: u41 :: u42 :: u43 :: u44 :: u45 :: u46 :: u47 :: u48 :: u49 :: u50 :: u51 :: u52 :: u53 :: u54 :: u55 :: u56 :: u57 :: u58 :: u59 :: u60 :: u61 :: u62 :: u63 :: u64 :: u65 :: u66 :: u67 :: u68 :: u69 :: u70 :: u71 :: u72 :: u73 :: u74 :: u75 :: u76 :: u77 :: u78 :: u79 :: u80 :: u81 :: u82 :: u83 :: u84 :: u85 :: u86 :: u87 :: u88 :: u89 :: u90 :: u91 :: u92 :: u93 :: u94 :: u95 :: u96 :: u97 :: u98 :: u99 :: u100 :: u101 :: u102 :: u103 :: u104 :: u105 :: u106 :: u107 :: u108 :: u109 :: u110 :: u111 :: u112 :: u113 :: u114 :: u115 :: u116 :: u117 :: u118 :: u119 :: u120 :: u121 :: u122 :: u123 :: u124 :: u125 :: u126 :: u127 :: u128 :: u129 :: u130 :: u131 :: u132 :: u133 :: u134 :: u135 :: u136 :: u137 :: u138 :: u139 :: u140 :: u141 :: u142 :: u143 :: u144 :: u145 :: u146 :: u147 :: u148 :: u149 :: u150 :: u151 :: u152 :: u153 :: u154 :: u155 :: y156 :: y157 :: y158 :: y159 :: y160 :: y161 :: y162 :: y163 :: y164 :: y165 :: y166 :: y167 :: y168 :: y169 :: y170 :: y171 :: y172 :: y173 :: y174 :: y175 :: y176 :: y177 :: y178 :: y179 :: y180 :: y181 :: y182 :: y183 :: y184 :: y185 :: y186 :: y187 :: y188 :: y189 :: y190 :: y191 :: y192 :: y193 :: y194 :: y195 :: y196 :: y197 :: y198 :: y199 :: y200 :: y201 :: y202 :: (.bool false) :: u204 :: u205 :: u206 :: u207 :: u208 :: u209 :: u210 :: u211 :: u212 :: u213 :: u214 :: u215 :: u216 :: u217 :: u218 :: u219 :: u220 :: u221 :: u222 :: u223 :: u224 :: u225 :: u226 :: u227 :: u228 :: [])), []⟩ w') :
    Code.wp Try.prog fo35t_code Q ⟨(List.toArray (.int .i64 (bd : Int) :: u1 :: u2 :: u3 :: u4 :: u5 :: u6 :: u7 :: u8 :: va :: u10 :: .int .i64 (G : Int) :: u12 :: u13 :: u14 :: u15 :: u16 :: u17 :: .slice (some ⟨gb, 0, none⟩) G cl :: .pointer (some ⟨rb, 0, none⟩) :: .bool true :: .slice Aw Lw cw :: vm :: u23 :: u24 :: u25 :: u26 :: u27 :: u28 :: u29 :: u30 :: u31 :: u32 :: u33 :: u34 :: u35 :: u36 :: u37 :: u38 :: u39 :: u40 :: u41 :: u42 :: u43 :: u44 :: u45 :: u46 :: u47 :: u48 :: u49 :: u50 :: u51 :: u52 :: u53 :: u54 :: u55 :: u56 :: u57 :: u58 :: u59 :: u60 :: u61 :: u62 :: u63 :: u64 :: u65 :: u66 :: u67 :: u68 :: u69 :: u70 :: u71 :: u72 :: u73 :: u74 :: u75 :: u76 :: u77 :: u78 :: u79 :: u80 :: u81 :: u82 :: u83 :: u84 :: u85 :: u86 :: u87 :: u88 :: u89 :: u90 :: u91 :: u92 :: u93 :: u94 :: u95 :: u96 :: u97 :: u98 :: u99 :: u100 :: u101 :: u102 :: u103 :: u104 :: u105 :: u106 :: u107 :: u108 :: u109 :: u110 :: u111 :: u112 :: u113 :: u114 :: u115 :: u116 :: u117 :: u118 :: u119 :: u120 :: u121 :: u122 :: u123 :: u124 :: u125 :: u126 :: u127 :: u128 :: u129 :: u130 :: u131 :: u132 :: u133 :: u134 :: u135 :: u136 :: u137 :: u138 :: u139 :: u140 :: u141 :: u142 :: u143 :: u144 :: u145 :: u146 :: u147 :: u148 :: u149 :: u150 :: u151 :: u152 :: u153 :: u154 :: u155 :: u156 :: u157 :: u158 :: u159 :: u160 :: u161 :: u162 :: u163 :: u164 :: u165 :: u166 :: u167 :: u168 :: u169 :: u170 :: u171 :: u172 :: u173 :: u174 :: u175 :: u176 :: u177 :: u178 :: u179 :: u180 :: u181 :: u182 :: u183 :: u184 :: u185 :: u186 :: u187 :: u188 :: u189 :: u190 :: u191 :: u192 :: u193 :: u194 :: u195 :: u196 :: u197 :: u198 :: u199 :: u200 :: u201 :: u202 :: u203 :: u204 :: u205 :: u206 :: u207 :: u208 :: u209 :: u210 :: u211 :: u212 :: u213 :: u214 :: u215 :: u216 :: u217 :: u218 :: u219 :: u220 :: u221 :: u222 :: u223 :: u224 :: u225 :: u226 :: u227 :: u228 :: [])), []⟩ w := by
  refine wp_mono (fo35t_in B gb G g1 cl Lw cw bd rb no who at_ Aw vm va ys wt ask gs w0 hgx hg eG eS eB hm hw hs _ _ _ _ _ _ _ _ _ _ _ _ _ _ _ _ _ _ _ _ _ _ _ _ _ _ _ _ _ _ _ _ _ _ _ _ _ _ _ _ _ _ _ _ _ _ _ _ _ _ _ _ _ _ _ _ _ _ _ _ _ _ _ _ _ _ _ _ _ _ _ _ _ _ _ _ _ _ _ _ _ _ _ _ _ _ _ _ _ _ _ _ _ _ _ _ _ _ _ _ _ _ _ _ _ _ _ _ _ _ _ _ _ _ _ _ _ _ _ _ _ _ _ _ _ _ _ _ _ _ _ _ _ _ _ _ _ _ _ _ _ _ _ _ _ _ _ _ _ _ _ _ _ _ _ _ _ _ _ _ _ _ _ _ _ _ _ _ _ _ _ _ _ _ _ _ _ _ _ _ _ _ _ _ _ _ _ _ _ _ _ _ _ _ _ _ _ _ _ _ _ _ _ _ _ _ _ _ _ _ _ _ _ _ _ _ _ _ _ _ _ w hG) ?_
  rintro e a w' h
  obtain ⟨y156, h⟩ := h
  obtain ⟨y157, h⟩ := h
  obtain ⟨y158, h⟩ := h
  obtain ⟨y159, h⟩ := h
  obtain ⟨y160, h⟩ := h
  obtain ⟨y161, h⟩ := h
  obtain ⟨y162, h⟩ := h
  obtain ⟨y163, h⟩ := h
  obtain ⟨y164, h⟩ := h
  obtain ⟨y165, h⟩ := h
  obtain ⟨y166, h⟩ := h
  obtain ⟨y167, h⟩ := h
  obtain ⟨y168, h⟩ := h
  obtain ⟨y169, h⟩ := h
  obtain ⟨y170, h⟩ := h
  obtain ⟨y171, h⟩ := h
  obtain ⟨y172, h⟩ := h
  obtain ⟨y173, h⟩ := h
  obtain ⟨y174, h⟩ := h
  obtain ⟨y175, h⟩ := h
  obtain ⟨y176, h⟩ := h
  obtain ⟨y177, h⟩ := h
  obtain ⟨y178, h⟩ := h
  obtain ⟨y179, h⟩ := h
  obtain ⟨y180, h⟩ := h
  obtain ⟨y181, h⟩ := h
  obtain ⟨y182, h⟩ := h
  obtain ⟨y183, h⟩ := h
  obtain ⟨y184, h⟩ := h
  obtain ⟨y185, h⟩ := h
  obtain ⟨y186, h⟩ := h
  obtain ⟨y187, h⟩ := h
  obtain ⟨y188, h⟩ := h
  obtain ⟨y189, h⟩ := h
  obtain ⟨y190, h⟩ := h
  obtain ⟨y191, h⟩ := h
  obtain ⟨y192, h⟩ := h
  obtain ⟨y193, h⟩ := h
  obtain ⟨y194, h⟩ := h
  obtain ⟨y195, h⟩ := h
  obtain ⟨y196, h⟩ := h
  obtain ⟨y197, h⟩ := h
  obtain ⟨y198, h⟩ := h
  obtain ⟨y199, h⟩ := h
  obtain ⟨y200, h⟩ := h
  obtain ⟨y201, h⟩ := h
  obtain ⟨y202, h⟩ := h
  obtain ⟨h, rfl, hq⟩ := h
  subst h
  exact hend y156 y157 y158 y159 y160 y161 y162 y163 y164 y165 y166 y167 y168 y169 y170 y171 y172 y173 y174 y175 y176 y177 y178 y179 y180 y181 y182 y183 y184 y185 y186 y187 y188 y189 y190 y191 y192 y193 y194 y195 y196 y197 y198 y199 y200 y201 y202 w' hq
def fo35f_A : List (List Nat) := ([] :: [0] :: [1, 0] :: [1, 0] :: [3, 1, 0] :: [2, 4, 1, 0, 3] :: [5, 1, 2, 4, 0, 3] :: [6, 5, 1, 2, 4, 0, 3] :: (7 :: 6 :: 5 :: 1 :: 2 :: 4 :: 0 :: 3 :: []) :: (7 :: 6 :: 5 :: 1 :: 2 :: 4 :: 0 :: 3 :: []) :: (9 :: 7 :: 6 :: 5 :: 1 :: 2 :: 4 :: 0 :: 3 :: []) :: (8 :: 10 :: 7 :: 6 :: 5 :: 1 :: 2 :: 4 :: 0 :: 3 :: 9 :: []) :: (7 :: 11 :: 1 :: 6 :: 5 :: 2 :: 4 :: 0 :: 3 :: 8 :: 10 :: 9 :: []) :: (12 :: 11 :: 1 :: 7 :: 6 :: 5 :: 2 :: 4 :: 0 :: 3 :: 8 :: 10 :: 9 :: []) :: (13 :: 12 :: 11 :: 1 :: 7 :: 6 :: 5 :: 2 :: 4 :: 0 :: 3 :: 8 :: 10 :: 9 :: []) :: (14 :: 13 :: 12 :: 11 :: 1 :: 7 :: 6 :: 5 :: 2 :: 4 :: 0 :: 3 :: 8 :: 10 :: 9 :: []) :: (13 :: 15 :: 1 :: 12 :: 11 :: 7 :: 6 :: 5 :: 2 :: 4 :: 0 :: 3 :: 8 :: 10 :: 9 :: 14 :: []) :: (16 :: 13 :: 1 :: 15 :: 12 :: 11 :: 7 :: 6 :: 5 :: 2 :: 4 :: 0 :: 3 :: 8 :: 10 :: 9 :: 14 :: []) :: (17 :: 16 :: 13 :: 1 :: 15 :: 12 :: 11 :: 7 :: 6 :: 5 :: 2 :: 4 :: 0 :: 3 :: 8 :: 10 :: 9 :: 14 :: []) :: (17 :: 16 :: 13 :: 1 :: 15 :: 12 :: 11 :: 7 :: 6 :: 5 :: 2 :: 4 :: 0 :: 3 :: 8 :: 10 :: 9 :: 14 :: []) :: (19 :: 17 :: 16 :: 13 :: 1 :: 15 :: 12 :: 11 :: 7 :: 6 :: 5 :: 2 :: 4 :: 0 :: 3 :: 8 :: 10 :: 9 :: 14 :: []) :: (18 :: 20 :: 17 :: 16 :: 13 :: 1 :: 15 :: 12 :: 11 :: 7 :: 6 :: 5 :: 2 :: 4 :: 0 :: 3 :: 8 :: 10 :: 9 :: 14 :: 19 :: []) :: (21 :: 17 :: 18 :: 20 :: 16 :: 13 :: 1 :: 15 :: 12 :: 11 :: 7 :: 6 :: 5 :: 2 :: 4 :: 0 :: 3 :: 8 :: 10 :: 9 :: 14 :: 19 :: []) :: (17 :: 16 :: 13 :: 1 :: 15 :: 12 :: 11 :: 7 :: 6 :: 5 :: 2 :: 4 :: 0 :: 3 :: 8 :: 10 :: 9 :: 14 :: []) :: (22 :: 23 :: 17 :: 21 :: 18 :: 20 :: 16 :: 13 :: 1 :: 15 :: 12 :: 11 :: 7 :: 6 :: 5 :: 2 :: 4 :: 0 :: 3 :: 8 :: 10 :: 9 :: 14 :: 19 :: []) :: (17 :: 24 :: 1 :: 16 :: 13 :: 15 :: 12 :: 11 :: 7 :: 6 :: 5 :: 2 :: 4 :: 0 :: 3 :: 8 :: 10 :: 9 :: 14 :: 22 :: 23 :: 21 :: 18 :: 20 :: 19 :: []) :: (1 :: 25 :: 0 :: 17 :: 24 :: 16 :: 13 :: 15 :: 12 :: 11 :: 7 :: 6 :: 5 :: 2 :: 4 :: 3 :: 8 :: 10 :: 9 :: 14 :: 22 :: 23 :: 21 :: 18 :: 20 :: 19 :: []) :: (26 :: 17 :: 1 :: 25 :: 0 :: 24 :: 16 :: 13 :: 15 :: 12 :: 11 :: 7 :: 6 :: 5 :: 2 :: 4 :: 3 :: 8 :: 10 :: 9 :: 14 :: 22 :: 23 :: 21 :: 18 :: 20 :: 19 :: []) :: (27 :: 26 :: 17 :: 1 :: 25 :: 0 :: 24 :: 16 :: 13 :: 15 :: 12 :: 11 :: 7 :: 6 :: 5 :: 2 :: 4 :: 3 :: 8 :: 10 :: 9 :: 14 :: 22 :: 23 :: 21 :: 18 :: 20 :: 19 :: []) :: (28 :: 27 :: 26 :: 17 :: 1 :: 25 :: 0 :: 24 :: 16 :: 13 :: 15 :: 12 :: 11 :: 7 :: 6 :: 5 :: 2 :: 4 :: 3 :: 8 :: 10 :: 9 :: 14 :: 22 :: 23 :: 21 :: 18 :: 20 :: 19 :: []) :: (29 :: 27 :: 28 :: 26 :: 17 :: 1 :: 25 :: 0 :: 24 :: 16 :: 13 :: 15 :: 12 :: 11 :: 7 :: 6 :: 5 :: 2 :: 4 :: 3 :: 8 :: 10 :: 9 :: 14 :: 22 :: 23 :: 21 :: 18 :: 20 :: 19 :: []) :: (30 :: 29 :: 27 :: 28 :: 26 :: 17 :: 1 :: 25 :: 0 :: 24 :: 16 :: 13 :: 15 :: 12 :: 11 :: 7 :: 6 :: 5 :: 2 :: 4 :: 3 :: 8 :: 10 :: 9 :: 14 :: 22 :: 23 :: 21 :: 18 :: 20 :: 19 :: []) :: (31 :: 30 :: 29 :: 27 :: 28 :: 26 :: 17 :: 1 :: 25 :: 0 :: 24 :: 16 :: 13 :: 15 :: 12 :: 11 :: 7 :: 6 :: 5 :: 2 :: 4 :: 3 :: 8 :: 10 :: 9 :: 14 :: 22 :: 23 :: 21 :: 18 :: 20 :: 19 :: []) :: (32 :: 30 :: 31 :: 29 :: 27 :: 28 :: 26 :: 17 :: 1 :: 25 :: 0 :: 24 :: 16 :: 13 :: 15 :: 12 :: 11 :: 7 :: 6 :: 5 :: 2 :: 4 :: 3 :: 8 :: 10 :: 9 :: 14 :: 22 :: 23 :: 21 :: 18 :: 20 :: 19 :: []) :: (30 :: 33 :: 27 :: 29 :: 28 :: 26 :: 17 :: 1 :: 25 :: 0 :: 24 :: 16 :: 13 :: 15 :: 12 :: 11 :: 7 :: 6 :: 5 :: 2 :: 4 :: 3 :: 8 :: 10 :: 9 :: 14 :: 22 :: 23 :: 21 :: 18 :: 20 :: 19 :: 32 :: 31 :: []) :: (27 :: 34 :: 26 :: 17 :: 1 :: 25 :: 0 :: 24 :: 16 :: 13 :: 15 :: 12 :: 11 :: 7 :: 6 :: 5 :: 2 :: 4 :: 3 :: 8 :: 10 :: 9 :: 14 :: 22 :: 23 :: 21 :: 18 :: 20 :: 19 :: 30 :: 33 :: 29 :: 28 :: 32 :: 31 :: []) :: (35 :: 30 :: 27 :: 34 :: 26 :: 17 :: 1 :: 25 :: 0 :: 24 :: 16 :: 13 :: 15 :: 12 :: 11 :: 7 :: 6 :: 5 :: 2 :: 4 :: 3 :: 8 :: 10 :: 9 :: 14 :: 22 :: 23 :: 21 :: 18 :: 20 :: 19 :: 33 :: 29 :: 28 :: 32 :: 31 :: []) :: (36 :: 35 :: 30 :: 27 :: 34 :: 26 :: 17 :: 1 :: 25 :: 0 :: 24 :: 16 :: 13 :: 15 :: 12 :: 11 :: 7 :: 6 :: 5 :: 2 :: 4 :: 3 :: 8 :: 10 :: 9 :: 14 :: 22 :: 23 :: 21 :: 18 :: 20 :: 19 :: 33 :: 29 :: 28 :: 32 :: 31 :: []) :: (37 :: 36 :: 35 :: 30 :: 27 :: 34 :: 26 :: 17 :: 1 :: 25 :: 0 :: 24 :: 16 :: 13 :: 15 :: 12 :: 11 :: 7 :: 6 :: 5 :: 2 :: 4 :: 3 :: 8 :: 10 :: 9 :: 14 :: 22 :: 23 :: 21 :: 18 :: 20 :: 19 :: 33 :: 29 :: 28 :: 32 :: 31 :: []) :: (36 :: 35 :: 30 :: 27 :: 34 :: 26 :: 17 :: 1 :: 25 :: 0 :: 24 :: 16 :: 13 :: 15 :: 12 :: 11 :: 7 :: 6 :: 5 :: 2 :: 4 :: 3 :: 8 :: 10 :: 9 :: 14 :: 22 :: 23 :: 21 :: 18 :: 20 :: 19 :: 33 :: 29 :: 28 :: 32 :: 31 :: []) :: (38 :: 39 :: 36 :: 37 :: 35 :: 30 :: 27 :: 34 :: 26 :: 17 :: 1 :: 25 :: 0 :: 24 :: 16 :: 13 :: 15 :: 12 :: 11 :: 7 :: 6 :: 5 :: 2 :: 4 :: 3 :: 8 :: 10 :: 9 :: 14 :: 22 :: 23 :: 21 :: 18 :: 20 :: 19 :: 33 :: 29 :: 28 :: 32 :: 31 :: []) :: (36 :: 40 :: 35 :: 30 :: 27 :: 34 :: 26 :: 17 :: 1 :: 25 :: 0 :: 24 :: 16 :: 13 :: 15 :: 12 :: 11 :: 7 :: 6 :: 5 :: 2 :: 4 :: 3 :: 8 :: 10 :: 9 :: 14 :: 22 :: 23 :: 21 :: 18 :: 20 :: 19 :: 33 :: 29 :: 28 :: 32 :: 31 :: 38 :: 39 :: 37 :: []) :: (41 :: 36 :: 40 :: 35 :: 30 :: 27 :: 34 :: 26 :: 17 :: 1 :: 25 :: 0 :: 24 :: 16 :: 13 :: 15 :: 12 :: 11 :: 7 :: 6 :: 5 :: 2 :: 4 :: 3 :: 8 :: 10 :: 9 :: 14 :: 22 :: 23 :: 21 :: 18 :: 20 :: 19 :: 33 :: 29 :: 28 :: 32 :: 31 :: 38 :: 39 :: 37 :: []) :: (42 :: 41 :: 36 :: 40 :: 35 :: 30 :: 27 :: 34 :: 26 :: 17 :: 1 :: 25 :: 0 :: 24 :: 16 :: 13 :: 15 :: 12 :: 11 :: 7 :: 6 :: 5 :: 2 :: 4 :: 3 :: 8 :: 10 :: 9 :: 14 :: 22 :: 23 :: 21 :: 18 :: 20 :: 19 :: 33 :: 29 :: 28 :: 32 :: 31 :: 38 :: 39 :: 37 :: []) :: (42 :: 41 :: 36 :: 40 :: 35 :: 30 :: 27 :: 34 :: 26 :: 17 :: 1 :: 25 :: 0 :: 24 :: 16 :: 13 :: 15 :: 12 :: 11 :: 7 :: 6 :: 5 :: 2 :: 4 :: 3 :: 8 :: 10 :: 9 :: 14 :: 22 :: 23 :: 21 :: 18 :: 20 :: 19 :: 33 :: 29 :: 28 :: 32 :: 31 :: 38 :: 39 :: 37 :: []) :: (43 :: 44 :: 42 :: 41 :: 36 :: 40 :: 35 :: 30 :: 27 :: 34 :: 26 :: 17 :: 1 :: 25 :: 0 :: 24 :: 16 :: 13 :: 15 :: 12 :: 11 :: 7 :: 6 :: 5 :: 2 :: 4 :: 3 :: 8 :: 10 :: 9 :: 14 :: 22 :: 23 :: 21 :: 18 :: 20 :: 19 :: 33 :: 29 :: 28 :: 32 :: 31 :: 38 :: 39 :: 37 :: []) :: (45 :: 42 :: 43 :: 44 :: 41 :: 36 :: 40 :: 35 :: 30 :: 27 :: 34 :: 26 :: 17 :: 1 :: 25 :: 0 :: 24 :: 16 :: 13 :: 15 :: 12 :: 11 :: 7 :: 6 :: 5 :: 2 :: 4 :: 3 :: 8 :: 10 :: 9 :: 14 :: 22 :: 23 :: 21 :: 18 :: 20 :: 19 :: 33 :: 29 :: 28 :: 32 :: 31 :: 38 :: 39 :: 37 :: []) :: (42 :: 46 :: 41 :: 36 :: 40 :: 35 :: 30 :: 27 :: 34 :: 26 :: 17 :: 1 :: 25 :: 0 :: 24 :: 16 :: 13 :: 15 :: 12 :: 11 :: 7 :: 6 :: 5 :: 2 :: 4 :: 3 :: 8 :: 10 :: 9 :: 14 :: 22 :: 23 :: 21 :: 18 :: 20 :: 19 :: 33 :: 29 :: 28 :: 32 :: 31 :: 38 :: 39 :: 37 :: 45 :: 43 :: 44 :: []) :: [])
def fo35f_kill : List (List Nat) := ([] :: [] :: [] :: [] :: [] :: [] :: [] :: [] :: [] :: [] :: [] :: [] :: [] :: [] :: [] :: [] :: [] :: [] :: [] :: [] :: [] :: [] :: [] :: [] :: [] :: [] :: [] :: [] :: [] :: [] :: [] :: [] :: [] :: [] :: [] :: [] :: [] :: [] :: [] :: [] :: [] :: [] :: [] :: [] :: [] :: [] :: [] :: [] :: [])
def fo35f_uses : List (List Nat) := ([] :: [] :: [] :: [] :: [] :: [] :: [] :: [] :: [] :: [] :: [] :: [] :: [] :: [] :: [] :: [] :: [] :: [] :: [] :: [] :: [] :: [] :: [] :: [] :: [] :: [] :: [] :: [] :: [] :: [] :: [] :: [] :: [] :: [] :: [] :: [] :: [] :: [] :: [] :: [] :: [] :: [] :: [] :: [] :: [] :: [] :: [] :: [] :: [])
noncomputable def fo35f_code : Code := ((Try.f4.body.bind (codeRegion 35)).getD .skip)
set_option maxRecDepth 100000 in
set_option maxHeartbeats 4000000 in
theorem fo35f_in (B G cw bd rb no who at_ : Nat) (Aw : Option Addr) (vm va vl : Value) (ys wt ask : List Nat) (gs : List (Nat × Nat × Nat)) (w0 : World) (hs : ∀ w, Rd .u32 w (.slice Aw 0 cw) (nats wt) → Rd .u32 w va (nats ask) → Calls Try.prog 19 #[.slice Aw 0 cw, va] w (SaysF (.bool true) w))  (u1 u2 u3 u4 u5 u6 u7 u8 u10 u12 u13 u14 u15 u16 u17 u23 u24 u25 u26 u27 u28 u29 u30 u31 u32 u33 u34 u35 u36 u37 u38 u39 u40 u41 u42 u43 u44 u45 u46 u47 u48 u49 u50 u51 u52 u53 u54 u55 u56 u57 u58 u59 u60 u61 u62 u63 u64 u65 u66 u67 u68 u69 u70 u71 u72 u73 u74 u75 u76 u77 u78 u79 u80 u81 u82 u83 u84 u85 u86 u87 u88 u89 u90 u91 u92 u93 u94 u95 u96 u97 u98 u99 u100 u101 u102 u103 u104 u105 u106 u107 u108 u109 u110 u111 u112 u113 u114 u115 u116 u117 u118 u119 u120 u121 u122 u123 u124 u125 u126 u127 u128 u129 u130 u131 u132 u133 u134 u135 u136 u137 u138 u139 u140 u141 u142 u143 u144 u145 u146 u147 u148 u149 u150 u151 u152 u153 u154 u155 u156 u157 u158 u159 u160 u161 u162 u163 u164 u165 u166 u167 u168 u169 u170 u171 u172 u173 u174 u175 u176 u177 u178 u179 u180 u181 u182 u183 u184 u185 u186 u187 u188 u189 u190 u191 u192 u193 u194 u195 u196 u197 u198 u199 u200 u201 u202 u203 u204 u205 u206 u207 u208 u209 u210 u211 u212 u213 u214 u215 u216 u217 u218 u219 u220 u221 u222 u223 u224 u225 u226 u227 u228 : Value) (w : World) (hG : Fo B vm (.slice Aw 0 cw) va vl ys wt ask gs rb no who at_ w0 w) :
    Code.wp Try.prog fo35f_code (fun e a w' => ∃ y156 y157 y158 y159 y160 y161 y162 y163 y164 y165 y166 y167 y168 y169 y170 y171 y172 y173 y174 y175 y176 y177 y178 y179 y180 y181 y182 y183 y184 y185 y186 y187 y188 y189 y190 y191 y192 y193 y194 y195 y196 y197 y198 y199 y200 y201 y202 : Value, a = ⟨(List.toArray (.int .i64 (bd : Int) :: u1 :: u2 :: u3 :: u4 :: u5 :: u6 :: u7 :: u8 :: va :: u10 :: .int .i64 (G : Int) :: u12 :: u13 :: u14 :: u15 :: u16 :: u17 :: vl :: .pointer (some ⟨rb, 0, none⟩) :: .bool false :: .slice Aw 0 cw :: vm :: u23 :: u24 :: u25 :: u26 :: u27 :: u28 :: u29 :: u30 :: u31 :: u32 :: u33 :: u34 :: u35 :: u36 :: u37 :: u38 :: u39 :: u40 :: u41 :: u42 :: u43 :: u44 :: u45 :: u46 :: u47 :: u48 :: u49 :: u50 :: u51 :: u52 :: u53 :: u54 :: u55 :: u56 :: u57 :: u58 :: u59 :: u60 :: u61 :: u62 :: u63 :: u64 :: u65 :: u66 :: u67 :: u68 :: u69 :: u70 :: u71 :: u72 :: u73 :: u74 :: u75 :: u76 :: u77 :: u78 :: u79 :: u80 :: u81 :: u82 :: u83 :: u84 :: u85 :: u86 :: u87 :: u88 :: u89 :: u90 :: u91 :: u92 :: u93 :: u94 :: u95 :: u96 :: u97 :: u98 :: u99 :: u100 :: u101 :: u102 :: u103 :: u104 :: u105 :: u106 :: u107 :: u108 :: u109 :: u110 :: u111 :: u112 :: u113 :: u114 :: u115 :: u116 :: u117 :: u118 :: u119 :: u120 :: u121 :: u122 :: u123 :: u124 :: u125 :: u126 :: u127 :: u128 :: u129 :: u130 :: u131 :: u132 :: u133 :: u134 :: u135 :: u136 :: u137 :: u138 :: u139 :: u140 :: u141 :: u142 :: u143 :: u144 :: u145 :: u146 :: u147 :: u148 :: u149 :: u150 :: u151 :: u152 :: u153 :: u154 :: u155 :: y156 :: y157 :: y158 :: y159 :: y160 :: y161 :: y162 :: y163 :: y164 :: y165 :: y166 :: y167 :: y168 :: y169 :: y170 :: y171 :: y172 :: y173 :: y174 :: y175 :: y176 :: y177 :: y178 :: y179 :: y180 :: y181 :: y182 :: y183 :: y184 :: y185 :: y186 :: y187 :: y188 :: y189 :: y190 :: y191 :: y192 :: y193 :: y194 :: y195 :: y196 :: y197 :: y198 :: y199 :: y200 :: y201 :: y202 :: (.bool false) :: u204 :: u205 :: u206 :: u207 :: u208 :: u209 :: u210 :: u211 :: u212 :: u213 :: u214 :: u215 :: u216 :: u217 :: u218 :: u219 :: u220 :: u221 :: u222 :: u223 :: u224 :: u225 :: u226 :: u227 :: u228 :: [])), []⟩ ∧ e = .normal ∧ (Only (fun _ => False) w0 w')) ⟨(List.toArray (.int .i64 (bd : Int) :: u1 :: u2 :: u3 :: u4 :: u5 :: u6 :: u7 :: u8 :: va :: u10 :: .int .i64 (G : Int) :: u12 :: u13 :: u14 :: u15 :: u16 :: u17 :: vl :: .pointer (some ⟨rb, 0, none⟩) :: .bool false :: .slice Aw 0 cw :: vm :: u23 :: u24 :: u25 :: u26 :: u27 :: u28 :: u29 :: u30 :: u31 :: u32 :: u33 :: u34 :: u35 :: u36 :: u37 :: u38 :: u39 :: u40 :: u41 :: u42 :: u43 :: u44 :: u45 :: u46 :: u47 :: u48 :: u49 :: u50 :: u51 :: u52 :: u53 :: u54 :: u55 :: u56 :: u57 :: u58 :: u59 :: u60 :: u61 :: u62 :: u63 :: u64 :: u65 :: u66 :: u67 :: u68 :: u69 :: u70 :: u71 :: u72 :: u73 :: u74 :: u75 :: u76 :: u77 :: u78 :: u79 :: u80 :: u81 :: u82 :: u83 :: u84 :: u85 :: u86 :: u87 :: u88 :: u89 :: u90 :: u91 :: u92 :: u93 :: u94 :: u95 :: u96 :: u97 :: u98 :: u99 :: u100 :: u101 :: u102 :: u103 :: u104 :: u105 :: u106 :: u107 :: u108 :: u109 :: u110 :: u111 :: u112 :: u113 :: u114 :: u115 :: u116 :: u117 :: u118 :: u119 :: u120 :: u121 :: u122 :: u123 :: u124 :: u125 :: u126 :: u127 :: u128 :: u129 :: u130 :: u131 :: u132 :: u133 :: u134 :: u135 :: u136 :: u137 :: u138 :: u139 :: u140 :: u141 :: u142 :: u143 :: u144 :: u145 :: u146 :: u147 :: u148 :: u149 :: u150 :: u151 :: u152 :: u153 :: u154 :: u155 :: u156 :: u157 :: u158 :: u159 :: u160 :: u161 :: u162 :: u163 :: u164 :: u165 :: u166 :: u167 :: u168 :: u169 :: u170 :: u171 :: u172 :: u173 :: u174 :: u175 :: u176 :: u177 :: u178 :: u179 :: u180 :: u181 :: u182 :: u183 :: u184 :: u185 :: u186 :: u187 :: u188 :: u189 :: u190 :: u191 :: u192 :: u193 :: u194 :: u195 :: u196 :: u197 :: u198 :: u199 :: u200 :: u201 :: u202 :: u203 :: u204 :: u205 :: u206 :: u207 :: u208 :: u209 :: u210 :: u211 :: u212 :: u213 :: u214 :: u215 :: u216 :: u217 :: u218 :: u219 :: u220 :: u221 :: u222 :: u223 :: u224 :: u225 :: u226 :: u227 :: u228 :: [])), []⟩ w := by
  conv => arg 2; whnf
  have Hs := Lib.hid hs
  clear hs
  refine wp_region_posts fo35f_A [45] [] fo35f_kill fo35f_uses [] [] [] []
      (some ?v0 :: some ?v1 :: some undef :: some undef :: some undef :: some undef :: some undef :: some undef :: some undef :: some undef :: some undef :: some undef :: some undef :: some undef :: some undef :: some undef :: some undef :: some undef :: some undef :: some undef :: some undef :: some undef :: some undef :: some undef :: some undef :: some undef :: some ?v26 :: some ?v27 :: some ?v28 :: some ?v29 :: some ?v30 :: some ?v31 :: some ?v32 :: some ?v33 :: some ?v34 :: some ?v35 :: some ?v36 :: some ?v37 :: some ?v38 :: some ?v39 :: some ?v40 :: some ?v41 :: some ?v42 :: some ?v43 :: some ?v44 :: some ((.bool true)) :: some ?v46 :: some ?v47 :: [])
      ?T (fun wx => Fo B vm (.slice Aw 0 cw) va vl ys wt ask gs rb no who at_ w0 wx) ?W ?E (by kernel_rfl) (by kernel_rfl) (by kernel_rfl) (fun x => ?hT) ?hF ?hini (Reg.all_ops ?runs) ?pres ?fin
  case W => exact fun j x w' => True
  case E => exact fun i wx wy => Only (fun _ => False) wx wy
  case hT =>
    simp only [Reg.fillV, Act.put, List.setIfInBounds_toArray, List.set_cons_zero, List.set_cons_succ]
    rfl
  case runs =>
    refine And.intro ?_ ?_
    · refine Reg.ob_pure (fun _ => rfl) rfl rfl rfl rfl (fun x w1 hF => ?_)
      have _h := hF
      go_simp
      with_reducible rfl
    refine And.intro ?_ ?_
    · refine Reg.ob_pure (fun _ => rfl) rfl rfl rfl rfl (fun x w1 hF => ?_)
      have _h := hF
      go_simp
      with_reducible rfl
    refine And.intro ?_ ?_
    · exact Reg.ob_skip (fun _ => rfl) rfl rfl rfl
    refine And.intro ?_ ?_
    · exact Reg.ob_skip (fun _ => rfl) rfl rfl rfl
    refine And.intro ?_ ?_
    · exact Reg.ob_skip (fun _ => rfl) rfl rfl rfl
    refine And.intro ?_ ?_
    · exact Reg.ob_skip (fun _ => rfl) rfl rfl rfl
    refine And.intro ?_ ?_
    · exact Reg.ob_skip (fun _ => rfl) rfl rfl rfl
    refine And.intro ?_ ?_
    · exact Reg.ob_skip (fun _ => rfl) rfl rfl rfl
    refine And.intro ?_ ?_
    · exact Reg.ob_skip (fun _ => rfl) rfl rfl rfl
    refine And.intro ?_ ?_
    · exact Reg.ob_skip (fun _ => rfl) rfl rfl rfl
    refine And.intro ?_ ?_
    · exact Reg.ob_skip (fun _ => rfl) rfl rfl rfl
    refine And.intro ?_ ?_
    · exact Reg.ob_skip (fun _ => rfl) rfl rfl rfl
    refine And.intro ?_ ?_
    · exact Reg.ob_skip (fun _ => rfl) rfl rfl rfl
    refine And.intro ?_ ?_
    · exact Reg.ob_skip (fun _ => rfl) rfl rfl rfl
    refine And.intro ?_ ?_
    · exact Reg.ob_skip (fun _ => rfl) rfl rfl rfl
    refine And.intro ?_ ?_
    · exact Reg.ob_skip (fun _ => rfl) rfl rfl rfl
    refine And.intro ?_ ?_
    · exact Reg.ob_skip (fun _ => rfl) rfl rfl rfl
    refine And.intro ?_ ?_
    · exact Reg.ob_skip (fun _ => rfl) rfl rfl rfl
    refine And.intro ?_ ?_
    · exact Reg.ob_skip (fun _ => rfl) rfl rfl rfl
    refine And.intro ?_ ?_
    · exact Reg.ob_skip (fun _ => rfl) rfl rfl rfl
    refine And.intro ?_ ?_
    · exact Reg.ob_skip (fun _ => rfl) rfl rfl rfl
    refine And.intro ?_ ?_
    · exact Reg.ob_skip (fun _ => rfl) rfl rfl rfl
    refine And.intro ?_ ?_
    · exact Reg.ob_skip (fun _ => rfl) rfl rfl rfl
    refine And.intro ?_ ?_
    · exact Reg.ob_skip (fun _ => rfl) rfl rfl rfl
    refine And.intro ?_ ?_
    · exact Reg.ob_skip (fun _ => rfl) rfl rfl rfl
    refine And.intro ?_ ?_
    · exact Reg.ob_skip (fun _ => rfl) rfl rfl rfl
    refine And.intro ?_ ?_
    · refine Reg.ob_pure (fun _ => rfl) rfl rfl rfl rfl (fun x w1 hF => ?_)
      have _h := hF
      go_simp
      with_reducible rfl
    refine And.intro ?_ ?_
    · refine Reg.ob_pure (fun _ => rfl) rfl rfl rfl rfl (fun x w1 hF => ?_)
      have _h := hF
      go_simp
      with_reducible rfl
    refine And.intro ?_ ?_
    · refine Reg.ob_pure (fun _ => rfl) rfl rfl rfl rfl (fun x w1 hF => ?_)
      have _h := hF
      go_simp
      with_reducible rfl
    refine And.intro ?_ ?_
    · refine Reg.ob_pure (fun _ => rfl) rfl rfl rfl rfl (fun x w1 hF => ?_)
      have _h := hF
      go_simp
      with_reducible rfl
    refine And.intro ?_ ?_
    · refine Reg.ob_pure (fun _ => rfl) rfl rfl rfl rfl (fun x w1 hF => ?_)
      have _h := hF
      go_simp
      with_reducible rfl
    refine And.intro ?_ ?_
    · refine Reg.ob_pure (fun _ => rfl) rfl rfl rfl rfl (fun x w1 hF => ?_)
      have _h := hF
      go_simp
      with_reducible rfl
    refine And.intro ?_ ?_
    · refine Reg.ob_pure (fun _ => rfl) rfl rfl rfl rfl (fun x w1 hF => ?_)
      have _h := hF
      go_simp
      with_reducible rfl
    refine And.intro ?_ ?_
    · refine Reg.ob_pure (fun _ => rfl) rfl rfl rfl rfl (fun x w1 hF => ?_)
      have _h := hF
      go_simp
      with_reducible rfl
    refine And.intro ?_ ?_
    · refine Reg.ob_pure (fun _ => rfl) rfl rfl rfl rfl (fun x w1 hF => ?_)
      have _h := hF
      go_simp
      with_reducible rfl
    refine And.intro ?_ ?_
    · refine Reg.ob_pure (fun _ => rfl) rfl rfl rfl rfl (fun x w1 hF => ?_)
      have _h := hF
      go_simp
      with_reducible rfl
    refine And.intro ?_ ?_
    · refine Reg.ob_pure (fun _ => rfl) rfl rfl rfl rfl (fun x w1 hF => ?_)
      have _h := hF
      go_simp
      with_reducible rfl
    refine And.intro ?_ ?_
    · refine Reg.ob_pure (fun _ => rfl) rfl rfl rfl rfl (fun x w1 hF => ?_)
      have _h := hF
      go_simp
      with_reducible rfl
    refine And.intro ?_ ?_
    · refine Reg.ob_pure (fun _ => rfl) rfl rfl rfl rfl (fun x w1 hF => ?_)
      have _h := hF
      go_simp
      with_reducible rfl
    refine And.intro ?_ ?_
    · refine Reg.ob_pure (fun _ => rfl) rfl rfl rfl rfl (fun x w1 hF => ?_)
      have _h := hF
      go_simp
      with_reducible rfl
    refine And.intro ?_ ?_
    · refine Reg.ob_pure (fun _ => rfl) rfl rfl rfl rfl (fun x w1 hF => ?_)
      have _h := hF
      go_simp
      with_reducible rfl
    refine And.intro ?_ ?_
    · refine Reg.ob_pure (fun _ => rfl) rfl rfl rfl rfl (fun x w1 hF => ?_)
      have _h := hF
      go_simp
      with_reducible rfl
    refine And.intro ?_ ?_
    · refine Reg.ob_pure (fun _ => rfl) rfl rfl rfl rfl (fun x w1 hF => ?_)
      have _h := hF
      go_simp
      with_reducible rfl
    refine And.intro ?_ ?_
    · refine Reg.ob_pure (fun _ => rfl) rfl rfl rfl rfl (fun x w1 hF => ?_)
      have _h := hF
      go_simp
      with_reducible rfl
    refine And.intro ?_ ?_
    · refine Reg.ob_pure (fun _ => rfl) rfl rfl rfl rfl (fun x w1 hF => ?_)
      have _h := hF
      go_simp
      with_reducible rfl
    refine And.intro ?_ ?_
    · refine Reg.ob_known (fun _ => rfl) rfl rfl (fun x w1 hF hU K hK => ?_)
      replace hF := hF rfl
      go_simp
      refine (Hs.out w1 hF.w hF.a).mono ?_
      rintro e w5 ⟨rfl, ho⟩
      exact hK w5 (fun _ _ _ => hF.go ho) ho
    refine And.intro ?_ ?_
    · refine Reg.ob_pure (fun _ => rfl) rfl rfl rfl rfl (fun x w1 hF => ?_)
      have _h := hF
      go_simp
      with_reducible rfl
    refine And.intro ?_ ?_
    · refine Reg.ob_pure (fun _ => rfl) rfl rfl rfl rfl (fun x w1 hF => ?_)
      have _h := hF
      go_simp
      with_reducible rfl
    exact trivial
  case hF =>
    exact hG.go ((Only.refl _ _).drewN 1)
  case hini =>
    exact trivial
  case pres =>
    intro i hi j hj
    simp at hj
  case fin =>
    rintro x w9 hF hU
    repeat apply Exists.intro
    exact ⟨rfl, rfl, (hF rfl).pure⟩

set_option maxRecDepth 100000 in
set_option maxHeartbeats 4000000 in
theorem fo35f (B G cw bd rb no who at_ : Nat) (Aw : Option Addr) (vm va vl : Value) (ys wt ask : List Nat) (gs : List (Nat × Nat × Nat)) (w0 : World) (hs : ∀ w, Rd .u32 w (.slice Aw 0 cw) (nats wt) → Rd .u32 w va (nats ask) → Calls Try.prog 19 #[.slice Aw 0 cw, va] w (SaysF (.bool true) w))  (u1 u2 u3 u4 u5 u6 u7 u8 u10 u12 u13 u14 u15 u16 u17 u23 u24 u25 u26 u27 u28 u29 u30 u31 u32 u33 u34 u35 u36 u37 u38 u39 u40 u41 u42 u43 u44 u45 u46 u47 u48 u49 u50 u51 u52 u53 u54 u55 u56 u57 u58 u59 u60 u61 u62 u63 u64 u65 u66 u67 u68 u69 u70 u71 u72 u73 u74 u75 u76 u77 u78 u79 u80 u81 u82 u83 u84 u85 u86 u87 u88 u89 u90 u91 u92 u93 u94 u95 u96 u97 u98 u99 u100 u101 u102 u103 u104 u105 u106 u107 u108 u109 u110 u111 u112 u113 u114 u115 u116 u117 u118 u119 u120 u121 u122 u123 u124 u125 u126 u127 u128 u129 u130 u131 u132 u133 u134 u135 u136 u137 u138 u139 u140 u141 u142 u143 u144 u145 u146 u147 u148 u149 u150 u151 u152 u153 u154 u155 u156 u157 u158 u159 u160 u161 u162 u163 u164 u165 u166 u167 u168 u169 u170 u171 u172 u173 u174 u175 u176 u177 u178 u179 u180 u181 u182 u183 u184 u185 u186 u187 u188 u189 u190 u191 u192 u193 u194 u195 u196 u197 u198 u199 u200 u201 u202 u203 u204 u205 u206 u207 u208 u209 u210 u211 u212 u213 u214 u215 u216 u217 u218 u219 u220 u221 u222 u223 u224 u225 u226 u227 u228 : Value) (Q : Exit → Act → World → Prop) (w : World) (hG : Fo B vm (.slice Aw 0 cw) va vl ys wt ask gs rb no who at_ w0 w)
    (hend : ∀ (y156 y157 y158 y159 y160 y161 y162 y163 y164 y165 y166 y167 y168 y169 y170 y171 y172 y173 y174 y175 y176 y177 y178 y179 y180 y181 y182 y183 y184 y185 y186 y187 y188 y189 y190 y191 y192 y193 y194 y195 y196 y197 y198 y199 y200 y201 y202 : Value) (w' : World), (Only (fun _ => False) w0 w') → Q .normal ⟨(List.toArray (.int .i64 (bd : Int) :: u1 :: u2 :: u3 :: u4 :: u5 :: u6 :: u7 :: u8 :: va :: u10 :: .int .i64 (G : Int) :: u12 :: u13 :: u14 :: u15 :: u16 :: u17 :: vl :: .pointer (some ⟨rb, 0, none⟩) :: .bool false :: .slice Aw 0 cw :: vm :: u23 :: u24 :: u25 :: u26 :: u27 :: u28 :: u29 :: u30 :: u31 :: u32 :: u33 :: u34 :: u35 :: u36 :: u37 :: u38 :: u39 :: u40 :: u41 :: u42 :: u43 :: u44 :: u45 :: u46 :: u47 :: u48 :: u49 :: u50 :: u51 :: u52 :: u53 :: u54 :: u55 :: u56 :: u57 :: u58 :: u59 :: u60 :: u61 :: u62 :: u63 :: u64 :: u65 :: u66 :: u67 :: u68 :: u69 :: u70 :: u71 :: u72 :: u73 :: u74 :: u75 :: u76 :: u77 :: u78 :: u79 :: u80 :: u81 :: u82 :: u83 :: u84 :: u85 :: u86 :: u87 :: u88 :: u89 :: u90 :: u91 :: u92 :: u93 :: u94 :: u95 :: u96 :: u97 :: u98 :: u99 :: u100 :: u101 :: u102 :: u103 :: u104 :: u105 :: u106 :: u107 :: u108 :: u109 :: u110 :: u111 :: u112 :: u113 :: u114 :: u115 :: u116 :: u117 :: u118 :: u119 :: u120 :: u121 :: u122 :: u123 :: u124 :: u125 :: u126 :: u127 :: u128 :: u129 :: u130 :: u131 :: u132 :: u133 :: u134 :: u135 :: u136 :: u137 :: u138 :: u139 :: u140 :: u141 :: u142 :: u143 :: u144 :: u145 :: u146 :: u147 :: u148 :: u149 :: u150 :: u151 :: u152 :: u153 :: u154 :: u155 :: y156 :: y157 :: y158 :: y159 :: y160 :: y161 :: y162 :: y163 :: y164 :: y165 :: y166 :: y167 :: y168 :: y169 :: y170 :: y171 :: y172 :: y173 :: y174 :: y175 :: y176 :: y177 :: y178 :: y179 :: y180 :: y181 :: y182 :: y183 :: y184 :: y185 :: y186 :: y187 :: y188 :: y189 :: y190 :: y191 :: y192 :: y193 :: y194 :: y195 :: y196 :: y197 :: y198 :: y199 :: y200 :: y201 :: y202 :: (.bool false) :: u204 :: u205 :: u206 :: u207 :: u208 :: u209 :: u210 :: u211 :: u212 :: u213 :: u214 :: u215 :: u216 :: u217 :: u218 :: u219 :: u220 :: u221 :: u222 :: u223 :: u224 :: u225 :: u226 :: u227 :: u228 :: [])), []⟩ w') :
    Code.wp Try.prog fo35f_code Q ⟨(List.toArray (.int .i64 (bd : Int) :: u1 :: u2 :: u3 :: u4 :: u5 :: u6 :: u7 :: u8 :: va :: u10 :: .int .i64 (G : Int) :: u12 :: u13 :: u14 :: u15 :: u16 :: u17 :: vl :: .pointer (some ⟨rb, 0, none⟩) :: .bool false :: .slice Aw 0 cw :: vm :: u23 :: u24 :: u25 :: u26 :: u27 :: u28 :: u29 :: u30 :: u31 :: u32 :: u33 :: u34 :: u35 :: u36 :: u37 :: u38 :: u39 :: u40 :: u41 :: u42 :: u43 :: u44 :: u45 :: u46 :: u47 :: u48 :: u49 :: u50 :: u51 :: u52 :: u53 :: u54 :: u55 :: u56 :: u57 :: u58 :: u59 :: u60 :: u61 :: u62 :: u63 :: u64 :: u65 :: u66 :: u67 :: u68 :: u69 :: u70 :: u71 :: u72 :: u73 :: u74 :: u75 :: u76 :: u77 :: u78 :: u79 :: u80 :: u81 :: u82 :: u83 :: u84 :: u85 :: u86 :: u87 :: u88 :: u89 :: u90 :: u91 :: u92 :: u93 :: u94 :: u95 :: u96 :: u97 :: u98 :: u99 :: u100 :: u101 :: u102 :: u103 :: u104 :: u105 :: u106 :: u107 :: u108 :: u109 :: u110 :: u111 :: u112 :: u113 :: u114 :: u115 :: u116 :: u117 :: u118 :: u119 :: u120 :: u121 :: u122 :: u123 :: u124 :: u125 :: u126 :: u127 :: u128 :: u129 :: u130 :: u131 :: u132 :: u133 :: u134 :: u135 :: u136 :: u137 :: u138 :: u139 :: u140 :: u141 :: u142 :: u143 :: u144 :: u145 :: u146 :: u147 :: u148 :: u149 :: u150 :: u151 :: u152 :: u153 :: u154 :: u155 :: u156 :: u157 :: u158 :: u159 :: u160 :: u161 :: u162 :: u163 :: u164 :: u165 :: u166 :: u167 :: u168 :: u169 :: u170 :: u171 :: u172 :: u173 :: u174 :: u175 :: u176 :: u177 :: u178 :: u179 :: u180 :: u181 :: u182 :: u183 :: u184 :: u185 :: u186 :: u187 :: u188 :: u189 :: u190 :: u191 :: u192 :: u193 :: u194 :: u195 :: u196 :: u197 :: u198 :: u199 :: u200 :: u201 :: u202 :: u203 :: u204 :: u205 :: u206 :: u207 :: u208 :: u209 :: u210 :: u211 :: u212 :: u213 :: u214 :: u215 :: u216 :: u217 :: u218 :: u219 :: u220 :: u221 :: u222 :: u223 :: u224 :: u225 :: u226 :: u227 :: u228 :: [])), []⟩ w := by
  refine wp_mono (fo35f_in B G cw bd rb no who at_ Aw vm va vl ys wt ask gs w0 hs _ _ _ _ _ _ _ _ _ _ _ _ _ _ _ _ _ _ _ _ _ _ _ _ _ _ _ _ _ _ _ _ _ _ _ _ _ _ _ _ _ _ _ _ _ _ _ _ _ _ _ _ _ _ _ _ _ _ _ _ _ _ _ _ _ _ _ _ _ _ _ _ _ _ _ _ _ _ _ _ _ _ _ _ _ _ _ _ _ _ _ _ _ _ _ _ _ _ _ _ _ _ _ _ _ _ _ _ _ _ _ _ _ _ _ _ _ _ _ _ _ _ _ _ _ _ _ _ _ _ _ _ _ _ _ _ _ _ _ _ _ _ _ _ _ _ _ _ _ _ _ _ _ _ _ _ _ _ _ _ _ _ _ _ _ _ _ _ _ _ _ _ _ _ _ _ _ _ _ _ _ _ _ _ _ _ _ _ _ _ _ _ _ _ _ _ _ _ _ _ _ _ _ _ _ _ _ _ _ _ _ _ _ _ _ _ _ _ _ _ _ w hG) ?_
  rintro e a w' h
  obtain ⟨y156, h⟩ := h
  obtain ⟨y157, h⟩ := h
  obtain ⟨y158, h⟩ := h
  obtain ⟨y159, h⟩ := h
  obtain ⟨y160, h⟩ := h
  obtain ⟨y161, h⟩ := h
  obtain ⟨y162, h⟩ := h
  obtain ⟨y163, h⟩ := h
  obtain ⟨y164, h⟩ := h
  obtain ⟨y165, h⟩ := h
  obtain ⟨y166, h⟩ := h
  obtain ⟨y167, h⟩ := h
  obtain ⟨y168, h⟩ := h
  obtain ⟨y169, h⟩ := h
  obtain ⟨y170, h⟩ := h
  obtain ⟨y171, h⟩ := h
  obtain ⟨y172, h⟩ := h
  obtain ⟨y173, h⟩ := h
  obtain ⟨y174, h⟩ := h
  obtain ⟨y175, h⟩ := h
  obtain ⟨y176, h⟩ := h
  obtain ⟨y177, h⟩ := h
  obtain ⟨y178, h⟩ := h
  obtain ⟨y179, h⟩ := h
  obtain ⟨y180, h⟩ := h
  obtain ⟨y181, h⟩ := h
  obtain ⟨y182, h⟩ := h
  obtain ⟨y183, h⟩ := h
  obtain ⟨y184, h⟩ := h
  obtain ⟨y185, h⟩ := h
  obtain ⟨y186, h⟩ := h
  obtain ⟨y187, h⟩ := h
  obtain ⟨y188, h⟩ := h
  obtain ⟨y189, h⟩ := h
  obtain ⟨y190, h⟩ := h
  obtain ⟨y191, h⟩ := h
  obtain ⟨y192, h⟩ := h
  obtain ⟨y193, h⟩ := h
  obtain ⟨y194, h⟩ := h
  obtain ⟨y195, h⟩ := h
  obtain ⟨y196, h⟩ := h
  obtain ⟨y197, h⟩ := h
  obtain ⟨y198, h⟩ := h
  obtain ⟨y199, h⟩ := h
  obtain ⟨y200, h⟩ := h
  obtain ⟨y201, h⟩ := h
  obtain ⟨y202, h⟩ := h
  obtain ⟨h, rfl, hq⟩ := h
  subst h
  exact hend y156 y157 y158 y159 y160 y161 y162 y163 y164 y165 y166 y167 y168 y169 y170 y171 y172 y173 y174 y175 y176 y177 y178 y179 y180 y181 y182 y183 y184 y185 y186 y187 y188 y189 y190 y191 y192 y193 y194 y195 y196 y197 y198 y199 y200 y201 y202 w' hq
end Go.Proofs.Ytelfeedaadkhnaa
