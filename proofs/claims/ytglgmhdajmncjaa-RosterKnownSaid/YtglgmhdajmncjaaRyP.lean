/- roster: the regions of the law's is that draw their order. Conditions: as each says. -/
import Derived.Test.YtglgmhdajmncjaaRyN
set_option linter.unusedVariables false
set_option linter.unusedSimpArgs false
namespace Go.Proofs.Ytglgmhdajmncjaa
open Go Go.RowKit

theorem okb {r : Result Bool} {v : Bool} {w : World} (h : (r.andThen fun b w' => .ok (Value.bool b) w') = .ok (.bool v) w) : r = .ok v w := by
  cases r <;> simp_all [Result.andThen]
theorem eq_rm (a : Mb) (w : World) : (binOp .eql 65 (mbV a) (mbV a)).run Try.prog w = .ok (.bool true) w := by
  rw [run_eql_struct, run_equalIn_agg w 9999 _ _ _ (by kernel_rfl) (by kernel_rfl)]
  simp only [Program.fieldsOf, Try.underlying65]
  simp [Op.eqFields, go_sem]
theorem run_ne_rm {o : Oper} {ρ : Operand → Value} (w : World) (x y : Operand) (a : Mb)
    (ho : o.op = .binOp .neq 65 x y 65) (hx : ρ x = mbV a) (hy : ρ y = mbV a) :
    (execOp ρ o).run Try.prog w = .ok (.value (.bool false)) w := by
  have h := eq_rm a w
  rw [run_eql_struct] at h
  have hn : (binOp .neq 65 (mbV a) (mbV a)).run Try.prog w = .ok (.bool false) w := by
    rw [run_neq_struct, okb h]
    rfl
  unfold execOp
  simp only [ho, hx, hy, Sem.run_bind, Sem.run_pure, Result.andThen_ok, run_eqGuard_agg (P := Try.prog) w .neq 65 x y _ _ (by kernel_rfl), hn]
abbrev mbA (m : Mb) : Array Value := #[.int .i64 m.id, .int .u32 (m.co : Int), .int .u32 (m.ca : Int), .bool m.mo]
/-- What is compared, and lies still. -/
structure Fi (most : Int) (A : Option Addr) (N c : Nat) (x1 x2 : Mb) (B b mb : Nat) (r : Ro) (vl : Value) (xb m9 m11 m13 m16 : Nat) (w0 wx : World) : Prop where
  ror : Ror wx B b mb r vl
  io : Is wx xb 54 #[.int .i64 most, .slice A N c]
  i9 : Is wx m9 58 (mbA x1)
  i11 : Is wx m11 65 (mbA x1)
  i13 : Is wx m13 58 (mbA x2)
  i16 : Is wx m16 65 (mbA x2)
  only : Only (fun _ => False) w0 wx
theorem Fi.go {most : Int} {A : Option Addr} {N c : Nat} {x1 x2 : Mb} {B b mb : Nat} {r : Ro} {vl : Value} {xb m9 m11 m13 m16 : Nat} {w0 wx wy : World} (h : Fi most A N c x1 x2 B b mb r vl xb m9 m11 m13 m16 w0 wx) (ho : Only (fun _ => False) wx wy) : Fi most A N c x1 x2 B b mb r vl xb m9 m11 m13 m16 w0 wy :=
  ⟨h.ror.pure ho, h.io.only ho (by simp), h.i9.only ho (by simp), h.i11.only ho (by simp), h.i13.only ho (by simp), h.i16.only ho (by simp), h.only.trans ho (fun _ _ e => e)⟩
/-- A round: what is compared, and lies still. -/
structure Fj (most : Int) (N c : Nat) (x : Mb) (gi gm gx k xb : Nat) (w0 wx : World) : Prop where
  io : Is wx xb 54 #[.int .i64 most, .slice (some ⟨gx, 0, none⟩) N c]
  ci : wx.cell? ⟨gi, k, none⟩ = some (.int .i64 x.id)
  rm : wx.rangeAt gm (k * 4) (mbA x).toList
  rx : wx.rangeAt gx (k * 4) (mbA x).toList
  li : gi < wx.heap.size
  lm : gm < wx.heap.size
  lx : gx < wx.heap.size
  only : Only (fun _ => False) w0 wx
theorem Fj.go {most : Int} {N c : Nat} {x : Mb} {gi gm gx k xb : Nat} {w0 wx wy : World} (h : Fj most N c x gi gm gx k xb w0 wx) (ho : Only (fun _ => False) wx wy) : Fj most N c x gi gm gx k xb w0 wy :=
  ⟨h.io.only ho (by simp), (ho.cell h.li (by simp)).trans h.ci, range_only h.rm h.lm ho (by simp), range_only h.rx h.lx ho (by simp), Nat.lt_of_lt_of_le h.li ho.size, Nat.lt_of_lt_of_le h.lm ho.size, Nat.lt_of_lt_of_le h.lx ho.size, h.only.trans ho (fun _ _ e => e)⟩
def ris6_A : List (List Nat) := ([] :: [0] :: [] :: [1, 2, 0] :: [3, 1, 2, 0] :: [4, 3, 1, 2, 0] :: [4, 3, 1, 2, 0] :: [5, 6, 4, 3, 1, 2, 0] :: (4 :: 7 :: 3 :: 1 :: 2 :: 0 :: 5 :: 6 :: []) :: (8 :: 4 :: 7 :: 3 :: 1 :: 2 :: 0 :: 5 :: 6 :: []) :: (9 :: 8 :: 4 :: 7 :: 3 :: 1 :: 2 :: 0 :: 5 :: 6 :: []) :: (10 :: 9 :: 8 :: 4 :: 7 :: 3 :: 1 :: 2 :: 0 :: 5 :: 6 :: []) :: (9 :: 8 :: 4 :: 7 :: 3 :: 1 :: 2 :: 0 :: 5 :: 6 :: []) :: (11 :: 12 :: 9 :: 10 :: 8 :: 4 :: 7 :: 3 :: 1 :: 2 :: 0 :: 5 :: 6 :: []) :: (9 :: 13 :: 8 :: 4 :: 7 :: 3 :: 1 :: 2 :: 0 :: 5 :: 6 :: 11 :: 12 :: 10 :: []) :: (14 :: 11 :: 9 :: 13 :: 8 :: 4 :: 7 :: 3 :: 1 :: 2 :: 0 :: 5 :: 6 :: 12 :: 10 :: []) :: (15 :: 14 :: 11 :: 9 :: 13 :: 8 :: 4 :: 7 :: 3 :: 1 :: 2 :: 0 :: 5 :: 6 :: 12 :: 10 :: []) :: (15 :: 14 :: 11 :: 9 :: 13 :: 8 :: 4 :: 7 :: 3 :: 1 :: 2 :: 0 :: 5 :: 6 :: 12 :: 10 :: []) :: (16 :: 17 :: 15 :: 14 :: 11 :: 9 :: 13 :: 8 :: 4 :: 7 :: 3 :: 1 :: 2 :: 0 :: 5 :: 6 :: 12 :: 10 :: []) :: (15 :: 18 :: 14 :: 11 :: 9 :: 13 :: 8 :: 4 :: 7 :: 3 :: 1 :: 2 :: 0 :: 5 :: 6 :: 12 :: 10 :: 16 :: 17 :: []) :: (19 :: 15 :: 18 :: 14 :: 11 :: 9 :: 13 :: 8 :: 4 :: 7 :: 3 :: 1 :: 2 :: 0 :: 5 :: 6 :: 12 :: 10 :: 16 :: 17 :: []) :: (20 :: 19 :: 15 :: 18 :: 14 :: 11 :: 9 :: 13 :: 8 :: 4 :: 7 :: 3 :: 1 :: 2 :: 0 :: 5 :: 6 :: 12 :: 10 :: 16 :: 17 :: []) :: (20 :: 19 :: 15 :: 18 :: 14 :: 11 :: 9 :: 13 :: 8 :: 4 :: 7 :: 3 :: 1 :: 2 :: 0 :: 5 :: 6 :: 12 :: 10 :: 16 :: 17 :: []) :: (21 :: 22 :: 20 :: 19 :: 15 :: 18 :: 14 :: 11 :: 9 :: 13 :: 8 :: 4 :: 7 :: 3 :: 1 :: 2 :: 0 :: 5 :: 6 :: 12 :: 10 :: 16 :: 17 :: []) :: (20 :: 23 :: 19 :: 15 :: 18 :: 14 :: 11 :: 9 :: 13 :: 8 :: 4 :: 7 :: 3 :: 1 :: 2 :: 0 :: 5 :: 6 :: 12 :: 10 :: 16 :: 17 :: 21 :: 22 :: []) :: (24 :: 20 :: 23 :: 19 :: 15 :: 18 :: 14 :: 11 :: 9 :: 13 :: 8 :: 4 :: 7 :: 3 :: 1 :: 2 :: 0 :: 5 :: 6 :: 12 :: 10 :: 16 :: 17 :: 21 :: 22 :: []) :: (25 :: 24 :: 20 :: 23 :: 19 :: 15 :: 18 :: 14 :: 11 :: 9 :: 13 :: 8 :: 4 :: 7 :: 3 :: 1 :: 2 :: 0 :: 5 :: 6 :: 12 :: 10 :: 16 :: 17 :: 21 :: 22 :: []) :: (26 :: 25 :: 24 :: 20 :: 23 :: 19 :: 15 :: 18 :: 14 :: 11 :: 9 :: 13 :: 8 :: 4 :: 7 :: 3 :: 1 :: 2 :: 0 :: 5 :: 6 :: 12 :: 10 :: 16 :: 17 :: 21 :: 22 :: []) :: (25 :: 24 :: 20 :: 23 :: 19 :: 15 :: 18 :: 14 :: 11 :: 9 :: 13 :: 8 :: 4 :: 7 :: 3 :: 1 :: 2 :: 0 :: 5 :: 6 :: 12 :: 10 :: 16 :: 17 :: 21 :: 22 :: []) :: (28 :: 25 :: 24 :: 20 :: 23 :: 19 :: 15 :: 18 :: 14 :: 11 :: 9 :: 13 :: 8 :: 4 :: 7 :: 3 :: 1 :: 2 :: 0 :: 5 :: 6 :: 12 :: 10 :: 16 :: 17 :: 21 :: 22 :: []) :: (29 :: 25 :: 28 :: 24 :: 20 :: 23 :: 19 :: 15 :: 18 :: 14 :: 11 :: 9 :: 13 :: 8 :: 4 :: 7 :: 3 :: 1 :: 2 :: 0 :: 5 :: 6 :: 12 :: 10 :: 16 :: 17 :: 21 :: 22 :: []) :: (27 :: 30 :: 25 :: 26 :: 24 :: 20 :: 23 :: 19 :: 15 :: 18 :: 14 :: 11 :: 9 :: 13 :: 8 :: 4 :: 7 :: 3 :: 1 :: 2 :: 0 :: 5 :: 6 :: 12 :: 10 :: 16 :: 17 :: 21 :: 22 :: 29 :: 28 :: []) :: (25 :: 31 :: 24 :: 20 :: 23 :: 19 :: 15 :: 18 :: 14 :: 11 :: 9 :: 13 :: 8 :: 4 :: 7 :: 3 :: 1 :: 2 :: 0 :: 5 :: 6 :: 12 :: 10 :: 16 :: 17 :: 21 :: 22 :: 27 :: 30 :: 26 :: 29 :: 28 :: []) :: (32 :: 25 :: 31 :: 24 :: 20 :: 23 :: 19 :: 15 :: 18 :: 14 :: 11 :: 9 :: 13 :: 8 :: 4 :: 7 :: 3 :: 1 :: 2 :: 0 :: 5 :: 6 :: 12 :: 10 :: 16 :: 17 :: 21 :: 22 :: 27 :: 30 :: 26 :: 29 :: 28 :: []) :: (33 :: 32 :: 25 :: 31 :: 24 :: 20 :: 23 :: 19 :: 15 :: 18 :: 14 :: 11 :: 9 :: 13 :: 8 :: 4 :: 7 :: 3 :: 1 :: 2 :: 0 :: 5 :: 6 :: 12 :: 10 :: 16 :: 17 :: 21 :: 22 :: 27 :: 30 :: 26 :: 29 :: 28 :: []) :: (34 :: 33 :: 32 :: 25 :: 31 :: 24 :: 20 :: 23 :: 19 :: 15 :: 18 :: 14 :: 11 :: 9 :: 13 :: 8 :: 4 :: 7 :: 3 :: 1 :: 2 :: 0 :: 5 :: 6 :: 12 :: 10 :: 16 :: 17 :: 21 :: 22 :: 27 :: 30 :: 26 :: 29 :: 28 :: []) :: (33 :: 32 :: 25 :: 31 :: 24 :: 20 :: 23 :: 19 :: 15 :: 18 :: 14 :: 11 :: 9 :: 13 :: 8 :: 4 :: 7 :: 3 :: 1 :: 2 :: 0 :: 5 :: 6 :: 12 :: 10 :: 16 :: 17 :: 21 :: 22 :: 27 :: 30 :: 26 :: 29 :: 28 :: []) :: (36 :: 33 :: 32 :: 25 :: 31 :: 24 :: 20 :: 23 :: 19 :: 15 :: 18 :: 14 :: 11 :: 9 :: 13 :: 8 :: 4 :: 7 :: 3 :: 1 :: 2 :: 0 :: 5 :: 6 :: 12 :: 10 :: 16 :: 17 :: 21 :: 22 :: 27 :: 30 :: 26 :: 29 :: 28 :: []) :: (37 :: 33 :: 36 :: 32 :: 25 :: 31 :: 24 :: 20 :: 23 :: 19 :: 15 :: 18 :: 14 :: 11 :: 9 :: 13 :: 8 :: 4 :: 7 :: 3 :: 1 :: 2 :: 0 :: 5 :: 6 :: 12 :: 10 :: 16 :: 17 :: 21 :: 22 :: 27 :: 30 :: 26 :: 29 :: 28 :: []) :: (35 :: 38 :: 33 :: 34 :: 32 :: 25 :: 31 :: 24 :: 20 :: 23 :: 19 :: 15 :: 18 :: 14 :: 11 :: 9 :: 13 :: 8 :: 4 :: 7 :: 3 :: 1 :: 2 :: 0 :: 5 :: 6 :: 12 :: 10 :: 16 :: 17 :: 21 :: 22 :: 27 :: 30 :: 26 :: 29 :: 28 :: 37 :: 36 :: []) :: (33 :: 39 :: 32 :: 25 :: 31 :: 24 :: 20 :: 23 :: 19 :: 15 :: 18 :: 14 :: 11 :: 9 :: 13 :: 8 :: 4 :: 7 :: 3 :: 1 :: 2 :: 0 :: 5 :: 6 :: 12 :: 10 :: 16 :: 17 :: 21 :: 22 :: 27 :: 30 :: 26 :: 29 :: 28 :: 35 :: 38 :: 34 :: 37 :: 36 :: []) :: (40 :: 33 :: 39 :: 32 :: 25 :: 31 :: 24 :: 20 :: 23 :: 19 :: 15 :: 18 :: 14 :: 11 :: 9 :: 13 :: 8 :: 4 :: 7 :: 3 :: 1 :: 2 :: 0 :: 5 :: 6 :: 12 :: 10 :: 16 :: 17 :: 21 :: 22 :: 27 :: 30 :: 26 :: 29 :: 28 :: 35 :: 38 :: 34 :: 37 :: 36 :: []) :: (41 :: 40 :: 33 :: 39 :: 32 :: 25 :: 31 :: 24 :: 20 :: 23 :: 19 :: 15 :: 18 :: 14 :: 11 :: 9 :: 13 :: 8 :: 4 :: 7 :: 3 :: 1 :: 2 :: 0 :: 5 :: 6 :: 12 :: 10 :: 16 :: 17 :: 21 :: 22 :: 27 :: 30 :: 26 :: 29 :: 28 :: 35 :: 38 :: 34 :: 37 :: 36 :: []) :: (42 :: 41 :: 40 :: 33 :: 39 :: 32 :: 25 :: 31 :: 24 :: 20 :: 23 :: 19 :: 15 :: 18 :: 14 :: 11 :: 9 :: 13 :: 8 :: 4 :: 7 :: 3 :: 1 :: 2 :: 0 :: 5 :: 6 :: 12 :: 10 :: 16 :: 17 :: 21 :: 22 :: 27 :: 30 :: 26 :: 29 :: 28 :: 35 :: 38 :: 34 :: 37 :: 36 :: []) :: (41 :: 40 :: 33 :: 39 :: 32 :: 25 :: 31 :: 24 :: 20 :: 23 :: 19 :: 15 :: 18 :: 14 :: 11 :: 9 :: 13 :: 8 :: 4 :: 7 :: 3 :: 1 :: 2 :: 0 :: 5 :: 6 :: 12 :: 10 :: 16 :: 17 :: 21 :: 22 :: 27 :: 30 :: 26 :: 29 :: 28 :: 35 :: 38 :: 34 :: 37 :: 36 :: []) :: (44 :: 41 :: 40 :: 33 :: 39 :: 32 :: 25 :: 31 :: 24 :: 20 :: 23 :: 19 :: 15 :: 18 :: 14 :: 11 :: 9 :: 13 :: 8 :: 4 :: 7 :: 3 :: 1 :: 2 :: 0 :: 5 :: 6 :: 12 :: 10 :: 16 :: 17 :: 21 :: 22 :: 27 :: 30 :: 26 :: 29 :: 28 :: 35 :: 38 :: 34 :: 37 :: 36 :: []) :: (45 :: 41 :: 44 :: 40 :: 33 :: 39 :: 32 :: 25 :: 31 :: 24 :: 20 :: 23 :: 19 :: 15 :: 18 :: 14 :: 11 :: 9 :: 13 :: 8 :: 4 :: 7 :: 3 :: 1 :: 2 :: 0 :: 5 :: 6 :: 12 :: 10 :: 16 :: 17 :: 21 :: 22 :: 27 :: 30 :: 26 :: 29 :: 28 :: 35 :: 38 :: 34 :: 37 :: 36 :: []) :: (43 :: 46 :: 41 :: 42 :: 40 :: 33 :: 39 :: 32 :: 25 :: 31 :: 24 :: 20 :: 23 :: 19 :: 15 :: 18 :: 14 :: 11 :: 9 :: 13 :: 8 :: 4 :: 7 :: 3 :: 1 :: 2 :: 0 :: 5 :: 6 :: 12 :: 10 :: 16 :: 17 :: 21 :: 22 :: 27 :: 30 :: 26 :: 29 :: 28 :: 35 :: 38 :: 34 :: 37 :: 36 :: 45 :: 44 :: []) :: (41 :: 47 :: 40 :: 33 :: 39 :: 32 :: 25 :: 31 :: 24 :: 20 :: 23 :: 19 :: 15 :: 18 :: 14 :: 11 :: 9 :: 13 :: 8 :: 4 :: 7 :: 3 :: 1 :: 2 :: 0 :: 5 :: 6 :: 12 :: 10 :: 16 :: 17 :: 21 :: 22 :: 27 :: 30 :: 26 :: 29 :: 28 :: 35 :: 38 :: 34 :: 37 :: 36 :: 43 :: 46 :: 42 :: 45 :: 44 :: []) :: [])
def ris6_kill : List (List Nat) := ([] :: [] :: [] :: [] :: [] :: [] :: [] :: [] :: [] :: [] :: [] :: [] :: [] :: [] :: [] :: [] :: [] :: [] :: [] :: [] :: [] :: [] :: [] :: [] :: [] :: [] :: [] :: [] :: [] :: [] :: [] :: [] :: [] :: [] :: [] :: [] :: [] :: [] :: [] :: [] :: [] :: [] :: [] :: [] :: [] :: [] :: [] :: [] :: [] :: [])
def ris6_uses : List (List Nat) := ([] :: [] :: [] :: [] :: [] :: [] :: [] :: [] :: [] :: [] :: [] :: [] :: [] :: [] :: [] :: [] :: [] :: [] :: [] :: [] :: [] :: [] :: [] :: [] :: [] :: [] :: [] :: [] :: [] :: [] :: [] :: [] :: [] :: [] :: [] :: [] :: [] :: [] :: [] :: [] :: [] :: [] :: [] :: [] :: [] :: [] :: [] :: [] :: [] :: [])
noncomputable def ris6_code : Code := ((Try.f26.body.bind (codeRegion 6)).getD .skip)
set_option maxRecDepth 100000 in
set_option maxHeartbeats 4000000 in
theorem ris6_in (most : Int) (A Ai Am : Option Addr) (N c ci cm : Nat) (x1 x2 : Mb) (s1 o1 s2 : Bool) (B b mb : Nat) (r : Ro) (vl : Value) (xb m9 m11 m13 m16 : Nat) (w0 : World) (hN : r.l.length = N)  (u1 u2 u3 u4 u6 u7 u8 u21 u22 u23 u24 u25 u26 u27 u28 u29 u30 u31 u32 u33 u34 u35 u36 u37 u38 u39 u40 u41 u42 u43 u44 u45 u46 u47 u48 u49 u50 u51 u52 u53 u54 u55 u56 u57 u58 u59 u60 u61 u62 u63 u64 u65 u66 u67 u68 u69 u70 u71 u72 u73 u74 u75 u76 u77 u78 u79 u80 u81 u82 u83 u84 u85 u86 u87 u88 u89 u90 u91 u92 u93 u94 u95 u96 u97 u98 u99 u100 u101 u102 u103 u104 u105 u106 u107 u108 u109 u110 u111 u112 u113 u114 u115 u116 u117 u118 u119 u120 u121 u122 u123 u124 u125 u126 u127 u128 u129 u130 u131 u132 u133 u134 u135 u136 u137 : Value) (w : World) (hG : Fi most A N c x1 x2 B b mb r vl xb m9 m11 m13 m16 w0 w) :
    Code.wp Try.prog ris6_code (fun e a w' => ∃ y52 y53 y54 y55 y56 y57 y58 y59 y60 y61 y62 y63 y64 y65 y66 y67 y68 y69 y70 y71 y72 y73 y74 y75 y76 y77 y78 y79 y80 y81 y82 y83 y84 y85 y86 y87 y88 y89 y90 y91 y92 y93 y94 y95 y96 y97 y98 y99 : Value, a = ⟨(List.toArray (.pointer (some ⟨b, 0, none⟩) :: u1 :: u2 :: u3 :: u4 :: .pointer (some ⟨xb, 0, none⟩) :: u6 :: u7 :: u8 :: .pointer (some ⟨m9, 0, none⟩) :: .bool s1 :: .pointer (some ⟨m11, 0, none⟩) :: .bool s1 :: .pointer (some ⟨m13, 0, none⟩) :: .bool o1 :: .bool s2 :: .pointer (some ⟨m16, 0, none⟩) :: .bool o1 :: .bool s2 :: .slice Ai N ci :: .slice Am N cm :: u21 :: u22 :: u23 :: u24 :: u25 :: u26 :: u27 :: u28 :: u29 :: u30 :: u31 :: u32 :: u33 :: u34 :: u35 :: u36 :: u37 :: u38 :: u39 :: u40 :: u41 :: u42 :: u43 :: u44 :: u45 :: u46 :: u47 :: u48 :: u49 :: u50 :: u51 :: y52 :: y53 :: y54 :: y55 :: y56 :: y57 :: y58 :: y59 :: y60 :: y61 :: y62 :: y63 :: y64 :: y65 :: y66 :: y67 :: y68 :: y69 :: y70 :: y71 :: y72 :: y73 :: y74 :: y75 :: y76 :: y77 :: y78 :: y79 :: y80 :: y81 :: y82 :: y83 :: y84 :: y85 :: y86 :: y87 :: y88 :: y89 :: y90 :: y91 :: y92 :: y93 :: y94 :: y95 :: y96 :: y97 :: y98 :: y99 :: .bool false :: u101 :: u102 :: u103 :: u104 :: u105 :: u106 :: u107 :: u108 :: u109 :: u110 :: u111 :: u112 :: u113 :: u114 :: u115 :: u116 :: u117 :: u118 :: u119 :: u120 :: u121 :: u122 :: u123 :: u124 :: u125 :: u126 :: u127 :: u128 :: u129 :: u130 :: u131 :: u132 :: u133 :: u134 :: u135 :: u136 :: u137 :: [])), []⟩ ∧ e = .normal ∧ (Fi most A N c x1 x2 B b mb r vl xb m9 m11 m13 m16 w0 w')) ⟨(List.toArray (.pointer (some ⟨b, 0, none⟩) :: u1 :: u2 :: u3 :: u4 :: .pointer (some ⟨xb, 0, none⟩) :: u6 :: u7 :: u8 :: .pointer (some ⟨m9, 0, none⟩) :: .bool s1 :: .pointer (some ⟨m11, 0, none⟩) :: .bool s1 :: .pointer (some ⟨m13, 0, none⟩) :: .bool o1 :: .bool s2 :: .pointer (some ⟨m16, 0, none⟩) :: .bool o1 :: .bool s2 :: .slice Ai N ci :: .slice Am N cm :: u21 :: u22 :: u23 :: u24 :: u25 :: u26 :: u27 :: u28 :: u29 :: u30 :: u31 :: u32 :: u33 :: u34 :: u35 :: u36 :: u37 :: u38 :: u39 :: u40 :: u41 :: u42 :: u43 :: u44 :: u45 :: u46 :: u47 :: u48 :: u49 :: u50 :: u51 :: u52 :: u53 :: u54 :: u55 :: u56 :: u57 :: u58 :: u59 :: u60 :: u61 :: u62 :: u63 :: u64 :: u65 :: u66 :: u67 :: u68 :: u69 :: u70 :: u71 :: u72 :: u73 :: u74 :: u75 :: u76 :: u77 :: u78 :: u79 :: u80 :: u81 :: u82 :: u83 :: u84 :: u85 :: u86 :: u87 :: u88 :: u89 :: u90 :: u91 :: u92 :: u93 :: u94 :: u95 :: u96 :: u97 :: u98 :: u99 :: u100 :: u101 :: u102 :: u103 :: u104 :: u105 :: u106 :: u107 :: u108 :: u109 :: u110 :: u111 :: u112 :: u113 :: u114 :: u115 :: u116 :: u117 :: u118 :: u119 :: u120 :: u121 :: u122 :: u123 :: u124 :: u125 :: u126 :: u127 :: u128 :: u129 :: u130 :: u131 :: u132 :: u133 :: u134 :: u135 :: u136 :: u137 :: [])), []⟩ w := by
  conv => arg 2; whnf
  have HLN := Lib.hid (fun (w : World) (h : Ror w B b mb r vl) => hN ▸ rlen_is B b mb r vl w h)
  clear hN
  refine wp_region_posts ris6_A [1, 11] [] ris6_kill ris6_uses [] [] [] []
      (some ((mbV x1)) :: some ((mbV x1)) :: some ((mbV x1)) :: some ((.bool false)) :: some ?v4 :: some ?v5 :: some ?v6 :: some ?v7 :: some ?v8 :: some ?v9 :: some ((mbV x2)) :: some ((mbV x2)) :: some ((mbV x2)) :: some ((.bool false)) :: some ?v14 :: some ?v15 :: some ?v16 :: some ?v17 :: some ?v18 :: some ?v19 :: some ?v20 :: some ?v21 :: some ?v22 :: some ?v23 :: some ?v24 :: some ?v25 :: some ?v26 :: some ?v27 :: some ?v28 :: some ?v29 :: some ?v30 :: some ?v31 :: some ?v32 :: some ?v33 :: some ?v34 :: some ?v35 :: some ?v36 :: some ?v37 :: some ?v38 :: some ?v39 :: some ?v40 :: some ?v41 :: some ?v42 :: some ((.int .i64 (N : Int))) :: some ?v44 :: some ?v45 :: some ?v46 :: some ?v47 :: some ?v48 :: [])
      ?T (fun wx => Fi most A N c x1 x2 B b mb r vl xb m9 m11 m13 m16 w0 wx) ?W ?E (by kernel_rfl) (by kernel_rfl) (by kernel_rfl) (fun x => ?hT) ?hF ?hini (Reg.all_ops ?runs) ?pres ?fin
  case W => exact fun j y w' => True
  case E => exact fun i wx wy => Only (fun _ => False) wx wy
  case hT =>
    simp only [Reg.fillV, Act.put, List.setIfInBounds_toArray, List.set_cons_zero, List.set_cons_succ]
    rfl
  case runs =>
    refine And.intro ?_ ?_
    · refine Reg.ob_known (fun _ => rfl) rfl rfl (fun x w1 hF hU K hK => ?_)
      refine wp_load_mid 58 _ rfl m9 0 rfl (mbA x1).toList _ (World.rangeAt_of_block (hF rfl).i9 0 4) Try.underlying58 rfl Try.sizeMb ?_
      exact hK w1 (fun h _ _ => absurd h (by decide)) rfl
    refine And.intro ?_ ?_
    · refine Reg.ob_known (fun _ => rfl) rfl rfl (fun x w1 hF hU K hK => ?_)
      replace hF := hF rfl
      go_simp
      refine (ref_is x1 w1).mono ?_
      rintro e w5 ⟨rfl, ho⟩
      exact hK w5 (fun _ _ _ => hF.go ho) ho
    refine And.intro ?_ ?_
    · refine Reg.ob_known (fun _ => rfl) rfl rfl (fun x w1 hF hU K hK => ?_)
      refine wp_load_mid 65 _ rfl m11 0 rfl (mbA x1).toList _ (World.rangeAt_of_block (hF rfl).i11 0 4) Try.underlying65 rfl Try.sizeRm ?_
      exact hK w1 (fun h _ _ => absurd h (by decide)) rfl
    refine And.intro ?_ ?_
    · refine Reg.ob_pure (fun _ => rfl) rfl rfl rfl rfl (fun x w1 hF => ?_)
      exact run_ne_rm _ _ _ x1 rfl rfl rfl
    refine And.intro ?_ ?_
    · refine Reg.ob_pure (fun _ => rfl) rfl rfl rfl rfl (fun x w1 hF => ?_)
      have c1 : w1.cell? ⟨xb, 1, none⟩ = some (.slice A N c) := hF.io.cell 1
      go_simp
      with_reducible rfl
    refine And.intro ?_ ?_
    · refine Reg.ob_pure (fun _ => rfl) rfl rfl rfl rfl (fun x w1 hF => ?_)
      have c1 : w1.cell? ⟨xb, 1, none⟩ = some (.slice A N c) := hF.io.cell 1
      go_simp
      with_reducible rfl
    refine And.intro ?_ ?_
    · refine Reg.ob_pure (fun _ => rfl) rfl rfl rfl rfl (fun x w1 hF => ?_)
      have c1 : w1.cell? ⟨xb, 1, none⟩ = some (.slice A N c) := hF.io.cell 1
      go_simp
      with_reducible rfl
    refine And.intro ?_ ?_
    · refine Reg.ob_pure (fun _ => rfl) rfl rfl rfl rfl (fun x w1 hF => ?_)
      have c1 : w1.cell? ⟨xb, 1, none⟩ = some (.slice A N c) := hF.io.cell 1
      go_simp
      with_reducible rfl
    refine And.intro ?_ ?_
    · refine Reg.ob_pure (fun _ => rfl) rfl rfl rfl rfl (fun x w1 hF => ?_)
      have c1 : w1.cell? ⟨xb, 1, none⟩ = some (.slice A N c) := hF.io.cell 1
      go_simp
      with_reducible rfl
    refine And.intro ?_ ?_
    · refine Reg.ob_pure (fun _ => rfl) rfl rfl rfl rfl (fun x w1 hF => ?_)
      have c1 : w1.cell? ⟨xb, 1, none⟩ = some (.slice A N c) := hF.io.cell 1
      go_simp
      with_reducible rfl
    refine And.intro ?_ ?_
    · refine Reg.ob_known (fun _ => rfl) rfl rfl (fun x w1 hF hU K hK => ?_)
      refine wp_load_mid 58 _ rfl m13 0 rfl (mbA x2).toList _ (World.rangeAt_of_block (hF rfl).i13 0 4) Try.underlying58 rfl Try.sizeMb ?_
      exact hK w1 (fun h _ _ => absurd h (by decide)) rfl
    refine And.intro ?_ ?_
    · refine Reg.ob_known (fun _ => rfl) rfl rfl (fun x w1 hF hU K hK => ?_)
      replace hF := hF rfl
      go_simp
      refine (ref_is x2 w1).mono ?_
      rintro e w5 ⟨rfl, ho⟩
      exact hK w5 (fun _ _ _ => hF.go ho) ho
    refine And.intro ?_ ?_
    · refine Reg.ob_known (fun _ => rfl) rfl rfl (fun x w1 hF hU K hK => ?_)
      refine wp_load_mid 65 _ rfl m16 0 rfl (mbA x2).toList _ (World.rangeAt_of_block (hF rfl).i16 0 4) Try.underlying65 rfl Try.sizeRm ?_
      exact hK w1 (fun h _ _ => absurd h (by decide)) rfl
    refine And.intro ?_ ?_
    · refine Reg.ob_pure (fun _ => rfl) rfl rfl rfl rfl (fun x w1 hF => ?_)
      exact run_ne_rm _ _ _ x2 rfl rfl rfl
    refine And.intro ?_ ?_
    · refine Reg.ob_pure (fun _ => rfl) rfl rfl rfl rfl (fun x w1 hF => ?_)
      have c1 : w1.cell? ⟨xb, 1, none⟩ = some (.slice A N c) := hF.io.cell 1
      go_simp
      with_reducible rfl
    refine And.intro ?_ ?_
    · refine Reg.ob_pure (fun _ => rfl) rfl rfl rfl rfl (fun x w1 hF => ?_)
      have c1 : w1.cell? ⟨xb, 1, none⟩ = some (.slice A N c) := hF.io.cell 1
      go_simp
      with_reducible rfl
    refine And.intro ?_ ?_
    · refine Reg.ob_pure (fun _ => rfl) rfl rfl rfl rfl (fun x w1 hF => ?_)
      have c1 : w1.cell? ⟨xb, 1, none⟩ = some (.slice A N c) := hF.io.cell 1
      go_simp
      with_reducible rfl
    refine And.intro ?_ ?_
    · refine Reg.ob_pure (fun _ => rfl) rfl rfl rfl rfl (fun x w1 hF => ?_)
      have c1 : w1.cell? ⟨xb, 1, none⟩ = some (.slice A N c) := hF.io.cell 1
      go_simp
      with_reducible rfl
    refine And.intro ?_ ?_
    · refine Reg.ob_pure (fun _ => rfl) rfl rfl rfl rfl (fun x w1 hF => ?_)
      have c1 : w1.cell? ⟨xb, 1, none⟩ = some (.slice A N c) := hF.io.cell 1
      go_simp
      with_reducible rfl
    refine And.intro ?_ ?_
    · refine Reg.ob_pure (fun _ => rfl) rfl rfl rfl rfl (fun x w1 hF => ?_)
      have c1 : w1.cell? ⟨xb, 1, none⟩ = some (.slice A N c) := hF.io.cell 1
      go_simp
      with_reducible rfl
    refine And.intro ?_ ?_
    · refine Reg.ob_pure (fun _ => rfl) rfl rfl rfl rfl (fun x w1 hF => ?_)
      have c1 : w1.cell? ⟨xb, 1, none⟩ = some (.slice A N c) := hF.io.cell 1
      go_simp
      with_reducible rfl
    refine And.intro ?_ ?_
    · refine Reg.ob_pure (fun _ => rfl) rfl rfl rfl rfl (fun x w1 hF => ?_)
      have c1 : w1.cell? ⟨xb, 1, none⟩ = some (.slice A N c) := hF.io.cell 1
      go_simp
      with_reducible rfl
    refine And.intro ?_ ?_
    · refine Reg.ob_pure (fun _ => rfl) rfl rfl rfl rfl (fun x w1 hF => ?_)
      have c1 : w1.cell? ⟨xb, 1, none⟩ = some (.slice A N c) := hF.io.cell 1
      go_simp
      with_reducible rfl
    refine And.intro ?_ ?_
    · refine Reg.ob_pure (fun _ => rfl) rfl rfl rfl rfl (fun x w1 hF => ?_)
      have c1 : w1.cell? ⟨xb, 1, none⟩ = some (.slice A N c) := hF.io.cell 1
      go_simp
      with_reducible rfl
    refine And.intro ?_ ?_
    · refine Reg.ob_pure (fun _ => rfl) rfl rfl rfl rfl (fun x w1 hF => ?_)
      have c1 : w1.cell? ⟨xb, 1, none⟩ = some (.slice A N c) := hF.io.cell 1
      go_simp
      with_reducible rfl
    refine And.intro ?_ ?_
    · refine Reg.ob_pure (fun _ => rfl) rfl rfl rfl rfl (fun x w1 hF => ?_)
      have c1 : w1.cell? ⟨xb, 1, none⟩ = some (.slice A N c) := hF.io.cell 1
      go_simp
      with_reducible rfl
    refine And.intro ?_ ?_
    · refine Reg.ob_pure (fun _ => rfl) rfl rfl rfl rfl (fun x w1 hF => ?_)
      have c1 : w1.cell? ⟨xb, 1, none⟩ = some (.slice A N c) := hF.io.cell 1
      go_simp
      with_reducible rfl
    refine And.intro ?_ ?_
    · refine Reg.ob_pure (fun _ => rfl) rfl rfl rfl rfl (fun x w1 hF => ?_)
      have c1 : w1.cell? ⟨xb, 1, none⟩ = some (.slice A N c) := hF.io.cell 1
      go_simp
      with_reducible rfl
    refine And.intro ?_ ?_
    · refine Reg.ob_pure (fun _ => rfl) rfl rfl rfl rfl (fun x w1 hF => ?_)
      have c1 : w1.cell? ⟨xb, 1, none⟩ = some (.slice A N c) := hF.io.cell 1
      go_simp
      with_reducible rfl
    refine And.intro ?_ ?_
    · refine Reg.ob_pure (fun _ => rfl) rfl rfl rfl rfl (fun x w1 hF => ?_)
      have c1 : w1.cell? ⟨xb, 1, none⟩ = some (.slice A N c) := hF.io.cell 1
      go_simp
      with_reducible rfl
    refine And.intro ?_ ?_
    · refine Reg.ob_pure (fun _ => rfl) rfl rfl rfl rfl (fun x w1 hF => ?_)
      have c1 : w1.cell? ⟨xb, 1, none⟩ = some (.slice A N c) := hF.io.cell 1
      go_simp
      with_reducible rfl
    refine And.intro ?_ ?_
    · refine Reg.ob_pure (fun _ => rfl) rfl rfl rfl rfl (fun x w1 hF => ?_)
      have c1 : w1.cell? ⟨xb, 1, none⟩ = some (.slice A N c) := hF.io.cell 1
      go_simp
      with_reducible rfl
    refine And.intro ?_ ?_
    · refine Reg.ob_pure (fun _ => rfl) rfl rfl rfl rfl (fun x w1 hF => ?_)
      have c1 : w1.cell? ⟨xb, 1, none⟩ = some (.slice A N c) := hF.io.cell 1
      go_simp
      with_reducible rfl
    refine And.intro ?_ ?_
    · refine Reg.ob_pure (fun _ => rfl) rfl rfl rfl rfl (fun x w1 hF => ?_)
      have c1 : w1.cell? ⟨xb, 1, none⟩ = some (.slice A N c) := hF.io.cell 1
      go_simp
      with_reducible rfl
    refine And.intro ?_ ?_
    · refine Reg.ob_pure (fun _ => rfl) rfl rfl rfl rfl (fun x w1 hF => ?_)
      have c1 : w1.cell? ⟨xb, 1, none⟩ = some (.slice A N c) := hF.io.cell 1
      go_simp
      with_reducible rfl
    refine And.intro ?_ ?_
    · refine Reg.ob_pure (fun _ => rfl) rfl rfl rfl rfl (fun x w1 hF => ?_)
      have c1 : w1.cell? ⟨xb, 1, none⟩ = some (.slice A N c) := hF.io.cell 1
      go_simp
      with_reducible rfl
    refine And.intro ?_ ?_
    · refine Reg.ob_pure (fun _ => rfl) rfl rfl rfl rfl (fun x w1 hF => ?_)
      have c1 : w1.cell? ⟨xb, 1, none⟩ = some (.slice A N c) := hF.io.cell 1
      go_simp
      with_reducible rfl
    refine And.intro ?_ ?_
    · refine Reg.ob_pure (fun _ => rfl) rfl rfl rfl rfl (fun x w1 hF => ?_)
      have c1 : w1.cell? ⟨xb, 1, none⟩ = some (.slice A N c) := hF.io.cell 1
      go_simp
      with_reducible rfl
    refine And.intro ?_ ?_
    · refine Reg.ob_pure (fun _ => rfl) rfl rfl rfl rfl (fun x w1 hF => ?_)
      have c1 : w1.cell? ⟨xb, 1, none⟩ = some (.slice A N c) := hF.io.cell 1
      go_simp
      with_reducible rfl
    refine And.intro ?_ ?_
    · refine Reg.ob_pure (fun _ => rfl) rfl rfl rfl rfl (fun x w1 hF => ?_)
      have c1 : w1.cell? ⟨xb, 1, none⟩ = some (.slice A N c) := hF.io.cell 1
      go_simp
      with_reducible rfl
    refine And.intro ?_ ?_
    · refine Reg.ob_pure (fun _ => rfl) rfl rfl rfl rfl (fun x w1 hF => ?_)
      have c1 : w1.cell? ⟨xb, 1, none⟩ = some (.slice A N c) := hF.io.cell 1
      go_simp
      with_reducible rfl
    refine And.intro ?_ ?_
    · refine Reg.ob_pure (fun _ => rfl) rfl rfl rfl rfl (fun x w1 hF => ?_)
      have c1 : w1.cell? ⟨xb, 1, none⟩ = some (.slice A N c) := hF.io.cell 1
      go_simp
      with_reducible rfl
    refine And.intro ?_ ?_
    · refine Reg.ob_pure (fun _ => rfl) rfl rfl rfl rfl (fun x w1 hF => ?_)
      have c1 : w1.cell? ⟨xb, 1, none⟩ = some (.slice A N c) := hF.io.cell 1
      go_simp
      with_reducible rfl
    refine And.intro ?_ ?_
    · refine Reg.ob_known (fun _ => rfl) rfl rfl (fun x w1 hF hU K hK => ?_)
      replace hF := hF rfl
      go_simp
      refine (HLN.out w1 hF.ror).mono ?_
      rintro e w5 ⟨rfl, rfl⟩
      exact hK _ (fun _ _ _ => hF) rfl
    refine And.intro ?_ ?_
    · refine Reg.ob_pure (fun _ => rfl) rfl rfl rfl rfl (fun x w1 hF => ?_)
      have c1 : w1.cell? ⟨xb, 1, none⟩ = some (.slice A N c) := hF.io.cell 1
      go_simp
      with_reducible rfl
    refine And.intro ?_ ?_
    · refine Reg.ob_pure (fun _ => rfl) rfl rfl rfl rfl (fun x w1 hF => ?_)
      have c1 : w1.cell? ⟨xb, 1, none⟩ = some (.slice A N c) := hF.io.cell 1
      go_simp
      with_reducible rfl
    refine And.intro ?_ ?_
    · refine Reg.ob_pure (fun _ => rfl) rfl rfl rfl rfl (fun x w1 hF => ?_)
      have c1 : w1.cell? ⟨xb, 1, none⟩ = some (.slice A N c) := hF.io.cell 1
      go_simp
      with_reducible rfl
    refine And.intro ?_ ?_
    · refine Reg.ob_pure (fun _ => rfl) rfl rfl rfl rfl (fun x w1 hF => ?_)
      have c1 : w1.cell? ⟨xb, 1, none⟩ = some (.slice A N c) := hF.io.cell 1
      go_simp
      with_reducible rfl
    refine And.intro ?_ ?_
    · refine Reg.ob_pure (fun _ => rfl) rfl rfl rfl rfl (fun x w1 hF => ?_)
      have c1 : w1.cell? ⟨xb, 1, none⟩ = some (.slice A N c) := hF.io.cell 1
      go_simp
      with_reducible rfl
    exact trivial
  case hF =>
    exact hG.go ((Only.refl _ _).drewN 1)
  case hini =>
    exact trivial
  case pres =>
    intro i hi j hj
    simp at hj
  case fin =>
    rintro x w9 hF hU
    repeat apply Exists.intro
    exact ⟨rfl, rfl, hF rfl⟩

set_option maxRecDepth 100000 in
set_option maxHeartbeats 4000000 in
theorem ris6 (most : Int) (A Ai Am : Option Addr) (N c ci cm : Nat) (x1 x2 : Mb) (s1 o1 s2 : Bool) (B b mb : Nat) (r : Ro) (vl : Value) (xb m9 m11 m13 m16 : Nat) (w0 : World) (hN : r.l.length = N)  (u1 u2 u3 u4 u6 u7 u8 u21 u22 u23 u24 u25 u26 u27 u28 u29 u30 u31 u32 u33 u34 u35 u36 u37 u38 u39 u40 u41 u42 u43 u44 u45 u46 u47 u48 u49 u50 u51 u52 u53 u54 u55 u56 u57 u58 u59 u60 u61 u62 u63 u64 u65 u66 u67 u68 u69 u70 u71 u72 u73 u74 u75 u76 u77 u78 u79 u80 u81 u82 u83 u84 u85 u86 u87 u88 u89 u90 u91 u92 u93 u94 u95 u96 u97 u98 u99 u100 u101 u102 u103 u104 u105 u106 u107 u108 u109 u110 u111 u112 u113 u114 u115 u116 u117 u118 u119 u120 u121 u122 u123 u124 u125 u126 u127 u128 u129 u130 u131 u132 u133 u134 u135 u136 u137 : Value) (Q : Exit → Act → World → Prop) (w : World) (hG : Fi most A N c x1 x2 B b mb r vl xb m9 m11 m13 m16 w0 w)
    (hend : ∀ (y52 y53 y54 y55 y56 y57 y58 y59 y60 y61 y62 y63 y64 y65 y66 y67 y68 y69 y70 y71 y72 y73 y74 y75 y76 y77 y78 y79 y80 y81 y82 y83 y84 y85 y86 y87 y88 y89 y90 y91 y92 y93 y94 y95 y96 y97 y98 y99 : Value) (w' : World), (Fi most A N c x1 x2 B b mb r vl xb m9 m11 m13 m16 w0 w') → Q .normal ⟨(List.toArray (.pointer (some ⟨b, 0, none⟩) :: u1 :: u2 :: u3 :: u4 :: .pointer (some ⟨xb, 0, none⟩) :: u6 :: u7 :: u8 :: .pointer (some ⟨m9, 0, none⟩) :: .bool s1 :: .pointer (some ⟨m11, 0, none⟩) :: .bool s1 :: .pointer (some ⟨m13, 0, none⟩) :: .bool o1 :: .bool s2 :: .pointer (some ⟨m16, 0, none⟩) :: .bool o1 :: .bool s2 :: .slice Ai N ci :: .slice Am N cm :: u21 :: u22 :: u23 :: u24 :: u25 :: u26 :: u27 :: u28 :: u29 :: u30 :: u31 :: u32 :: u33 :: u34 :: u35 :: u36 :: u37 :: u38 :: u39 :: u40 :: u41 :: u42 :: u43 :: u44 :: u45 :: u46 :: u47 :: u48 :: u49 :: u50 :: u51 :: y52 :: y53 :: y54 :: y55 :: y56 :: y57 :: y58 :: y59 :: y60 :: y61 :: y62 :: y63 :: y64 :: y65 :: y66 :: y67 :: y68 :: y69 :: y70 :: y71 :: y72 :: y73 :: y74 :: y75 :: y76 :: y77 :: y78 :: y79 :: y80 :: y81 :: y82 :: y83 :: y84 :: y85 :: y86 :: y87 :: y88 :: y89 :: y90 :: y91 :: y92 :: y93 :: y94 :: y95 :: y96 :: y97 :: y98 :: y99 :: .bool false :: u101 :: u102 :: u103 :: u104 :: u105 :: u106 :: u107 :: u108 :: u109 :: u110 :: u111 :: u112 :: u113 :: u114 :: u115 :: u116 :: u117 :: u118 :: u119 :: u120 :: u121 :: u122 :: u123 :: u124 :: u125 :: u126 :: u127 :: u128 :: u129 :: u130 :: u131 :: u132 :: u133 :: u134 :: u135 :: u136 :: u137 :: [])), []⟩ w') :
    Code.wp Try.prog ris6_code Q ⟨(List.toArray (.pointer (some ⟨b, 0, none⟩) :: u1 :: u2 :: u3 :: u4 :: .pointer (some ⟨xb, 0, none⟩) :: u6 :: u7 :: u8 :: .pointer (some ⟨m9, 0, none⟩) :: .bool s1 :: .pointer (some ⟨m11, 0, none⟩) :: .bool s1 :: .pointer (some ⟨m13, 0, none⟩) :: .bool o1 :: .bool s2 :: .pointer (some ⟨m16, 0, none⟩) :: .bool o1 :: .bool s2 :: .slice Ai N ci :: .slice Am N cm :: u21 :: u22 :: u23 :: u24 :: u25 :: u26 :: u27 :: u28 :: u29 :: u30 :: u31 :: u32 :: u33 :: u34 :: u35 :: u36 :: u37 :: u38 :: u39 :: u40 :: u41 :: u42 :: u43 :: u44 :: u45 :: u46 :: u47 :: u48 :: u49 :: u50 :: u51 :: u52 :: u53 :: u54 :: u55 :: u56 :: u57 :: u58 :: u59 :: u60 :: u61 :: u62 :: u63 :: u64 :: u65 :: u66 :: u67 :: u68 :: u69 :: u70 :: u71 :: u72 :: u73 :: u74 :: u75 :: u76 :: u77 :: u78 :: u79 :: u80 :: u81 :: u82 :: u83 :: u84 :: u85 :: u86 :: u87 :: u88 :: u89 :: u90 :: u91 :: u92 :: u93 :: u94 :: u95 :: u96 :: u97 :: u98 :: u99 :: u100 :: u101 :: u102 :: u103 :: u104 :: u105 :: u106 :: u107 :: u108 :: u109 :: u110 :: u111 :: u112 :: u113 :: u114 :: u115 :: u116 :: u117 :: u118 :: u119 :: u120 :: u121 :: u122 :: u123 :: u124 :: u125 :: u126 :: u127 :: u128 :: u129 :: u130 :: u131 :: u132 :: u133 :: u134 :: u135 :: u136 :: u137 :: [])), []⟩ w := by
  refine wp_mono (ris6_in most A Ai Am N c ci cm x1 x2 s1 o1 s2 B b mb r vl xb m9 m11 m13 m16 w0 hN _ _ _ _ _ _ _ _ _ _ _ _ _ _ _ _ _ _ _ _ _ _ _ _ _ _ _ _ _ _ _ _ _ _ _ _ _ _ _ _ _ _ _ _ _ _ _ _ _ _ _ _ _ _ _ _ _ _ _ _ _ _ _ _ _ _ _ _ _ _ _ _ _ _ _ _ _ _ _ _ _ _ _ _ _ _ _ _ _ _ _ _ _ _ _ _ _ _ _ _ _ _ _ _ _ _ _ _ _ _ _ _ _ _ _ _ _ _ _ _ _ _ _ _ w hG) ?_
  rintro e a w' h
  obtain ⟨y52, h⟩ := h
  obtain ⟨y53, h⟩ := h
  obtain ⟨y54, h⟩ := h
  obtain ⟨y55, h⟩ := h
  obtain ⟨y56, h⟩ := h
  obtain ⟨y57, h⟩ := h
  obtain ⟨y58, h⟩ := h
  obtain ⟨y59, h⟩ := h
  obtain ⟨y60, h⟩ := h
  obtain ⟨y61, h⟩ := h
  obtain ⟨y62, h⟩ := h
  obtain ⟨y63, h⟩ := h
  obtain ⟨y64, h⟩ := h
  obtain ⟨y65, h⟩ := h
  obtain ⟨y66, h⟩ := h
  obtain ⟨y67, h⟩ := h
  obtain ⟨y68, h⟩ := h
  obtain ⟨y69, h⟩ := h
  obtain ⟨y70, h⟩ := h
  obtain ⟨y71, h⟩ := h
  obtain ⟨y72, h⟩ := h
  obtain ⟨y73, h⟩ := h
  obtain ⟨y74, h⟩ := h
  obtain ⟨y75, h⟩ := h
  obtain ⟨y76, h⟩ := h
  obtain ⟨y77, h⟩ := h
  obtain ⟨y78, h⟩ := h
  obtain ⟨y79, h⟩ := h
  obtain ⟨y80, h⟩ := h
  obtain ⟨y81, h⟩ := h
  obtain ⟨y82, h⟩ := h
  obtain ⟨y83, h⟩ := h
  obtain ⟨y84, h⟩ := h
  obtain ⟨y85, h⟩ := h
  obtain ⟨y86, h⟩ := h
  obtain ⟨y87, h⟩ := h
  obtain ⟨y88, h⟩ := h
  obtain ⟨y89, h⟩ := h
  obtain ⟨y90, h⟩ := h
  obtain ⟨y91, h⟩ := h
  obtain ⟨y92, h⟩ := h
  obtain ⟨y93, h⟩ := h
  obtain ⟨y94, h⟩ := h
  obtain ⟨y95, h⟩ := h
  obtain ⟨y96, h⟩ := h
  obtain ⟨y97, h⟩ := h
  obtain ⟨y98, h⟩ := h
  obtain ⟨y99, h⟩ := h
  obtain ⟨h, rfl, hq⟩ := h
  subst h
  exact hend y52 y53 y54 y55 y56 y57 y58 y59 y60 y61 y62 y63 y64 y65 y66 y67 y68 y69 y70 y71 y72 y73 y74 y75 y76 y77 y78 y79 y80 y81 y82 y83 y84 y85 y86 y87 y88 y89 y90 y91 y92 y93 y94 y95 y96 y97 y98 y99 w' hq
def ris11_A : List (List Nat) := ([] :: [] :: [0, 1] :: [2, 0, 1] :: [] :: [4] :: [] :: [5, 6, 4] :: [7, 5, 6, 4] :: [8, 7, 5, 6, 4] :: (3 :: 9 :: 2 :: 0 :: 1 :: 8 :: 7 :: 5 :: 6 :: 4 :: []) :: (10 :: 3 :: 9 :: 2 :: 0 :: 1 :: 8 :: 7 :: 5 :: 6 :: 4 :: []) :: (11 :: 10 :: 3 :: 9 :: 2 :: 0 :: 1 :: 8 :: 7 :: 5 :: 6 :: 4 :: []) :: (11 :: 10 :: 3 :: 9 :: 2 :: 0 :: 1 :: 8 :: 7 :: 5 :: 6 :: 4 :: []) :: (12 :: 13 :: 11 :: 10 :: 3 :: 9 :: 2 :: 0 :: 1 :: 8 :: 7 :: 5 :: 6 :: 4 :: []) :: (14 :: 11 :: 12 :: 13 :: 10 :: 3 :: 9 :: 2 :: 0 :: 1 :: 8 :: 7 :: 5 :: 6 :: 4 :: []) :: (15 :: 11 :: 14 :: 12 :: 13 :: 10 :: 3 :: 9 :: 2 :: 0 :: 1 :: 8 :: 7 :: 5 :: 6 :: 4 :: []) :: (11 :: 10 :: 3 :: 9 :: 2 :: 0 :: 1 :: 8 :: 7 :: 5 :: 6 :: 4 :: []) :: (17 :: 11 :: 10 :: 3 :: 9 :: 2 :: 0 :: 1 :: 8 :: 7 :: 5 :: 6 :: 4 :: []) :: (11 :: 10 :: 3 :: 9 :: 2 :: 0 :: 1 :: 8 :: 7 :: 5 :: 6 :: 4 :: []) :: (18 :: 19 :: 11 :: 17 :: 10 :: 3 :: 9 :: 2 :: 0 :: 1 :: 8 :: 7 :: 5 :: 6 :: 4 :: []) :: (20 :: 11 :: 18 :: 19 :: 17 :: 10 :: 3 :: 9 :: 2 :: 0 :: 1 :: 8 :: 7 :: 5 :: 6 :: 4 :: []) :: (16 :: 21 :: 11 :: 15 :: 14 :: 12 :: 13 :: 10 :: 3 :: 9 :: 2 :: 0 :: 1 :: 8 :: 7 :: 5 :: 6 :: 4 :: 20 :: 18 :: 19 :: 17 :: []) :: (11 :: 22 :: 10 :: 3 :: 9 :: 2 :: 0 :: 1 :: 8 :: 7 :: 5 :: 6 :: 4 :: 16 :: 21 :: 15 :: 14 :: 12 :: 13 :: 20 :: 18 :: 19 :: 17 :: []) :: [])
def ris11_kill : List (List Nat) := ([] :: [] :: [] :: [] :: [] :: [] :: [] :: [] :: [] :: [] :: [] :: [] :: [] :: [] :: [] :: [] :: [] :: [] :: [] :: [] :: [] :: [] :: [] :: [] :: [])
def ris11_uses : List (List Nat) := ([] :: [] :: [] :: [] :: [] :: [] :: [] :: [] :: [] :: [] :: [] :: [] :: [] :: [] :: [] :: [] :: [] :: [] :: [] :: [] :: [] :: [] :: [] :: [] :: [])
noncomputable def ris11_code : Code := ((Try.f26.body.bind (codeRegion 11)).getD .skip)
set_option maxRecDepth 100000 in
set_option maxHeartbeats 4000000 in
theorem ris11_in (most : Int) (N c ci cm : Nat) (xm : Mb) (gi gm gx k xb : Nat) (w0 : World) (hkI : (k : Int) < (N : Int))  (u0 u1 u2 u3 u4 u6 u7 u8 u9 u10 u11 u12 u13 u14 u15 u16 u17 u18 u22 u23 u24 u25 u26 u27 u28 u29 u30 u31 u32 u33 u34 u35 u36 u37 u38 u39 u40 u41 u42 u43 u44 u45 u46 u47 u48 u49 u50 u51 u52 u53 u54 u55 u56 u57 u58 u59 u60 u61 u62 u63 u64 u65 u66 u67 u68 u69 u70 u71 u72 u73 u74 u75 u76 u77 u78 u79 u80 u81 u82 u83 u84 u85 u86 u87 u88 u89 u90 u91 u92 u93 u94 u95 u96 u97 u98 u99 u100 u101 u102 u103 u104 u105 u106 u107 u108 u109 u110 u111 u112 u113 u114 u115 u116 u117 u118 u119 u120 u121 u122 u123 u124 u125 u126 u127 u128 u129 u130 u131 u132 u133 u134 u135 u136 u137 : Value) (w : World) (hG : Fj most N c xm gi gm gx k xb w0 w) :
    Code.wp Try.prog ris11_code (fun e a w' => ∃ y107 y108 y109 y110 y111 y112 y113 y114 y115 y116 y117 y118 y119 y120 y121 y122 y123 y124 y125 y126 y127 y128 y129 : Value, a = ⟨(List.toArray (u0 :: u1 :: u2 :: u3 :: u4 :: .pointer (some ⟨xb, 0, none⟩) :: u6 :: u7 :: u8 :: u9 :: u10 :: u11 :: u12 :: u13 :: u14 :: u15 :: u16 :: u17 :: u18 :: .slice (some ⟨gi, 0, none⟩) N ci :: .slice (some ⟨gm, 0, none⟩) N cm :: .int .i64 (k : Int) :: u22 :: u23 :: u24 :: u25 :: u26 :: u27 :: u28 :: u29 :: u30 :: u31 :: u32 :: u33 :: u34 :: u35 :: u36 :: u37 :: u38 :: u39 :: u40 :: u41 :: u42 :: u43 :: u44 :: u45 :: u46 :: u47 :: u48 :: u49 :: u50 :: u51 :: u52 :: u53 :: u54 :: u55 :: u56 :: u57 :: u58 :: u59 :: u60 :: u61 :: u62 :: u63 :: u64 :: u65 :: u66 :: u67 :: u68 :: u69 :: u70 :: u71 :: u72 :: u73 :: u74 :: u75 :: u76 :: u77 :: u78 :: u79 :: u80 :: u81 :: u82 :: u83 :: u84 :: u85 :: u86 :: u87 :: u88 :: u89 :: u90 :: u91 :: u92 :: u93 :: u94 :: u95 :: u96 :: u97 :: u98 :: u99 :: u100 :: u101 :: u102 :: u103 :: u104 :: u105 :: u106 :: y107 :: y108 :: y109 :: y110 :: y111 :: y112 :: y113 :: y114 :: y115 :: y116 :: y117 :: y118 :: y119 :: y120 :: y121 :: y122 :: y123 :: y124 :: y125 :: y126 :: y127 :: y128 :: y129 :: .bool false :: u131 :: u132 :: u133 :: u134 :: u135 :: u136 :: u137 :: [])), []⟩ ∧ e = .normal ∧ (Fj most N c xm gi gm gx k xb w0 w')) ⟨(List.toArray (u0 :: u1 :: u2 :: u3 :: u4 :: .pointer (some ⟨xb, 0, none⟩) :: u6 :: u7 :: u8 :: u9 :: u10 :: u11 :: u12 :: u13 :: u14 :: u15 :: u16 :: u17 :: u18 :: .slice (some ⟨gi, 0, none⟩) N ci :: .slice (some ⟨gm, 0, none⟩) N cm :: .int .i64 (k : Int) :: u22 :: u23 :: u24 :: u25 :: u26 :: u27 :: u28 :: u29 :: u30 :: u31 :: u32 :: u33 :: u34 :: u35 :: u36 :: u37 :: u38 :: u39 :: u40 :: u41 :: u42 :: u43 :: u44 :: u45 :: u46 :: u47 :: u48 :: u49 :: u50 :: u51 :: u52 :: u53 :: u54 :: u55 :: u56 :: u57 :: u58 :: u59 :: u60 :: u61 :: u62 :: u63 :: u64 :: u65 :: u66 :: u67 :: u68 :: u69 :: u70 :: u71 :: u72 :: u73 :: u74 :: u75 :: u76 :: u77 :: u78 :: u79 :: u80 :: u81 :: u82 :: u83 :: u84 :: u85 :: u86 :: u87 :: u88 :: u89 :: u90 :: u91 :: u92 :: u93 :: u94 :: u95 :: u96 :: u97 :: u98 :: u99 :: u100 :: u101 :: u102 :: u103 :: u104 :: u105 :: u106 :: u107 :: u108 :: u109 :: u110 :: u111 :: u112 :: u113 :: u114 :: u115 :: u116 :: u117 :: u118 :: u119 :: u120 :: u121 :: u122 :: u123 :: u124 :: u125 :: u126 :: u127 :: u128 :: u129 :: u130 :: u131 :: u132 :: u133 :: u134 :: u135 :: u136 :: u137 :: [])), []⟩ w := by
  conv => arg 2; whnf
  refine wp_region_posts ris11_A [16] [] ris11_kill ris11_uses [] [] [] []
      (some ?v0 :: some ?v1 :: some ?v2 :: some ?v3 :: some ?v4 :: some ?v5 :: some ?v6 :: some ?v7 :: some ?v8 :: some ?v9 :: some ?v10 :: some ?v11 :: some ?v12 :: some ?v13 :: some ?v14 :: some ((mbV xm)) :: some ((mbV xm)) :: some ?v17 :: some ?v18 :: some ?v19 :: some ?v20 :: some ((mbV xm)) :: some ((.bool false)) :: some ?v23 :: [])
      ?T (fun wx => Fj most N c xm gi gm gx k xb w0 wx) ?W ?E (by kernel_rfl) (by kernel_rfl) (by kernel_rfl) (fun x => ?hT) ?hF ?hini (Reg.all_ops ?runs) ?pres ?fin
  case W => exact fun j y w' => True
  case E => exact fun i wx wy => Only (fun _ => False) wx wy
  case hT =>
    simp only [Reg.fillV, Act.put, List.setIfInBounds_toArray, List.set_cons_zero, List.set_cons_succ]
    rfl
  case runs =>
    refine And.intro ?_ ?_
    · refine Reg.ob_pure (fun _ => rfl) rfl rfl rfl rfl (fun x w1 hF => ?_)
      have c1 : w1.cell? ⟨xb, 1, none⟩ = some (.slice (some ⟨gx, 0, none⟩) N c) := hF.io.cell 1
      have c2 := hF.ci
      have r0 : w1.cell? ⟨gx, k * 4, none⟩ = some (.int .i64 xm.id) := range_cell (j := 0) hF.rx rfl
      have hkI := hkI
      go_simp
      with_reducible rfl
    refine And.intro ?_ ?_
    · refine Reg.ob_pure (fun _ => rfl) rfl rfl rfl rfl (fun x w1 hF => ?_)
      have c1 : w1.cell? ⟨xb, 1, none⟩ = some (.slice (some ⟨gx, 0, none⟩) N c) := hF.io.cell 1
      have c2 := hF.ci
      have r0 : w1.cell? ⟨gx, k * 4, none⟩ = some (.int .i64 xm.id) := range_cell (j := 0) hF.rx rfl
      have hkI := hkI
      go_simp
      with_reducible rfl
    refine And.intro ?_ ?_
    · refine Reg.ob_pure (fun _ => rfl) rfl rfl rfl rfl (fun x w1 hF => ?_)
      have c1 : w1.cell? ⟨xb, 1, none⟩ = some (.slice (some ⟨gx, 0, none⟩) N c) := hF.io.cell 1
      have c2 := hF.ci
      have r0 : w1.cell? ⟨gx, k * 4, none⟩ = some (.int .i64 xm.id) := range_cell (j := 0) hF.rx rfl
      have hkI := hkI
      go_simp
      with_reducible rfl
    refine And.intro ?_ ?_
    · refine Reg.ob_pure (fun _ => rfl) rfl rfl rfl rfl (fun x w1 hF => ?_)
      have c1 : w1.cell? ⟨xb, 1, none⟩ = some (.slice (some ⟨gx, 0, none⟩) N c) := hF.io.cell 1
      have c2 := hF.ci
      have r0 : w1.cell? ⟨gx, k * 4, none⟩ = some (.int .i64 xm.id) := range_cell (j := 0) hF.rx rfl
      have hkI := hkI
      go_simp
      with_reducible rfl
    refine And.intro ?_ ?_
    · refine Reg.ob_pure (fun _ => rfl) rfl rfl rfl rfl (fun x w1 hF => ?_)
      have c1 : w1.cell? ⟨xb, 1, none⟩ = some (.slice (some ⟨gx, 0, none⟩) N c) := hF.io.cell 1
      have c2 := hF.ci
      have r0 : w1.cell? ⟨gx, k * 4, none⟩ = some (.int .i64 xm.id) := range_cell (j := 0) hF.rx rfl
      have hkI := hkI
      go_simp
      with_reducible rfl
    refine And.intro ?_ ?_
    · refine Reg.ob_pure (fun _ => rfl) rfl rfl rfl rfl (fun x w1 hF => ?_)
      have c1 : w1.cell? ⟨xb, 1, none⟩ = some (.slice (some ⟨gx, 0, none⟩) N c) := hF.io.cell 1
      have c2 := hF.ci
      have r0 : w1.cell? ⟨gx, k * 4, none⟩ = some (.int .i64 xm.id) := range_cell (j := 0) hF.rx rfl
      have hkI := hkI
      go_simp
      with_reducible rfl
    refine And.intro ?_ ?_
    · refine Reg.ob_pure (fun _ => rfl) rfl rfl rfl rfl (fun x w1 hF => ?_)
      have c1 : w1.cell? ⟨xb, 1, none⟩ = some (.slice (some ⟨gx, 0, none⟩) N c) := hF.io.cell 1
      have c2 := hF.ci
      have r0 : w1.cell? ⟨gx, k * 4, none⟩ = some (.int .i64 xm.id) := range_cell (j := 0) hF.rx rfl
      have hkI := hkI
      go_simp
      with_reducible rfl
    refine And.intro ?_ ?_
    · refine Reg.ob_pure (fun _ => rfl) rfl rfl rfl rfl (fun x w1 hF => ?_)
      have c1 : w1.cell? ⟨xb, 1, none⟩ = some (.slice (some ⟨gx, 0, none⟩) N c) := hF.io.cell 1
      have c2 := hF.ci
      have r0 : w1.cell? ⟨gx, k * 4, none⟩ = some (.int .i64 xm.id) := range_cell (j := 0) hF.rx rfl
      have hkI := hkI
      go_simp
      with_reducible rfl
    refine And.intro ?_ ?_
    · refine Reg.ob_pure (fun _ => rfl) rfl rfl rfl rfl (fun x w1 hF => ?_)
      have c1 : w1.cell? ⟨xb, 1, none⟩ = some (.slice (some ⟨gx, 0, none⟩) N c) := hF.io.cell 1
      have c2 := hF.ci
      have r0 : w1.cell? ⟨gx, k * 4, none⟩ = some (.int .i64 xm.id) := range_cell (j := 0) hF.rx rfl
      have hkI := hkI
      go_simp
      with_reducible rfl
    refine And.intro ?_ ?_
    · refine Reg.ob_pure (fun _ => rfl) rfl rfl rfl rfl (fun x w1 hF => ?_)
      have c1 : w1.cell? ⟨xb, 1, none⟩ = some (.slice (some ⟨gx, 0, none⟩) N c) := hF.io.cell 1
      have c2 := hF.ci
      have r0 : w1.cell? ⟨gx, k * 4, none⟩ = some (.int .i64 xm.id) := range_cell (j := 0) hF.rx rfl
      have hkI := hkI
      go_simp
      with_reducible rfl
    refine And.intro ?_ ?_
    · refine Reg.ob_pure (fun _ => rfl) rfl rfl rfl rfl (fun x w1 hF => ?_)
      have c1 : w1.cell? ⟨xb, 1, none⟩ = some (.slice (some ⟨gx, 0, none⟩) N c) := hF.io.cell 1
      have c2 := hF.ci
      have r0 : w1.cell? ⟨gx, k * 4, none⟩ = some (.int .i64 xm.id) := range_cell (j := 0) hF.rx rfl
      have hkI := hkI
      go_simp
      with_reducible rfl
    refine And.intro ?_ ?_
    · refine Reg.ob_pure (fun _ => rfl) rfl rfl rfl rfl (fun x w1 hF => ?_)
      have c1 : w1.cell? ⟨xb, 1, none⟩ = some (.slice (some ⟨gx, 0, none⟩) N c) := hF.io.cell 1
      have c2 := hF.ci
      have r0 : w1.cell? ⟨gx, k * 4, none⟩ = some (.int .i64 xm.id) := range_cell (j := 0) hF.rx rfl
      have hkI := hkI
      go_simp
      with_reducible rfl
    refine And.intro ?_ ?_
    · refine Reg.ob_pure (fun _ => rfl) rfl rfl rfl rfl (fun x w1 hF => ?_)
      have c1 : w1.cell? ⟨xb, 1, none⟩ = some (.slice (some ⟨gx, 0, none⟩) N c) := hF.io.cell 1
      have c2 := hF.ci
      have r0 : w1.cell? ⟨gx, k * 4, none⟩ = some (.int .i64 xm.id) := range_cell (j := 0) hF.rx rfl
      have hkI := hkI
      go_simp
      with_reducible rfl
    refine And.intro ?_ ?_
    · refine Reg.ob_pure (fun _ => rfl) rfl rfl rfl rfl (fun x w1 hF => ?_)
      have c1 : w1.cell? ⟨xb, 1, none⟩ = some (.slice (some ⟨gx, 0, none⟩) N c) := hF.io.cell 1
      have c2 := hF.ci
      have r0 : w1.cell? ⟨gx, k * 4, none⟩ = some (.int .i64 xm.id) := range_cell (j := 0) hF.rx rfl
      have hkI := hkI
      go_simp
      with_reducible rfl
    refine And.intro ?_ ?_
    · refine Reg.ob_pure (fun _ => rfl) rfl rfl rfl rfl (fun x w1 hF => ?_)
      have c1 : w1.cell? ⟨xb, 1, none⟩ = some (.slice (some ⟨gx, 0, none⟩) N c) := hF.io.cell 1
      have c2 := hF.ci
      have r0 : w1.cell? ⟨gx, k * 4, none⟩ = some (.int .i64 xm.id) := range_cell (j := 0) hF.rx rfl
      have hkI := hkI
      go_simp
      with_reducible rfl
    refine And.intro ?_ ?_
    · refine Reg.ob_known (fun _ => rfl) rfl rfl (fun x w1 hF hU K hK => ?_)
      refine wp_load_mid 58 _ rfl gm (k * 4) ?_ (mbA xm).toList _ (hF rfl).rm Try.underlying58 rfl Try.sizeMb ?_
      · go_simp
        try rfl
      · exact hK w1 (fun h _ _ => absurd h (by decide)) rfl
    refine And.intro ?_ ?_
    · refine Reg.ob_known (fun _ => rfl) rfl rfl (fun x w1 hF hU K hK => ?_)
      replace hF := hF rfl
      go_simp
      refine (ref_is xm w1).mono ?_
      rintro e w5 ⟨rfl, ho⟩
      exact hK w5 (fun _ _ _ => hF.go ho) ho
    refine And.intro ?_ ?_
    · refine Reg.ob_pure (fun _ => rfl) rfl rfl rfl rfl (fun x w1 hF => ?_)
      have c1 : w1.cell? ⟨xb, 1, none⟩ = some (.slice (some ⟨gx, 0, none⟩) N c) := hF.io.cell 1
      have c2 := hF.ci
      have r0 : w1.cell? ⟨gx, k * 4, none⟩ = some (.int .i64 xm.id) := range_cell (j := 0) hF.rx rfl
      have hkI := hkI
      go_simp
      with_reducible rfl
    refine And.intro ?_ ?_
    · refine Reg.ob_pure (fun _ => rfl) rfl rfl rfl rfl (fun x w1 hF => ?_)
      have c1 : w1.cell? ⟨xb, 1, none⟩ = some (.slice (some ⟨gx, 0, none⟩) N c) := hF.io.cell 1
      have c2 := hF.ci
      have r0 : w1.cell? ⟨gx, k * 4, none⟩ = some (.int .i64 xm.id) := range_cell (j := 0) hF.rx rfl
      have hkI := hkI
      go_simp
      with_reducible rfl
    refine And.intro ?_ ?_
    · refine Reg.ob_pure (fun _ => rfl) rfl rfl rfl rfl (fun x w1 hF => ?_)
      have c1 : w1.cell? ⟨xb, 1, none⟩ = some (.slice (some ⟨gx, 0, none⟩) N c) := hF.io.cell 1
      have c2 := hF.ci
      have r0 : w1.cell? ⟨gx, k * 4, none⟩ = some (.int .i64 xm.id) := range_cell (j := 0) hF.rx rfl
      have hkI := hkI
      go_simp
      with_reducible rfl
    refine And.intro ?_ ?_
    · refine Reg.ob_pure (fun _ => rfl) rfl rfl rfl rfl (fun x w1 hF => ?_)
      have c1 : w1.cell? ⟨xb, 1, none⟩ = some (.slice (some ⟨gx, 0, none⟩) N c) := hF.io.cell 1
      have c2 := hF.ci
      have r0 : w1.cell? ⟨gx, k * 4, none⟩ = some (.int .i64 xm.id) := range_cell (j := 0) hF.rx rfl
      have hkI := hkI
      go_simp
      with_reducible rfl
    refine And.intro ?_ ?_
    · refine Reg.ob_known (fun _ => rfl) rfl rfl (fun x w1 hF hU K hK => ?_)
      refine wp_load_mid 65 _ rfl gx (k * 4) ?_ (mbA xm).toList _ (hF rfl).rx Try.underlying65 rfl Try.sizeRm ?_
      · go_simp
        try rfl
      · exact hK w1 (fun h _ _ => absurd h (by decide)) rfl
    refine And.intro ?_ ?_
    · refine Reg.ob_pure (fun _ => rfl) rfl rfl rfl rfl (fun x w1 hF => ?_)
      exact run_ne_rm _ _ _ xm rfl rfl rfl
    refine And.intro ?_ ?_
    · refine Reg.ob_pure (fun _ => rfl) rfl rfl rfl rfl (fun x w1 hF => ?_)
      have c1 : w1.cell? ⟨xb, 1, none⟩ = some (.slice (some ⟨gx, 0, none⟩) N c) := hF.io.cell 1
      have c2 := hF.ci
      have r0 : w1.cell? ⟨gx, k * 4, none⟩ = some (.int .i64 xm.id) := range_cell (j := 0) hF.rx rfl
      have hkI := hkI
      go_simp
      with_reducible rfl
    exact trivial
  case hF =>
    exact hG.go ((Only.refl _ _).drewN 1)
  case hini =>
    exact trivial
  case pres =>
    intro i hi j hj
    simp at hj
  case fin =>
    rintro x w9 hF hU
    repeat apply Exists.intro
    exact ⟨rfl, rfl, hF rfl⟩

set_option maxRecDepth 100000 in
set_option maxHeartbeats 4000000 in
theorem ris11 (most : Int) (N c ci cm : Nat) (xm : Mb) (gi gm gx k xb : Nat) (w0 : World) (hkI : (k : Int) < (N : Int))  (u0 u1 u2 u3 u4 u6 u7 u8 u9 u10 u11 u12 u13 u14 u15 u16 u17 u18 u22 u23 u24 u25 u26 u27 u28 u29 u30 u31 u32 u33 u34 u35 u36 u37 u38 u39 u40 u41 u42 u43 u44 u45 u46 u47 u48 u49 u50 u51 u52 u53 u54 u55 u56 u57 u58 u59 u60 u61 u62 u63 u64 u65 u66 u67 u68 u69 u70 u71 u72 u73 u74 u75 u76 u77 u78 u79 u80 u81 u82 u83 u84 u85 u86 u87 u88 u89 u90 u91 u92 u93 u94 u95 u96 u97 u98 u99 u100 u101 u102 u103 u104 u105 u106 u107 u108 u109 u110 u111 u112 u113 u114 u115 u116 u117 u118 u119 u120 u121 u122 u123 u124 u125 u126 u127 u128 u129 u130 u131 u132 u133 u134 u135 u136 u137 : Value) (Q : Exit → Act → World → Prop) (w : World) (hG : Fj most N c xm gi gm gx k xb w0 w)
    (hend : ∀ (y107 y108 y109 y110 y111 y112 y113 y114 y115 y116 y117 y118 y119 y120 y121 y122 y123 y124 y125 y126 y127 y128 y129 : Value) (w' : World), (Fj most N c xm gi gm gx k xb w0 w') → Q .normal ⟨(List.toArray (u0 :: u1 :: u2 :: u3 :: u4 :: .pointer (some ⟨xb, 0, none⟩) :: u6 :: u7 :: u8 :: u9 :: u10 :: u11 :: u12 :: u13 :: u14 :: u15 :: u16 :: u17 :: u18 :: .slice (some ⟨gi, 0, none⟩) N ci :: .slice (some ⟨gm, 0, none⟩) N cm :: .int .i64 (k : Int) :: u22 :: u23 :: u24 :: u25 :: u26 :: u27 :: u28 :: u29 :: u30 :: u31 :: u32 :: u33 :: u34 :: u35 :: u36 :: u37 :: u38 :: u39 :: u40 :: u41 :: u42 :: u43 :: u44 :: u45 :: u46 :: u47 :: u48 :: u49 :: u50 :: u51 :: u52 :: u53 :: u54 :: u55 :: u56 :: u57 :: u58 :: u59 :: u60 :: u61 :: u62 :: u63 :: u64 :: u65 :: u66 :: u67 :: u68 :: u69 :: u70 :: u71 :: u72 :: u73 :: u74 :: u75 :: u76 :: u77 :: u78 :: u79 :: u80 :: u81 :: u82 :: u83 :: u84 :: u85 :: u86 :: u87 :: u88 :: u89 :: u90 :: u91 :: u92 :: u93 :: u94 :: u95 :: u96 :: u97 :: u98 :: u99 :: u100 :: u101 :: u102 :: u103 :: u104 :: u105 :: u106 :: y107 :: y108 :: y109 :: y110 :: y111 :: y112 :: y113 :: y114 :: y115 :: y116 :: y117 :: y118 :: y119 :: y120 :: y121 :: y122 :: y123 :: y124 :: y125 :: y126 :: y127 :: y128 :: y129 :: .bool false :: u131 :: u132 :: u133 :: u134 :: u135 :: u136 :: u137 :: [])), []⟩ w') :
    Code.wp Try.prog ris11_code Q ⟨(List.toArray (u0 :: u1 :: u2 :: u3 :: u4 :: .pointer (some ⟨xb, 0, none⟩) :: u6 :: u7 :: u8 :: u9 :: u10 :: u11 :: u12 :: u13 :: u14 :: u15 :: u16 :: u17 :: u18 :: .slice (some ⟨gi, 0, none⟩) N ci :: .slice (some ⟨gm, 0, none⟩) N cm :: .int .i64 (k : Int) :: u22 :: u23 :: u24 :: u25 :: u26 :: u27 :: u28 :: u29 :: u30 :: u31 :: u32 :: u33 :: u34 :: u35 :: u36 :: u37 :: u38 :: u39 :: u40 :: u41 :: u42 :: u43 :: u44 :: u45 :: u46 :: u47 :: u48 :: u49 :: u50 :: u51 :: u52 :: u53 :: u54 :: u55 :: u56 :: u57 :: u58 :: u59 :: u60 :: u61 :: u62 :: u63 :: u64 :: u65 :: u66 :: u67 :: u68 :: u69 :: u70 :: u71 :: u72 :: u73 :: u74 :: u75 :: u76 :: u77 :: u78 :: u79 :: u80 :: u81 :: u82 :: u83 :: u84 :: u85 :: u86 :: u87 :: u88 :: u89 :: u90 :: u91 :: u92 :: u93 :: u94 :: u95 :: u96 :: u97 :: u98 :: u99 :: u100 :: u101 :: u102 :: u103 :: u104 :: u105 :: u106 :: u107 :: u108 :: u109 :: u110 :: u111 :: u112 :: u113 :: u114 :: u115 :: u116 :: u117 :: u118 :: u119 :: u120 :: u121 :: u122 :: u123 :: u124 :: u125 :: u126 :: u127 :: u128 :: u129 :: u130 :: u131 :: u132 :: u133 :: u134 :: u135 :: u136 :: u137 :: [])), []⟩ w := by
  refine wp_mono (ris11_in most N c ci cm xm gi gm gx k xb w0 hkI _ _ _ _ _ _ _ _ _ _ _ _ _ _ _ _ _ _ _ _ _ _ _ _ _ _ _ _ _ _ _ _ _ _ _ _ _ _ _ _ _ _ _ _ _ _ _ _ _ _ _ _ _ _ _ _ _ _ _ _ _ _ _ _ _ _ _ _ _ _ _ _ _ _ _ _ _ _ _ _ _ _ _ _ _ _ _ _ _ _ _ _ _ _ _ _ _ _ _ _ _ _ _ _ _ _ _ _ _ _ _ _ _ _ _ _ _ _ _ _ _ _ _ _ _ _ _ _ _ _ _ _ _ _ w hG) ?_
  rintro e a w' h
  obtain ⟨y107, h⟩ := h
  obtain ⟨y108, h⟩ := h
  obtain ⟨y109, h⟩ := h
  obtain ⟨y110, h⟩ := h
  obtain ⟨y111, h⟩ := h
  obtain ⟨y112, h⟩ := h
  obtain ⟨y113, h⟩ := h
  obtain ⟨y114, h⟩ := h
  obtain ⟨y115, h⟩ := h
  obtain ⟨y116, h⟩ := h
  obtain ⟨y117, h⟩ := h
  obtain ⟨y118, h⟩ := h
  obtain ⟨y119, h⟩ := h
  obtain ⟨y120, h⟩ := h
  obtain ⟨y121, h⟩ := h
  obtain ⟨y122, h⟩ := h
  obtain ⟨y123, h⟩ := h
  obtain ⟨y124, h⟩ := h
  obtain ⟨y125, h⟩ := h
  obtain ⟨y126, h⟩ := h
  obtain ⟨y127, h⟩ := h
  obtain ⟨y128, h⟩ := h
  obtain ⟨y129, h⟩ := h
  obtain ⟨h, rfl, hq⟩ := h
  subst h
  exact hend y107 y108 y109 y110 y111 y112 y113 y114 y115 y116 y117 y118 y119 y120 y121 y122 y123 y124 y125 y126 y127 y128 y129 w' hq
end Go.Proofs.Ytglgmhdajmncjaa
