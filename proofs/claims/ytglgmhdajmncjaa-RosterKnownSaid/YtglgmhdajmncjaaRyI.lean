/- roster: Leave. Conditions: as each says. -/
import Derived.Test.YtglgmhdajmncjaaRyH
set_option linter.unusedVariables false
set_option linter.unusedSimpArgs false
namespace Go.Proofs.Ytglgmhdajmncjaa
open Go Go.RowKit

section
variable {P : Program} {w : World} {o : Oper} {a : Act} {K : Act → World → Prop} {Q : Exit → Act → World → Prop} {b n : Nat} {q : IntKind} {ms : List (Nat × Value)}
theorem wp_mdel (m x : Operand) (t k : TypeId) (hop : o.op = Op.call { callee := Callee.builtin Builtin.delete, args := #[m, x], argTypes := #[t, k] }) (e : TypeId) (ht : P.underlying t = some (.map k e)) (hk : P.underlying k = some (.int q))
    (hm : a.eval m = .map (some b)) (h : MapAt w b q ms) (hx : a.eval x = .int q (n : Int)) (hn : (Lit.int q (n : Int)).wf = true)
    (hK : ∀ w' : World, MapAt w' b q (ms.filter (fun m => m.1 != n)) → Only (fun k => k = b) w w' → K (a.put o.dst (.tuple #[])) w') : Oper.wp P o a w K Q := by
  obtain ⟨w', hrun, r1, r2⟩ := h.del ht hk hn o.type
  unfold Oper.wp
  simp [execOp, hop, resolve, invoke, builtin, hm, hx, hrun, Result.andThen]
  exact hK w' r1 r2
end
def rl7_A : List (List Nat) := [[], [0], [1, 0], [2, 1, 0], [], [4], [3, 5, 2, 1, 0, 4]]
def rl7_kill : List (List Nat) := [[], [], [], [], [], [], [7]]
def rl7_uses : List (List Nat) := [[], [], [], [], [], [], [7]]
noncomputable def rl7_code : Code := ((Try.f21.body.bind (codeRegion 7)).getD .skip)
set_option maxRecDepth 100000 in
set_option maxHeartbeats 4000000 in
theorem rl7_in (cs : Array Value) (mm : Mb) (b gb mb : Nat) (ms : List (Nat × Value)) (w0 : World) (hcf : cs[2]? = some (.map (some mb))) (hne1 : b ≠ mb) (hne2 : gb ≠ mb) (q1 : mm.co < 4294967296)  (u1 u2 u3 u4 u6 u7 u8 u9 u10 u11 u12 u13 u14 u15 u16 u17 u18 u19 u20 u21 u22 u23 u24 u25 u26 u27 u28 u29 u30 u31 u32 u33 u34 u35 u36 u37 u38 : Value) (w : World) (hG : Jn cs mm b gb mb w0 w) (hmp : MapAt w mb .u32 ms) :
    Code.wp Try.prog rl7_code (fun e a w' => ∃ y27 y28 y29 y30 y31 y32 : Value, a = ⟨(List.toArray (.pointer (some ⟨b, 0, none⟩) :: u1 :: u2 :: u3 :: u4 :: .pointer (some ⟨gb, 0, none⟩) :: u6 :: u7 :: u8 :: u9 :: u10 :: u11 :: u12 :: u13 :: u14 :: u15 :: u16 :: u17 :: u18 :: u19 :: u20 :: u21 :: u22 :: u23 :: u24 :: u25 :: u26 :: y27 :: y28 :: y29 :: y30 :: y31 :: y32 :: u33 :: u34 :: u35 :: u36 :: u37 :: u38 :: [])), []⟩ ∧ e = .normal ∧ (MapAt w' mb .u32 (ms.filter (fun x => x.1 != mm.co)) ∧ Jn cs mm b gb mb w0 w')) ⟨(List.toArray (.pointer (some ⟨b, 0, none⟩) :: u1 :: u2 :: u3 :: u4 :: .pointer (some ⟨gb, 0, none⟩) :: u6 :: u7 :: u8 :: u9 :: u10 :: u11 :: u12 :: u13 :: u14 :: u15 :: u16 :: u17 :: u18 :: u19 :: u20 :: u21 :: u22 :: u23 :: u24 :: u25 :: u26 :: u27 :: u28 :: u29 :: u30 :: u31 :: u32 :: u33 :: u34 :: u35 :: u36 :: u37 :: u38 :: [])), []⟩ w := by
  conv => arg 2; whnf
  have HCF := Lib.hid hcf
  have h1 := Lib.hid (wfU32 q1)
  clear hcf q1
  refine wp_region_posts rl7_A [6] [6, 7] rl7_kill rl7_uses [6] [] [] [7]
      [some ?v0, some ?v1, some ?v2, some ?v3, some ?v4, some ?v5, none]
      ?T (fun wx => Jn cs mm b gb mb w0 wx) ?W ?E (by kernel_rfl) (by kernel_rfl) (by kernel_rfl) (fun x => ?hT) ?hF ?hini (Reg.all_ops ?runs) ?pres ?fin
  case W => exact fun j x w' => match j with | 6 => MapAt w' mb .u32 (ms.filter (fun x => x.1 != mm.co)) | 7 => MapAt w' mb .u32 ms | _ => True
  case E => exact fun i w' w'' => True
  case hT =>
    simp only [Reg.fillV, Act.put, List.setIfInBounds_toArray, List.set_cons_zero, List.set_cons_succ]
    rfl
  case runs =>
    refine And.intro ?_ ?_
    · refine Reg.ob_pure (fun _ => rfl) rfl rfl rfl rfl (fun x w1 hF => ?_)
      have cf : w1.cell? ⟨b, 2, none⟩ = some (.map (some mb)) := (hF.io.cell 2).trans HCF.out
      have g0 : w1.cell? ⟨gb, 1, none⟩ = some (.int .u32 (mm.co : Int)) := hF.ig.cell 1
      go_simp
      with_reducible rfl
    refine And.intro ?_ ?_
    · refine Reg.ob_pure (fun _ => rfl) rfl rfl rfl rfl (fun x w1 hF => ?_)
      have cf : w1.cell? ⟨b, 2, none⟩ = some (.map (some mb)) := (hF.io.cell 2).trans HCF.out
      have g0 : w1.cell? ⟨gb, 1, none⟩ = some (.int .u32 (mm.co : Int)) := hF.ig.cell 1
      go_simp
      with_reducible rfl
    refine And.intro ?_ ?_
    · refine Reg.ob_pure (fun _ => rfl) rfl rfl rfl rfl (fun x w1 hF => ?_)
      have cf : w1.cell? ⟨b, 2, none⟩ = some (.map (some mb)) := (hF.io.cell 2).trans HCF.out
      have g0 : w1.cell? ⟨gb, 1, none⟩ = some (.int .u32 (mm.co : Int)) := hF.ig.cell 1
      go_simp
      with_reducible rfl
    refine And.intro ?_ ?_
    · refine Reg.ob_pure (fun _ => rfl) rfl rfl rfl rfl (fun x w1 hF => ?_)
      have cf : w1.cell? ⟨b, 2, none⟩ = some (.map (some mb)) := (hF.io.cell 2).trans HCF.out
      have g0 : w1.cell? ⟨gb, 1, none⟩ = some (.int .u32 (mm.co : Int)) := hF.ig.cell 1
      go_simp
      with_reducible rfl
    refine And.intro ?_ ?_
    · refine Reg.ob_pure (fun _ => rfl) rfl rfl rfl rfl (fun x w1 hF => ?_)
      have cf : w1.cell? ⟨b, 2, none⟩ = some (.map (some mb)) := (hF.io.cell 2).trans HCF.out
      have g0 : w1.cell? ⟨gb, 1, none⟩ = some (.int .u32 (mm.co : Int)) := hF.ig.cell 1
      go_simp
      with_reducible rfl
    refine And.intro ?_ ?_
    · refine Reg.ob_pure (fun _ => rfl) rfl rfl rfl rfl (fun x w1 hF => ?_)
      have cf : w1.cell? ⟨b, 2, none⟩ = some (.map (some mb)) := (hF.io.cell 2).trans HCF.out
      have g0 : w1.cell? ⟨gb, 1, none⟩ = some (.int .u32 (mm.co : Int)) := hF.ig.cell 1
      go_simp
      with_reducible rfl
    refine And.intro ?_ ?_
    · refine Reg.ob_some (fun _ => rfl) rfl (fun x w1 hF hU K hK => ?_)
      replace hF := hF rfl
      obtain ⟨hA, -⟩ := hU
      have hA : MapAt w1 mb .u32 ms := hA
      refine wp_mdel _ _ 107 30 rfl 3 Try.underlying107 Try.underlying30 rfl hA rfl h1.out ?_
      intro w' hN ho
      exact hK _ w' (fun _ _ _ => hF.go ho hne1 hne2) trivial hN
    exact trivial
  case hF =>
    exact hG.go ((Only.refl _ _).drewN 1) hne1 hne2
  case hini =>
    exact ⟨fun x => hmp.only ((Only.refl (fun _ => False) w).drewN 1) (by simp), trivial⟩
  case pres =>
    intro i hi j hj hc x wx wy hF hE hW
    simp only [List.mem_cons, List.mem_nil_iff, or_false] at hi hj
    rcases hi with rfl <;> rcases hj with rfl | rfl
    all_goals (exfalso; revert hc; decide)
  case fin =>
    rintro x w9 hF hU
    obtain ⟨hQ, -⟩ := hU
    repeat apply Exists.intro
    exact ⟨rfl, rfl, hQ, hF rfl⟩

set_option maxRecDepth 100000 in
set_option maxHeartbeats 4000000 in
theorem rl7 (cs : Array Value) (mm : Mb) (b gb mb : Nat) (ms : List (Nat × Value)) (w0 : World) (hcf : cs[2]? = some (.map (some mb))) (hne1 : b ≠ mb) (hne2 : gb ≠ mb) (q1 : mm.co < 4294967296)  (u1 u2 u3 u4 u6 u7 u8 u9 u10 u11 u12 u13 u14 u15 u16 u17 u18 u19 u20 u21 u22 u23 u24 u25 u26 u27 u28 u29 u30 u31 u32 u33 u34 u35 u36 u37 u38 : Value) (Q : Exit → Act → World → Prop) (w : World) (hG : Jn cs mm b gb mb w0 w) (hmp : MapAt w mb .u32 ms)
    (hend : ∀ (y27 y28 y29 y30 y31 y32 : Value) (w' : World), (MapAt w' mb .u32 (ms.filter (fun x => x.1 != mm.co)) ∧ Jn cs mm b gb mb w0 w') → Q .normal ⟨(List.toArray (.pointer (some ⟨b, 0, none⟩) :: u1 :: u2 :: u3 :: u4 :: .pointer (some ⟨gb, 0, none⟩) :: u6 :: u7 :: u8 :: u9 :: u10 :: u11 :: u12 :: u13 :: u14 :: u15 :: u16 :: u17 :: u18 :: u19 :: u20 :: u21 :: u22 :: u23 :: u24 :: u25 :: u26 :: y27 :: y28 :: y29 :: y30 :: y31 :: y32 :: u33 :: u34 :: u35 :: u36 :: u37 :: u38 :: [])), []⟩ w') :
    Code.wp Try.prog rl7_code Q ⟨(List.toArray (.pointer (some ⟨b, 0, none⟩) :: u1 :: u2 :: u3 :: u4 :: .pointer (some ⟨gb, 0, none⟩) :: u6 :: u7 :: u8 :: u9 :: u10 :: u11 :: u12 :: u13 :: u14 :: u15 :: u16 :: u17 :: u18 :: u19 :: u20 :: u21 :: u22 :: u23 :: u24 :: u25 :: u26 :: u27 :: u28 :: u29 :: u30 :: u31 :: u32 :: u33 :: u34 :: u35 :: u36 :: u37 :: u38 :: [])), []⟩ w := by
  refine wp_mono (rl7_in cs mm b gb mb ms w0 hcf hne1 hne2 q1 _ _ _ _ _ _ _ _ _ _ _ _ _ _ _ _ _ _ _ _ _ _ _ _ _ _ _ _ _ _ _ _ _ _ _ _ _ w hG hmp) ?_
  rintro e a w' h
  obtain ⟨y27, h⟩ := h
  obtain ⟨y28, h⟩ := h
  obtain ⟨y29, h⟩ := h
  obtain ⟨y30, h⟩ := h
  obtain ⟨y31, h⟩ := h
  obtain ⟨y32, h⟩ := h
  obtain ⟨h, rfl, hq⟩ := h
  subst h
  exact hend y27 y28 y29 y30 y31 y32 w' hq
def rl8_A : List (List Nat) := [[], [0], [1, 0], [2, 1, 0], [], [4], [3, 5, 2, 1, 0, 4]]
def rl8_kill : List (List Nat) := [[], [], [], [], [], [], [7]]
def rl8_uses : List (List Nat) := [[], [], [], [], [], [], [7]]
noncomputable def rl8_code : Code := ((Try.f21.body.bind (codeRegion 8)).getD .skip)
set_option maxRecDepth 100000 in
set_option maxHeartbeats 4000000 in
theorem rl8_in (cs : Array Value) (mm : Mb) (b gb mb : Nat) (ms : List (Nat × Value)) (w0 : World) (hcf : cs[2]? = some (.map (some mb))) (hne1 : b ≠ mb) (hne2 : gb ≠ mb) (q1 : mm.ca < 4294967296)  (u1 u2 u3 u4 u6 u7 u8 u9 u10 u11 u12 u13 u14 u15 u16 u17 u18 u19 u20 u21 u22 u23 u24 u25 u26 u27 u28 u29 u30 u31 u32 u33 u34 u35 u36 u37 u38 : Value) (w : World) (hG : Jn cs mm b gb mb w0 w) (hmp : MapAt w mb .u32 ms) :
    Code.wp Try.prog rl8_code (fun e a w' => ∃ y33 y34 y35 y36 y37 y38 : Value, a = ⟨(List.toArray (.pointer (some ⟨b, 0, none⟩) :: u1 :: u2 :: u3 :: u4 :: .pointer (some ⟨gb, 0, none⟩) :: u6 :: u7 :: u8 :: u9 :: u10 :: u11 :: u12 :: u13 :: u14 :: u15 :: u16 :: u17 :: u18 :: u19 :: u20 :: u21 :: u22 :: u23 :: u24 :: u25 :: u26 :: u27 :: u28 :: u29 :: u30 :: u31 :: u32 :: y33 :: y34 :: y35 :: y36 :: y37 :: y38 :: [])), []⟩ ∧ e = .normal ∧ (MapAt w' mb .u32 (ms.filter (fun x => x.1 != mm.ca)) ∧ Jn cs mm b gb mb w0 w')) ⟨(List.toArray (.pointer (some ⟨b, 0, none⟩) :: u1 :: u2 :: u3 :: u4 :: .pointer (some ⟨gb, 0, none⟩) :: u6 :: u7 :: u8 :: u9 :: u10 :: u11 :: u12 :: u13 :: u14 :: u15 :: u16 :: u17 :: u18 :: u19 :: u20 :: u21 :: u22 :: u23 :: u24 :: u25 :: u26 :: u27 :: u28 :: u29 :: u30 :: u31 :: u32 :: u33 :: u34 :: u35 :: u36 :: u37 :: u38 :: [])), []⟩ w := by
  conv => arg 2; whnf
  have HCF := Lib.hid hcf
  have h1 := Lib.hid (wfU32 q1)
  clear hcf q1
  refine wp_region_posts rl8_A [6] [6, 7] rl8_kill rl8_uses [6] [] [] [7]
      [some ?v0, some ?v1, some ?v2, some ?v3, some ?v4, some ?v5, none]
      ?T (fun wx => Jn cs mm b gb mb w0 wx) ?W ?E (by kernel_rfl) (by kernel_rfl) (by kernel_rfl) (fun x => ?hT) ?hF ?hini (Reg.all_ops ?runs) ?pres ?fin
  case W => exact fun j x w' => match j with | 6 => MapAt w' mb .u32 (ms.filter (fun x => x.1 != mm.ca)) | 7 => MapAt w' mb .u32 ms | _ => True
  case E => exact fun i w' w'' => True
  case hT =>
    simp only [Reg.fillV, Act.put, List.setIfInBounds_toArray, List.set_cons_zero, List.set_cons_succ]
    rfl
  case runs =>
    refine And.intro ?_ ?_
    · refine Reg.ob_pure (fun _ => rfl) rfl rfl rfl rfl (fun x w1 hF => ?_)
      have cf : w1.cell? ⟨b, 2, none⟩ = some (.map (some mb)) := (hF.io.cell 2).trans HCF.out
      have g0 : w1.cell? ⟨gb, 2, none⟩ = some (.int .u32 (mm.ca : Int)) := hF.ig.cell 2
      go_simp
      with_reducible rfl
    refine And.intro ?_ ?_
    · refine Reg.ob_pure (fun _ => rfl) rfl rfl rfl rfl (fun x w1 hF => ?_)
      have cf : w1.cell? ⟨b, 2, none⟩ = some (.map (some mb)) := (hF.io.cell 2).trans HCF.out
      have g0 : w1.cell? ⟨gb, 2, none⟩ = some (.int .u32 (mm.ca : Int)) := hF.ig.cell 2
      go_simp
      with_reducible rfl
    refine And.intro ?_ ?_
    · refine Reg.ob_pure (fun _ => rfl) rfl rfl rfl rfl (fun x w1 hF => ?_)
      have cf : w1.cell? ⟨b, 2, none⟩ = some (.map (some mb)) := (hF.io.cell 2).trans HCF.out
      have g0 : w1.cell? ⟨gb, 2, none⟩ = some (.int .u32 (mm.ca : Int)) := hF.ig.cell 2
      go_simp
      with_reducible rfl
    refine And.intro ?_ ?_
    · refine Reg.ob_pure (fun _ => rfl) rfl rfl rfl rfl (fun x w1 hF => ?_)
      have cf : w1.cell? ⟨b, 2, none⟩ = some (.map (some mb)) := (hF.io.cell 2).trans HCF.out
      have g0 : w1.cell? ⟨gb, 2, none⟩ = some (.int .u32 (mm.ca : Int)) := hF.ig.cell 2
      go_simp
      with_reducible rfl
    refine And.intro ?_ ?_
    · refine Reg.ob_pure (fun _ => rfl) rfl rfl rfl rfl (fun x w1 hF => ?_)
      have cf : w1.cell? ⟨b, 2, none⟩ = some (.map (some mb)) := (hF.io.cell 2).trans HCF.out
      have g0 : w1.cell? ⟨gb, 2, none⟩ = some (.int .u32 (mm.ca : Int)) := hF.ig.cell 2
      go_simp
      with_reducible rfl
    refine And.intro ?_ ?_
    · refine Reg.ob_pure (fun _ => rfl) rfl rfl rfl rfl (fun x w1 hF => ?_)
      have cf : w1.cell? ⟨b, 2, none⟩ = some (.map (some mb)) := (hF.io.cell 2).trans HCF.out
      have g0 : w1.cell? ⟨gb, 2, none⟩ = some (.int .u32 (mm.ca : Int)) := hF.ig.cell 2
      go_simp
      with_reducible rfl
    refine And.intro ?_ ?_
    · refine Reg.ob_some (fun _ => rfl) rfl (fun x w1 hF hU K hK => ?_)
      replace hF := hF rfl
      obtain ⟨hA, -⟩ := hU
      have hA : MapAt w1 mb .u32 ms := hA
      refine wp_mdel _ _ 107 30 rfl 3 Try.underlying107 Try.underlying30 rfl hA rfl h1.out ?_
      intro w' hN ho
      exact hK _ w' (fun _ _ _ => hF.go ho hne1 hne2) trivial hN
    exact trivial
  case hF =>
    exact hG.go ((Only.refl _ _).drewN 1) hne1 hne2
  case hini =>
    exact ⟨fun x => hmp.only ((Only.refl (fun _ => False) w).drewN 1) (by simp), trivial⟩
  case pres =>
    intro i hi j hj hc x wx wy hF hE hW
    simp only [List.mem_cons, List.mem_nil_iff, or_false] at hi hj
    rcases hi with rfl <;> rcases hj with rfl | rfl
    all_goals (exfalso; revert hc; decide)
  case fin =>
    rintro x w9 hF hU
    obtain ⟨hQ, -⟩ := hU
    repeat apply Exists.intro
    exact ⟨rfl, rfl, hQ, hF rfl⟩

set_option maxRecDepth 100000 in
set_option maxHeartbeats 4000000 in
theorem rl8 (cs : Array Value) (mm : Mb) (b gb mb : Nat) (ms : List (Nat × Value)) (w0 : World) (hcf : cs[2]? = some (.map (some mb))) (hne1 : b ≠ mb) (hne2 : gb ≠ mb) (q1 : mm.ca < 4294967296)  (u1 u2 u3 u4 u6 u7 u8 u9 u10 u11 u12 u13 u14 u15 u16 u17 u18 u19 u20 u21 u22 u23 u24 u25 u26 u27 u28 u29 u30 u31 u32 u33 u34 u35 u36 u37 u38 : Value) (Q : Exit → Act → World → Prop) (w : World) (hG : Jn cs mm b gb mb w0 w) (hmp : MapAt w mb .u32 ms)
    (hend : ∀ (y33 y34 y35 y36 y37 y38 : Value) (w' : World), (MapAt w' mb .u32 (ms.filter (fun x => x.1 != mm.ca)) ∧ Jn cs mm b gb mb w0 w') → Q .normal ⟨(List.toArray (.pointer (some ⟨b, 0, none⟩) :: u1 :: u2 :: u3 :: u4 :: .pointer (some ⟨gb, 0, none⟩) :: u6 :: u7 :: u8 :: u9 :: u10 :: u11 :: u12 :: u13 :: u14 :: u15 :: u16 :: u17 :: u18 :: u19 :: u20 :: u21 :: u22 :: u23 :: u24 :: u25 :: u26 :: u27 :: u28 :: u29 :: u30 :: u31 :: u32 :: y33 :: y34 :: y35 :: y36 :: y37 :: y38 :: [])), []⟩ w') :
    Code.wp Try.prog rl8_code Q ⟨(List.toArray (.pointer (some ⟨b, 0, none⟩) :: u1 :: u2 :: u3 :: u4 :: .pointer (some ⟨gb, 0, none⟩) :: u6 :: u7 :: u8 :: u9 :: u10 :: u11 :: u12 :: u13 :: u14 :: u15 :: u16 :: u17 :: u18 :: u19 :: u20 :: u21 :: u22 :: u23 :: u24 :: u25 :: u26 :: u27 :: u28 :: u29 :: u30 :: u31 :: u32 :: u33 :: u34 :: u35 :: u36 :: u37 :: u38 :: [])), []⟩ w := by
  refine wp_mono (rl8_in cs mm b gb mb ms w0 hcf hne1 hne2 q1 _ _ _ _ _ _ _ _ _ _ _ _ _ _ _ _ _ _ _ _ _ _ _ _ _ _ _ _ _ _ _ _ _ _ _ _ _ w hG hmp) ?_
  rintro e a w' h
  obtain ⟨y33, h⟩ := h
  obtain ⟨y34, h⟩ := h
  obtain ⟨y35, h⟩ := h
  obtain ⟨y36, h⟩ := h
  obtain ⟨y37, h⟩ := h
  obtain ⟨y38, h⟩ := h
  obtain ⟨h, rfl, hq⟩ := h
  subst h
  exact hend y33 y34 y35 y36 y37 y38 w' hq
theorem mbEq_id {r : Ro} (h : r.Fit) {m x : Mb} (hm : m ∈ r.l) (hx : x ∈ r.l) : (!mbEq x m) = (x.id != m.id) := by
  by_cases he : x.id = m.id
  · rw [ids_inj h.ids hx hm he]
    simp [mbEq]
  · have h1 : (x.id == m.id) = false := by simpa using he
    simp [mbEq, h1, bne]
theorem filter_mb {r : Ro} (h : r.Fit) {m : Mb} (hm : m ∈ r.l) : (r.l.filter fun x => !mbEq x m) = r.l.filter fun x => x.id != m.id :=
  List.filter_congr fun x hx => mbEq_id h hm hx
set_option maxRecDepth 100000 in
set_option maxHeartbeats 8000000 in
theorem mleave_is (B b mb : Nat) (id : Int) (r : Ro) (vl : Value) (w : World) (h : Ror w B b mb r vl) (hf : r.Fit) :
    Calls Try.prog 21 #[ptr b, .int .i64 id] w (DoneR (.int .i64 ((r.leave id).2 : Int)) w B b mb vl (r.leave id).1) := by
  have hl1000 : r.l.length ≤ 1000 := by have := hf.few; have := hf.most; omega
  obtain ⟨Ao, c, rfl, hc⟩ := h.row.slice
  rw [mbRows_length] at hc h ⊢
  obtain ⟨k, hk⟩ : ∃ k, r.l.length = k := ⟨_, rfl⟩
  have HK := Lib.hid hk
  rw [hk] at hc h ⊢
  have HF := Lib.hid h
  have HI := Lib.hid hf
  have hr : r.leave id = if (getM r.l id).isSome then ({ r with l := r.l.filter fun x => x.id != id }, 0) else (r, 130) := rfl
  generalize r.leave id = q at *
  have HR := Lib.hid hr
  clear hr h hf hk
  go_enter Try.func21, Try.ntmps21
  go_wp2_with fail
  refine (rthere_is B b mb r _ w HF.out).mono ?_
  rintro e w1 ⟨rfl, rfl⟩
  rcases hm : getM r.l id with _ | m
  · have HG := Lib.hid (get_no HF.out hl1000 hm)
    have HE := Lib.hid (show q = (r, 130) from by rw [HR.out, hm]; rfl)
    clear hm
    go_wp2_with fail
    refine HG.out.mono ?_
    rintro e w2 ⟨rfl, ho⟩
    have HO := Lib.hid ho
    clear ho HG
    go_wp2
    go_ret
    rw [HE.out]
    exact doneR_pure HF.out (HO.out.alloc _)
  · have HG := Lib.hid (get_some HF.out hl1000 hm)
    have hmem := getM_mem hm
    have HE := Lib.hid (show q = ({ r with l := r.l.filter fun x => x.id != m.id }, 0) from by rw [HR.out, hm, hmem.2]; rfl)
    have HMM := Lib.hid hmem.1
    clear hm hmem
    go_wp2_with fail
    refine HG.out.mono ?_
    rintro e w2 ⟨rfl, ho⟩
    have HO := Lib.hid ho
    clear ho HG
    go_upto_region 6 with (fail)
    have hO3 := HO.out.alloc (.cells #[.int .i64 m.id, .int .u32 (m.co : Int), .int .u32 (m.ca : Int), .bool m.mo] 58)
    have HO3 := Lib.hid hO3
    have HG3 := Lib.hid (Is.made w2 58 #[.int .i64 m.id, .int .u32 (m.co : Int), .int .u32 (m.ca : Int), .bool m.mo])
    have H3 := Lib.hid (HF.out.pure hO3)
    have HS := Lib.hid HO.out.size
    generalize w2.alloc (.cells #[.int .i64 m.id, .int .u32 (m.co : Int), .int .u32 (m.ca : Int), .bool m.mo] 58) = w3 at *
    generalize w2.heap.size = gb at *
    clear hO3 HO
    obtain ⟨hm1, hm2⟩ := HF.out.mb_ne
    have hgv : Value.ownBlock (.slice Ao k c) ≠ some gb := fun e => by
      have := (HF.out.row.lt _ e).2
      have := HS.out
      omega
    have hmg : gb ≠ mb := by
      have := HF.out.mp.lt
      have := HS.out
      omega
    have hbg : b ≠ gb := by
      have := HF.out.lt
      have := HS.out
      omega
    have c1 : w3.cell? ⟨b, 1, none⟩ = some (.slice Ao k c) := H3.out.cell 1
    go_wp2_with fail
    refine (delm_is m gb B (.slice Ao k c) r.l w3 H3.out.row (by omega) HG3.out hgv).mono ?_
    rintro e w4 ⟨v', rfl, hown, ho4, hv'⟩
    have hI4 := H3.out.is.only ho4 (fun e => (hm2 b e).2 rfl)
    have d1 : w4.cell? ⟨b, 1, none⟩ = some (.slice Ao k c) := hI4.cell 1
    have f1 := hI4.free 1
    obtain ⟨A', c', rfl, -⟩ := OwnS.slice hown
    have HI4 := Lib.hid hI4
    have HOW := Lib.hid hown
    have HO4 := Lib.hid ho4
    have HV := Lib.hid hv'
    clear c1 hown ho4 hv' hI4
    generalize (mbRows (r.l.filter fun x => !mbEq x m)).length = k' at *
    go_upto_region 7 with (fail)
    have hS : Only (fun k => k = b) w4 (w4.setCell ⟨b, 1, none⟩ (.slice A' k' c')) := Only.set (S := fun k => k = b) (p := ⟨b, 1, none⟩) (Only.refl _ w4) (fun _ => rfl) _
    have HI6 := Lib.hid (show Is (w4.setCell ⟨b, 1, none⟩ (.slice A' k' c')) b 109 (roCells ⟨r.most, r.l.filter fun x => x.id != m.id⟩ mb (.slice A' k' c')) from HI4.out.put 1 (.slice A' k' c'))
    have HG6 := Lib.hid (show Is (w4.setCell ⟨b, 1, none⟩ (.slice A' k' c')) gb 58 #[.int .i64 m.id, .int .u32 (m.co : Int), .int .u32 (m.ca : Int), .bool m.mo] from (HG3.out.only HO4.out hgv).only hS (fun e => hbg e.symm))
    have HR6 := Lib.hid (OwnS.only HOW.out hS (fun j hj e => (hm2 b (by rw [← HV.out, hj, e])).2 rfl))
    have HM6 := Lib.hid ((H3.out.mp.only HO4.out (fun e => (hm2 mb e).1 rfl)).only hS hm1)
    have HO6 := Lib.hid (show Only (fun j => j = b ∨ Value.ownBlock (.slice Ao k c) = some j) w (w4.setCell ⟨b, 1, none⟩ (.slice A' k' c')) from
      ((HO3.out.mono (fun _ _ e => e.elim)).trans HO4.out (fun _ _ e => .inr e)).trans hS (fun _ _ e => .inl e))
    generalize w4.setCell ⟨b, 1, none⟩ (.slice A' k' c') = w7 at *
    clear hS HI4 HOW HO4 H3 HG3 HO3 d1 f1
    have HFM := Lib.hid (HI.out.fits m HMM.out)
    refine rl7 (roCells ⟨r.most, r.l.filter fun x => x.id != m.id⟩ mb (.slice A' k' c')) m b gb mb (owV r.l) w7 rfl (fun e => hm1 e.symm) hmg HFM.out.co _ _ _ _ _ _ _ _ _ _ _ _ _ _ _ _ _ _ _ _ _ _ _ _ _ _ _ _ _ _ _ _ _ _ _ _ _ _ w7 ⟨HI6.out, HG6.out, Only.refl _ _⟩ HM6.out ?_
    rintro y27 y28 y29 y30 y31 y32 w8 ⟨hM8, hJ8⟩
    have HM8 := Lib.hid hM8
    have HJ8 := Lib.hid hJ8
    clear hM8 hJ8
    go_upto_region 8 with (fail)
    refine rl8 (roCells ⟨r.most, r.l.filter fun x => x.id != m.id⟩ mb (.slice A' k' c')) m b gb mb _ w7 rfl (fun e => hm1 e.symm) hmg HFM.out.ca _ _ _ _ _ _ _ _ _ _ _ _ _ _ _ _ _ _ _ _ _ _ _ _ _ _ _ _ _ _ _ _ _ _ _ _ _ _ w8 HJ8.out HM8.out ?_
    rintro y33 y34 y35 y36 y37 y38 w9 ⟨hM9, hJ9⟩
    have HM9 := Lib.hid hM9
    have HJ9 := Lib.hid hJ9
    clear hM9 hJ9
    go_wp2
    go_ret
    rw [HE.out]
    refine ⟨rfl, .slice A' k' c', ⟨HJ9.out.io, ?_, ?_, HF.out.lo⟩, ?_, fun j hj => ?_⟩
    · have := HM9.out
      rw [owV_gone HI.out HMM.out] at this
      exact this
    · have := OwnS.only HR6.out HJ9.out.only (fun j hj e => (hm2 j (by rw [← HV.out, hj])).1 e)
      rw [filter_mb HI.out HMM.out] at this
      exact this
    · refine (HO6.out.mono (T := RFoot b mb (.slice Ao k c)) (fun j _ e => ?_)).trans HJ9.out.only (fun j _ e => .inr (.inl e))
      rcases e with e | e
      · exact .inl e
      · exact .inr (.inr e)
    · rcases hj with rfl | rfl | hj
      · exact .inl (.inl rfl)
      · exact .inl (.inr (.inl rfl))
      · exact .inl (.inr (.inr (by rw [← HV.out]; exact hj)))
end Go.Proofs.Ytglgmhdajmncjaa
