/- reorder: a packet copied. Conditions: as each says. -/
import Derived.Test.YtcjbiiphjahjpaaRoB
set_option linter.unusedVariables false
set_option linter.unusedSimpArgs false
namespace Go.Proofs.Ytcjbiiphjahjpaa
open Go Go.RowKit

/-- Amid copyOf: the copy in the making. -/
structure Cp (cs : Array Value) (ib : Nat) (ob : Nat) (w0 wx : World) : Prop where
  io : Is wx ib 42 cs
  out : Is wx ob 42 zeroPk
  ne : ib ≠ ob
  pure : Only (fun _ => False) w0 wx
theorem Cp.go {cs : Array Value} {ib ob : Nat} {w0 wx wy : World} (h : Cp cs ib ob w0 wx) (ho : Only (fun _ => False) wx wy) : Cp cs ib ob w0 wy := ⟨h.io.only ho (by simp), h.out.only ho (by simp), h.ne, h.pure.trans ho (fun _ _ e => e)⟩
theorem Cp.put {cs : Array Value} {ib ob : Nat} {w0 wx : World} (h : Cp cs ib ob w0 wx) (hob : w0.heap.size ≤ ib) (f : Nat) (v : Value) : Cp (cs.setIfInBounds f v) ib ob w0 (wx.setCell ⟨ib, f, none⟩ v) := by
  have ho : Only (fun k => k = ib) wx (wx.setCell ⟨ib, f, none⟩ v) := Only.set (S := fun k => k = ib) (p := ⟨ib, f, none⟩) (Only.refl _ wx) (fun _ => rfl) v
  exact ⟨h.io.put f v, h.out.only ho (fun e => h.ne e.symm), h.ne, h.pure.trans ho (fun i hi e => by omega)⟩
theorem cp_own {B n : Nat} {U : TypeId} {v : Value} {xs : List Value} {w : World} {ib : Nat} {cs : Array Value} (h : w.ownsRow B U 1 v n xs) (hI : Is w ib 42 cs) (hT : U ≠ 42) (i : Nat) (u : Value) : (w.setCell ⟨ib, i, none⟩ u).ownsRow B U 1 v n xs :=
  owned_only h (Only.set (S := fun k => k = ib) (p := ⟨ib, i, none⟩) (Only.refl _ w) (fun _ => rfl) u) (fun k hk e => owned_off h hI hT (by rw [hk, e]))
/-- What the three clones make. -/
structure Clones (p : Pk) (vc ve vp : Value) (w0 : World) : Prop where
  c : ∀ wx, Only (fun _ => False) w0 wx → Calls Try.prog 46 #[vc] wx (Own32 p.csrc wx)
  e : ∀ wx, Only (fun _ => False) w0 wx → Calls Try.prog 47 #[ve] wx (OwnRow wx.heap.size (cellsOf p.ext) wx)
  p : ∀ wx, Only (fun _ => False) w0 wx → Calls Try.prog 47 #[vp] wx (OwnRow wx.heap.size (cellsOf p.pay) wx)
def ro1_A : List (List Nat) := ([] :: [0] :: [1, 0] :: [] :: [3] :: [4, 2, 3, 1, 0] :: [] :: [6] :: (7 :: 5 :: 6 :: 4 :: 2 :: 3 :: 1 :: 0 :: []) :: [0, 1, 2, 3, 4, 6, 7] :: (9 :: 2 :: 8 :: 0 :: 1 :: 3 :: 4 :: 6 :: 7 :: 5 :: []) :: (0 :: 1 :: 2 :: 3 :: 4 :: 5 :: 6 :: 7 :: 9 :: 10 :: 8 :: []) :: (11 :: 5 :: 10 :: 0 :: 1 :: 2 :: 3 :: 4 :: 6 :: 7 :: 9 :: 8 :: []) :: (0 :: 1 :: 2 :: 3 :: 4 :: 5 :: 6 :: 7 :: 8 :: 9 :: 10 :: 11 :: 12 :: []) :: (13 :: 8 :: 12 :: 0 :: 1 :: 2 :: 3 :: 4 :: 5 :: 6 :: 7 :: 9 :: 10 :: 11 :: []) :: [])
def ro1_kill : List (List Nat) := ([] :: [] :: [] :: [] :: [] :: [] :: [] :: [] :: [] :: [] :: [2] :: [] :: [10, 2, 5] :: [] :: [10, 12, 2, 5, 8] :: [])
def ro1_uses : List (List Nat) := ([] :: [] :: [] :: [] :: [] :: [] :: [] :: [] :: [] :: [] :: [2] :: [] :: [10, 5] :: [] :: [12, 8] :: [])
noncomputable def ro1_code : Code := ((Try.f34.body.bind (codeRegion 1)).getD .skip)
set_option maxRecDepth 100000 in
set_option maxHeartbeats 4000000 in
theorem ro1_in (p : Pk) (vc ve vp : Value) (ib ob : Nat) (w0 : World) (hc : Clones p vc ve vp w0) (hib : w0.heap.size ≤ ib) (u0 u2 u3 u4 u5 u6 u7 u8 u9 u10 u11 u12 u13 u14 u15 : Value) (w : World) (hG : Cp (p.cls vc ve vp) ib ob w0 w) :
    Code.wp Try.prog ro1_code (fun e a w' => ∃ y3 y4 y5 y6 y7 y8 y9 y10 y11 y12 y13 y14 : Value, a = ⟨(List.toArray (u0 :: .pointer (some ⟨ib, 0, none⟩) :: u2 :: y3 :: y4 :: y5 :: y6 :: y7 :: y8 :: y9 :: y10 :: y11 :: y12 :: y13 :: y14 :: u15 :: [])), []⟩ ∧ e = .normal ∧ (∃ Aa ca Ab cb Ac cc, Cp (p.cls (.slice Aa p.csrc.length ca) (.slice Ab p.ext.length cb) (.slice Ac p.pay.length cc)) ib ob w0 w' ∧ w'.ownsRow w0.heap.size 38 1 (.slice Aa p.csrc.length ca) p.csrc.length (cells32 p.csrc) ∧ w'.ownsRow w0.heap.size 5 1 (.slice Ab p.ext.length cb) p.ext.length (cellsOf p.ext) ∧ w'.ownsRow w0.heap.size 5 1 (.slice Ac p.pay.length cc) p.pay.length (cellsOf p.pay))) ⟨(List.toArray (u0 :: .pointer (some ⟨ib, 0, none⟩) :: u2 :: u3 :: u4 :: u5 :: u6 :: u7 :: u8 :: u9 :: u10 :: u11 :: u12 :: u13 :: u14 :: u15 :: [])), []⟩ w := by
  conv => arg 2; whnf
  have HCL := Lib.hid hc
  clear hc
  refine wp_region_posts ro1_A [2, 5, 8, 10, 12, 14] [2, 5, 8, 10, 12, 14] ro1_kill ro1_uses [14] [10] [11, 12, 13, 14] []
      (some ?v0 :: some ?v1 :: none :: some ?v3 :: some ?v4 :: none :: some ?v6 :: some ?v7 :: none :: some ?v9 :: none :: some ?v11 :: none :: some ?v13 :: none :: [])
      ?T (fun wx => Cp (p.cls vc ve vp) ib ob w0 wx) ?W ?E (by kernel_rfl) (by kernel_rfl) (by kernel_rfl) (fun x => ?hT) ?hF ?hini (Reg.all_ops ?runs) ?pres ?fin
  case W => exact fun j x w' => match j with | 2 => ∃ Aa ca, x 2 = (.slice Aa p.csrc.length ca) ∧ w'.ownsRow w0.heap.size 38 1 (.slice Aa p.csrc.length ca) p.csrc.length (cells32 p.csrc) | 5 => ∃ Ab cb, x 5 = (.slice Ab p.ext.length cb) ∧ w'.ownsRow w0.heap.size 5 1 (.slice Ab p.ext.length cb) p.ext.length (cellsOf p.ext) | 8 => ∃ Ac cc, x 8 = (.slice Ac p.pay.length cc) ∧ w'.ownsRow w0.heap.size 5 1 (.slice Ac p.pay.length cc) p.pay.length (cellsOf p.pay) | 10 => ∃ Aa ca, Cp (p.cls (.slice Aa p.csrc.length ca) ve vp) ib ob w0 w' ∧ w'.ownsRow w0.heap.size 38 1 (.slice Aa p.csrc.length ca) p.csrc.length (cells32 p.csrc) | 12 => ∃ Aa ca Ab cb, Cp (p.cls (.slice Aa p.csrc.length ca) (.slice Ab p.ext.length cb) vp) ib ob w0 w' ∧ w'.ownsRow w0.heap.size 38 1 (.slice Aa p.csrc.length ca) p.csrc.length (cells32 p.csrc) ∧ w'.ownsRow w0.heap.size 5 1 (.slice Ab p.ext.length cb) p.ext.length (cellsOf p.ext) | 14 => ∃ Aa ca Ab cb Ac cc, Cp (p.cls (.slice Aa p.csrc.length ca) (.slice Ab p.ext.length cb) (.slice Ac p.pay.length cc)) ib ob w0 w' ∧ w'.ownsRow w0.heap.size 38 1 (.slice Aa p.csrc.length ca) p.csrc.length (cells32 p.csrc) ∧ w'.ownsRow w0.heap.size 5 1 (.slice Ab p.ext.length cb) p.ext.length (cellsOf p.ext) ∧ w'.ownsRow w0.heap.size 5 1 (.slice Ac p.pay.length cc) p.pay.length (cellsOf p.pay) | _ => True
  case E => exact fun i wx wy => match i with | 2 => Only (fun _ => False) wx wy | 5 => Only (fun _ => False) wx wy | 8 => Only (fun _ => False) wx wy | 10 => Only (fun k => k = ib) wx wy ∧ ∃ ds, Is wx ib 42 ds | 12 => Only (fun k => k = ib) wx wy ∧ ∃ ds, Is wx ib 42 ds | 14 => Only (fun k => k = ib) wx wy ∧ ∃ ds, Is wx ib 42 ds | _ => True
  case hT =>
    simp only [Reg.fillV, Act.put, List.setIfInBounds_toArray, List.set_cons_zero, List.set_cons_succ]
    rfl
  case runs =>
    refine And.intro ?_ ?_
    · refine Reg.ob_pure (fun _ => rfl) rfl rfl rfl rfl (fun x w1 hF => ?_)
      have c5 : w1.cell? ⟨ib, 5, none⟩ = some vc := hF.io.cell 5
      have c8 : w1.cell? ⟨ib, 8, none⟩ = some ve := hF.io.cell 8
      have c9 : w1.cell? ⟨ib, 9, none⟩ = some vp := hF.io.cell 9
      go_simp
      with_reducible rfl
    refine And.intro ?_ ?_
    · refine Reg.ob_pure (fun _ => rfl) rfl rfl rfl rfl (fun x w1 hF => ?_)
      have c5 : w1.cell? ⟨ib, 5, none⟩ = some vc := hF.io.cell 5
      have c8 : w1.cell? ⟨ib, 8, none⟩ = some ve := hF.io.cell 8
      have c9 : w1.cell? ⟨ib, 9, none⟩ = some vp := hF.io.cell 9
      go_simp
      with_reducible rfl
    refine And.intro ?_ ?_
    · refine Reg.ob_some (fun _ => rfl) rfl (fun x w1 hF hU K hK => ?_)
      replace hF := hF rfl
      have HT := HCL.out.c w1 hF.pure
      go_simp
      refine HT.mono ?_
      rintro e w5 ⟨v1, rfl, hv, ho⟩
      obtain ⟨A1, c1, rfl, -⟩ := own_slice hv
      exact hK _ w5 (fun _ _ _ => hF.go ho) ho ⟨A1, c1, rfl, owned_low hv hF.pure.size⟩
    refine And.intro ?_ ?_
    · refine Reg.ob_pure (fun _ => rfl) rfl rfl rfl rfl (fun x w1 hF => ?_)
      have c5 : w1.cell? ⟨ib, 5, none⟩ = some vc := hF.io.cell 5
      have c8 : w1.cell? ⟨ib, 8, none⟩ = some ve := hF.io.cell 8
      have c9 : w1.cell? ⟨ib, 9, none⟩ = some vp := hF.io.cell 9
      go_simp
      with_reducible rfl
    refine And.intro ?_ ?_
    · refine Reg.ob_pure (fun _ => rfl) rfl rfl rfl rfl (fun x w1 hF => ?_)
      have c5 : w1.cell? ⟨ib, 5, none⟩ = some vc := hF.io.cell 5
      have c8 : w1.cell? ⟨ib, 8, none⟩ = some ve := hF.io.cell 8
      have c9 : w1.cell? ⟨ib, 9, none⟩ = some vp := hF.io.cell 9
      go_simp
      with_reducible rfl
    refine And.intro ?_ ?_
    · refine Reg.ob_some (fun _ => rfl) rfl (fun x w1 hF hU K hK => ?_)
      replace hF := hF rfl
      have HT := HCL.out.e w1 hF.pure
      go_simp
      refine HT.mono ?_
      rintro e w5 ⟨v1, rfl, hv, ho, -⟩
      rw [length_cellsOf] at hv
      obtain ⟨A1, c1, rfl, -⟩ := own_slice hv
      exact hK _ w5 (fun _ _ _ => hF.go ho) ho ⟨A1, c1, rfl, owned_low hv hF.pure.size⟩
    refine And.intro ?_ ?_
    · refine Reg.ob_pure (fun _ => rfl) rfl rfl rfl rfl (fun x w1 hF => ?_)
      have c5 : w1.cell? ⟨ib, 5, none⟩ = some vc := hF.io.cell 5
      have c8 : w1.cell? ⟨ib, 8, none⟩ = some ve := hF.io.cell 8
      have c9 : w1.cell? ⟨ib, 9, none⟩ = some vp := hF.io.cell 9
      go_simp
      with_reducible rfl
    refine And.intro ?_ ?_
    · refine Reg.ob_pure (fun _ => rfl) rfl rfl rfl rfl (fun x w1 hF => ?_)
      have c5 : w1.cell? ⟨ib, 5, none⟩ = some vc := hF.io.cell 5
      have c8 : w1.cell? ⟨ib, 8, none⟩ = some ve := hF.io.cell 8
      have c9 : w1.cell? ⟨ib, 9, none⟩ = some vp := hF.io.cell 9
      go_simp
      with_reducible rfl
    refine And.intro ?_ ?_
    · refine Reg.ob_some (fun _ => rfl) rfl (fun x w1 hF hU K hK => ?_)
      replace hF := hF rfl
      have HT := HCL.out.p w1 hF.pure
      go_simp
      refine HT.mono ?_
      rintro e w5 ⟨v1, rfl, hv, ho, -⟩
      rw [length_cellsOf] at hv
      obtain ⟨A1, c1, rfl, -⟩ := own_slice hv
      exact hK _ w5 (fun _ _ _ => hF.go ho) ho ⟨A1, c1, rfl, owned_low hv hF.pure.size⟩
    refine And.intro ?_ ?_
    · refine Reg.ob_pure (fun _ => rfl) rfl rfl rfl rfl (fun x w1 hF => ?_)
      have c5 : w1.cell? ⟨ib, 5, none⟩ = some vc := hF.io.cell 5
      have c8 : w1.cell? ⟨ib, 8, none⟩ = some ve := hF.io.cell 8
      have c9 : w1.cell? ⟨ib, 9, none⟩ = some vp := hF.io.cell 9
      go_simp
      with_reducible rfl
    refine And.intro ?_ ?_
    · refine Reg.ob_some (fun _ => rfl) rfl (fun x w1 hF hU K hK => ?_)
      replace hF := hF rfl
      obtain ⟨⟨Aa, ca, hx, hv⟩, -⟩ := hU
      have hCp := hF
      have hx : x 2 = (.slice Aa p.csrc.length ca) := hx
      have hCp : Cp (p.cls vc ve vp) ib ob w0 w1 := hCp
      have ff := hCp.io.free 5
      have cf := hCp.io.cell 5
      have hcf : (p.cls vc ve vp)[5]? = some vc := rfl
      rw [hcf] at cf
      clear hcf
      revert hK
      simp only [Nat.reduceAdd, hx]
      intro hK
      go_simp
      exact hK undef _ (fun _ h h' => by first | exact absurd h (by decide) | exact absurd h' (by decide)) ⟨Only.set (S := fun k => k = ib) (p := ⟨ib, 5, none⟩) (Only.refl _ w1) (fun _ => rfl) _, _, hCp.io⟩ ⟨Aa, ca, hCp.put hib 5 _, cp_own hv hCp.io (by decide) 5 _⟩
    refine And.intro ?_ ?_
    · refine Reg.ob_bare (fun _ => rfl) rfl rfl rfl (fun x w1 => ?_)
      go_simp
      with_reducible rfl
    refine And.intro ?_ ?_
    · refine Reg.ob_some (fun _ => rfl) rfl (fun x w1 hF hU K hK => ?_)
      obtain ⟨⟨Aa, ca, hCp, h0⟩, ⟨Ab, cb, hx, hv⟩, -⟩ := hU
      have hx : x 5 = (.slice Ab p.ext.length cb) := hx
      have hCp : Cp (p.cls (.slice Aa p.csrc.length ca) ve vp) ib ob w0 w1 := hCp
      have ff := hCp.io.free 8
      have cf := hCp.io.cell 8
      have hcf : (p.cls (.slice Aa p.csrc.length ca) ve vp)[8]? = some ve := rfl
      rw [hcf] at cf
      clear hcf
      revert hK
      simp only [Nat.reduceAdd, hx]
      intro hK
      go_simp
      exact hK undef _ (fun _ h h' => by first | exact absurd h (by decide) | exact absurd h' (by decide)) ⟨Only.set (S := fun k => k = ib) (p := ⟨ib, 8, none⟩) (Only.refl _ w1) (fun _ => rfl) _, _, hCp.io⟩ ⟨Aa, ca, Ab, cb, hCp.put hib 8 _, cp_own h0 hCp.io (by decide) 8 _, cp_own hv hCp.io (by decide) 8 _⟩
    refine And.intro ?_ ?_
    · refine Reg.ob_bare (fun _ => rfl) rfl rfl rfl (fun x w1 => ?_)
      go_simp
      with_reducible rfl
    refine And.intro ?_ ?_
    · refine Reg.ob_some (fun _ => rfl) rfl (fun x w1 hF hU K hK => ?_)
      obtain ⟨⟨Aa, ca, Ab, cb, hCp, h0, h1⟩, ⟨Ac, cc, hx, hv⟩, -⟩ := hU
      have hx : x 8 = (.slice Ac p.pay.length cc) := hx
      have hCp : Cp (p.cls (.slice Aa p.csrc.length ca) (.slice Ab p.ext.length cb) vp) ib ob w0 w1 := hCp
      have ff := hCp.io.free 9
      have cf := hCp.io.cell 9
      have hcf : (p.cls (.slice Aa p.csrc.length ca) (.slice Ab p.ext.length cb) vp)[9]? = some vp := rfl
      rw [hcf] at cf
      clear hcf
      revert hK
      simp only [Nat.reduceAdd, hx]
      intro hK
      go_simp
      exact hK undef _ (fun _ h h' => by first | exact absurd h (by decide) | exact absurd h' (by decide)) ⟨Only.set (S := fun k => k = ib) (p := ⟨ib, 9, none⟩) (Only.refl _ w1) (fun _ => rfl) _, _, hCp.io⟩ ⟨Aa, ca, Ab, cb, Ac, cc, hCp.put hib 9 _, cp_own h0 hCp.io (by decide) 9 _, cp_own h1 hCp.io (by decide) 9 _, cp_own hv hCp.io (by decide) 9 _⟩
    exact trivial
  case hF =>
    exact hG.go ((Only.refl _ _).drewN 1)
  case hini =>
    exact trivial
  case pres =>
    intro i hi j hj hc x wx wy hF hE hW
    simp only [List.mem_cons, List.mem_nil_iff, or_false] at hi hj
    rcases hi with rfl | rfl | rfl | rfl | rfl | rfl <;> rcases hj with rfl | rfl | rfl | rfl | rfl | rfl
    all_goals first
      | (exfalso; revert hc; decide)
      | (obtain ⟨A1, c1, h0, h1⟩ := hW; exact ⟨A1, c1, h0, owned_only h1 hE (by simp)⟩)
      | (obtain ⟨h2, ds, h3⟩ := hE; obtain ⟨A1, c1, h0, h1⟩ := hW; exact ⟨A1, c1, h0, owned_only h1 h2 (fun k hk e => owned_off h1 h3 (by decide) (by rw [hk, e]))⟩)
  case fin =>
    rintro x w9 hF hU
    obtain ⟨hQ, -⟩ := hU
    repeat apply Exists.intro
    exact ⟨rfl, rfl, hQ⟩

set_option maxRecDepth 100000 in
set_option maxHeartbeats 4000000 in
theorem ro1 (p : Pk) (vc ve vp : Value) (ib ob : Nat) (w0 : World) (hc : Clones p vc ve vp w0) (hib : w0.heap.size ≤ ib) (u0 u2 u3 u4 u5 u6 u7 u8 u9 u10 u11 u12 u13 u14 u15 : Value) (Q : Exit → Act → World → Prop) (w : World) (hG : Cp (p.cls vc ve vp) ib ob w0 w)
    (hend : ∀ (y3 y4 y5 y6 y7 y8 y9 y10 y11 y12 y13 y14 : Value) (w' : World), (∃ Aa ca Ab cb Ac cc, Cp (p.cls (.slice Aa p.csrc.length ca) (.slice Ab p.ext.length cb) (.slice Ac p.pay.length cc)) ib ob w0 w' ∧ w'.ownsRow w0.heap.size 38 1 (.slice Aa p.csrc.length ca) p.csrc.length (cells32 p.csrc) ∧ w'.ownsRow w0.heap.size 5 1 (.slice Ab p.ext.length cb) p.ext.length (cellsOf p.ext) ∧ w'.ownsRow w0.heap.size 5 1 (.slice Ac p.pay.length cc) p.pay.length (cellsOf p.pay)) → Q .normal ⟨(List.toArray (u0 :: .pointer (some ⟨ib, 0, none⟩) :: u2 :: y3 :: y4 :: y5 :: y6 :: y7 :: y8 :: y9 :: y10 :: y11 :: y12 :: y13 :: y14 :: u15 :: [])), []⟩ w') :
    Code.wp Try.prog ro1_code Q ⟨(List.toArray (u0 :: .pointer (some ⟨ib, 0, none⟩) :: u2 :: u3 :: u4 :: u5 :: u6 :: u7 :: u8 :: u9 :: u10 :: u11 :: u12 :: u13 :: u14 :: u15 :: [])), []⟩ w := by
  refine wp_mono (ro1_in p vc ve vp ib ob w0 hc hib _ _ _ _ _ _ _ _ _ _ _ _ _ _ _ w hG) ?_
  rintro e a w' h
  obtain ⟨y3, h⟩ := h
  obtain ⟨y4, h⟩ := h
  obtain ⟨y5, h⟩ := h
  obtain ⟨y6, h⟩ := h
  obtain ⟨y7, h⟩ := h
  obtain ⟨y8, h⟩ := h
  obtain ⟨y9, h⟩ := h
  obtain ⟨y10, h⟩ := h
  obtain ⟨y11, h⟩ := h
  obtain ⟨y12, h⟩ := h
  obtain ⟨y13, h⟩ := h
  obtain ⟨y14, h⟩ := h
  obtain ⟨h, rfl, hq⟩ := h
  subst h
  exact hend y3 y4 y5 y6 y7 y8 y9 y10 y11 y12 y13 y14 w' hq
set_option maxRecDepth 100000 in
set_option maxHeartbeats 2000000 in
theorem copyof_is (p : Pk) (vc ve vp : Value) (w : World) (hc : Rd .u32 w vc (nats p.csrc)) (hn0 : vc = .slice none 0 0 ∨ ∃ ad n c, vc = .slice (some ad) n c) (he : Src w ve p.ext) (hp : Src w vp p.pay) (hl : p.csrc.length ≤ 1000000 ∧ p.ext.length ≤ 1000000 ∧ p.pay.length ≤ 1000000) :
    Calls Try.prog 34 #[.agg (p.cls vc ve vp)] w (GotCopy p w) := by
  have HCL := Lib.hid (show Clones p vc ve vp w from ⟨fun wx ho => clone32_is vc p.csrc wx (hc.only ho (by simp)) hn0 (by omega), fun wx ho => clone_src ve p.ext wx wx.heap.size (Nat.le_refl _) (he.of_only ho) (by omega), fun wx ho => clone_src vp p.pay wx wx.heap.size (Nat.le_refl _) (hp.of_only ho) (by omega)⟩)
  clear hc he hp hn0 hl
  go_enter Try.func34, Try.ntmps34
  go_upto_region 1 with (fail)
  generalize hw0 : World.alloc (World.alloc _ _) _ = w0
  have HI := Lib.hid (show Is w0 w.heap.size 42 (p.cls vc ve vp) from by rw [← hw0]; exact (Is.made w _ _).alloc _)
  have HO := Lib.hid (show Is w0 (w.heap.size + 1) 42 zeroPk from by rw [← hw0]; have := Is.made (w.alloc (.cells (p.cls vc ve vp) 42)) 42 zeroPk; rw [World.size_alloc] at this; exact this)
  have P0 := Lib.hid (show Only (fun _ => False) w w0 from by rw [← hw0]; exact ((Only.refl _ w).alloc _).alloc _)
  obtain ⟨ib, hib⟩ : ∃ k, w.heap.size = k := ⟨_, rfl⟩
  obtain ⟨ob, hob⟩ : ∃ k, w.heap.size + 1 = k := ⟨_, rfl⟩
  have HB := Lib.hid (show w.heap.size ≤ ib ∧ w.heap.size ≤ ob ∧ ib ≠ ob ∧ ob < w0.heap.size from by have h1 := HO.out.lt; omega)
  rw [hob] at HO ⊢
  rw [hib] at HI ⊢
  clear hw0 hib hob
  refine ro1 p vc ve vp ib ob w HCL.out HB.out.1 _ _ _ _ _ _ _ _ _ _ _ _ _ _ _ _ w0 ⟨HI.out, HO.out, HB.out.2.2.1, P0.out⟩ ?_
  rintro y3 y4 y5 y6 y7 y8 y9 y10 y11 y12 y13 y14 w1 ⟨Aa, ca, Ab, cb, Ac, cc, hCp, hva, hvb, hvc⟩
  have J3 := Lib.hid hCp.io
  have M3 := Lib.hid hCp.out
  have R3 := Lib.hid hCp.pure
  have W1 := Lib.hid hva
  have W2 := Lib.hid hvb
  have W3 := Lib.hid hvc
  clear hCp hva hvb hvc HCL HI HO P0
  have HV := Lib.hid (p.cls_one (vc := .slice Aa p.csrc.length ca) (ve := .slice Ab p.ext.length cb) (vp := .slice Ac p.pay.length cc) ⟨_, _, _, rfl⟩ ⟨_, _, _, rfl⟩ ⟨_, _, _, rfl⟩)
  go_wp2_with (first
    | (refine wpList_load_want rfl _ _ rfl ib rfl _ _ _ J3.out Try.underlying42 rfl Try.sizePq ?_)
    | (refine wpList_store_is (o := ⟨none, _, _, _, _, _⟩) rfl 42 _ _ rfl ob (p.cls (.slice Aa p.csrc.length ca) (.slice Ab p.ext.length cb) (.slice Ac p.pay.length cc)) rfl rfl 42 zeroPk M3.out Try.sizePq rfl HV.out ?_; intro w4 hi4 ho4))
  refine bodyPost_ret (res_one Try.results34 _ w4 ob 42 (p.cls (.slice Aa p.csrc.length ca) (.slice Ab p.ext.length cb) (.slice Ac p.pay.length cc)) _ rfl hi4 Try.underlying42 rfl Try.sizePq) rfl ⟨_, _, _, rfl, ⟨?_, ?_, ?_⟩, R3.out.trans ho4 (fun i hi e => by have := HB.out; omega)⟩
  · exact owned_only W1.out ho4 (fun k hk e => owned_off W1.out M3.out (by decide) (by rw [hk, e]))
  · exact owned_only W2.out ho4 (fun k hk e => owned_off W2.out M3.out (by decide) (by rw [hk, e]))
  · exact owned_only W3.out ho4 (fun k hk e => owned_off W3.out M3.out (by decide) (by rw [hk, e]))
end Go.Proofs.Ytcjbiiphjahjpaa
