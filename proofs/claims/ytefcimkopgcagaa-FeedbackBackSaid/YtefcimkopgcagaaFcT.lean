/- easelref07.Parse's rounds: a pair, an order, a source more. Conditions: as each says. -/
import Derived.Test.YtefcimkopgcagaaFcS
import Derived.Test.YtefcimkopgcagaaFcE
import Derived.Test.YtefcimkopgcagaaBase
set_option linter.unusedVariables false
set_option linter.unusedSimpArgs false
namespace Go.Proofs.Ytefcimkopgcagaa
open Go.RowKit

theorem sty_u32 : Sty 25 22 1 4 := by
  obtain ⟨i0, hi, hz0, hz1, hz2⟩ := info_parts Try.infoU32
  exact ⟨Try.underlying25, ⟨i0, _, hi, hz0, hz1, hz2, rfl⟩, by decide⟩
theorem own_base9 {w : World} {B n sz : Nat} {T : TypeId} {v : Value} {xs : List Value} (h : w.ownsRow B T sz v n xs) {k : Nat} (hk : v.ownBlock = some k) : B ≤ k := by
  rcases h.2 with ⟨rfl, _⟩ | ⟨g, cap, cur, rfl, hb, _⟩
  · simp [Value.ownBlock] at hk
  · simp only [Value.ownBlock, Option.some.injEq] at hk
    omega
structure Ro (cs : Array Value) (ob rb : Nat) (w0 wx : World) : Prop where
  io : Is wx ob 33 cs
  ir : Is wx rb 33 msZ
  pure : Only (fun _ => False) w0 wx
theorem Ro.go {cs : Array Value} {ob rb : Nat} {w0 wx wy : World} (h : Ro cs ob rb w0 wx) (ho : Only (fun _ => False) wx wy) : Ro cs ob rb w0 wy := ⟨h.io.only ho (by simp), h.ir.only ho (by simp), only_more h.pure ho⟩
theorem Ro.far {cs : Array Value} {ob rb n sz : Nat} {w0 wx wy : World} {T : TypeId} {v : Value} {xs : List Value} (h : Ro cs ob rb w0 wx) (hw : wx.ownsRow w0.heap.size T sz v n xs) (hT : T ≠ 33) (ho : Only (fun k => v.ownBlock = some k) wx wy) : Ro cs ob rb w0 wy :=
  ⟨h.io.only ho (owned_off hw h.io hT), h.ir.only ho (owned_off hw h.ir hT), h.pure.trans ho (fun i hi e => by have := own_base9 hw e; omega)⟩
theorem Ro.put {cs : Array Value} {ob rb : Nat} {w0 wx : World} (h : Ro cs ob rb w0 wx) (hne : rb ≠ ob) (hob : w0.heap.size ≤ ob) (f : Nat) (v : Value) : Ro (cs.setIfInBounds f v) ob rb w0 (wx.setCell ⟨ob, f, none⟩ v) := by
  have ho : Only (fun k => k = ob) wx (wx.setCell ⟨ob, f, none⟩ v) := Only.set (S := fun k => k = ob) (p := ⟨ob, f, none⟩) (Only.refl _ wx) (fun _ => rfl) v
  exact ⟨h.io.put f v, h.ir.only ho hne, h.pure.trans ho (fun i hi e => by omega)⟩
theorem OwnS.stored {B sz : Nat} {T : TypeId} {v : Value} {xss : List (List Value)} {w : World} {ob : Nat} {cs : Array Value} (h : OwnS w B T sz v xss) (hI : Is w ob 33 cs) (hT : T ≠ 33) (i : Nat) (u : Value) : OwnS (w.setCell ⟨ob, i, none⟩ u) B T sz v xss :=
  OwnS.only h (Only.set (S := fun k => k = ob) (p := ⟨ob, i, none⟩) (Only.refl _ w) (fun _ => rfl) u) (fun k hk e => owned_off h.1 hI hT (by rw [hk, e]))
def rp17_A : List (List Nat) := ([] :: [0] :: [] :: [] :: [2, 3] :: [4, 2, 3] :: [5, 4, 2, 3] :: [] :: [] :: [7, 8, 4, 2, 3] :: [9, 7, 8, 4, 2, 3] :: [10, 9, 7, 8, 4, 2, 3] :: (6 :: 11 :: 5 :: 4 :: 2 :: 3 :: 10 :: 9 :: 7 :: 8 :: []) :: (12 :: 6 :: 11 :: 5 :: 4 :: 2 :: 3 :: 10 :: 9 :: 7 :: 8 :: []) :: (1 :: 13 :: 9 :: 0 :: 12 :: 6 :: 11 :: 5 :: 4 :: 2 :: 3 :: 10 :: 7 :: 8 :: []) :: (0 :: 1 :: 2 :: 3 :: 4 :: 5 :: 6 :: 7 :: 8 :: 9 :: 10 :: 11 :: 12 :: 13 :: 14 :: []) :: (15 :: 14 :: 0 :: 1 :: 2 :: 3 :: 4 :: 5 :: 6 :: 7 :: 8 :: 9 :: 10 :: 11 :: 12 :: 13 :: []) :: [])
def rp17_kill : List (List Nat) := ([] :: [] :: [] :: [] :: [] :: [] :: [] :: [] :: [] :: [] :: [] :: [] :: [] :: [] :: [13, 17] :: [] :: [13, 14, 17] :: [])
def rp17_uses : List (List Nat) := ([] :: [] :: [] :: [] :: [] :: [] :: [] :: [] :: [] :: [] :: [] :: [] :: [] :: [] :: [13, 17] :: [] :: [14] :: [])
noncomputable def rp17_code : Code := ((Try.f22.body.bind (codeRegion 17)).getD .skip)
set_option maxRecDepth 100000 in
set_option maxHeartbeats 4000000 in
theorem rp17_in (cs : Array Value) (q o c0 L i k c x0 ob rb : Nat) (Ao : Option Addr) (xss : List (List Value)) (na nb : Nat) (w0 : World) (hcf : cs[3]? = some (.slice Ao k c)) (hl : xss.length = k) (hk : k ≤ 10000) (hob : w0.heap.size ≤ ob) (hrb : rb ≠ ob) (hx0 : x0 < 4294967296) (hf4 : ∀ wx, Only (fun _ => False) w0 wx → Calls Try.prog 54 #[.slice (some ⟨q, o, none⟩) L c0, .int .i64 (i : Nat)] wx fun e w' => e = .returned (.int .u32 (x0 : Nat)) ∧ wx = w') (hna : x0 / 65536 = na) (hnb : x0 % 65536 = nb) (u0 u1 u2 u3 u6 u7 u9 u10 u11 u12 u13 u14 u15 u16 u17 u18 u19 u20 u21 u22 u23 u24 u25 u26 u27 u28 u29 u30 u31 u32 u33 u34 u35 u36 u37 u38 u39 u40 u41 u42 u43 u44 u45 u46 u47 u48 u49 u50 u51 u52 u53 u54 u55 u56 u57 u58 u59 u60 u61 u62 u63 u64 u65 u66 u67 u68 u69 u70 u71 u72 u73 u74 u75 u76 u77 u78 u79 u80 u81 u82 u83 u84 u85 u86 u87 u88 u89 u90 u91 u92 u93 u94 u95 u96 u97 u98 u99 u100 u101 u102 u103 u104 u105 u106 u107 u108 u109 u110 u111 u112 u113 u114 u115 u116 u117 u118 u119 u120 u121 u122 u123 u124 u125 u126 u127 u128 u129 u130 u131 u132 u133 u134 u135 u136 u137 u138 u139 u140 u141 u142 u143 u144 u145 u146 u147 u148 u149 u150 u151 u152 u153 u154 u155 : Value) (w : World) (hG : Ro cs ob rb w0 w) (hown : OwnS w w0.heap.size 83 2 (.slice Ao k c) xss) :
    Code.wp Try.prog rp17_code (fun e a w' => ∃ y56 y57 y58 y59 y60 y61 y62 y63 y64 y65 y66 y67 y68 y69 y70 y71 : Value, a = ⟨(List.toArray (u0 :: u1 :: u2 :: u3 :: .slice (some ⟨q, o, none⟩) L c0 :: .pointer (some ⟨ob, 0, none⟩) :: u6 :: u7 :: .int .i64 (i : Nat) :: u9 :: u10 :: u11 :: u12 :: u13 :: u14 :: u15 :: u16 :: u17 :: u18 :: u19 :: u20 :: u21 :: u22 :: u23 :: u24 :: u25 :: u26 :: u27 :: u28 :: u29 :: u30 :: u31 :: u32 :: u33 :: u34 :: u35 :: u36 :: u37 :: u38 :: u39 :: u40 :: u41 :: u42 :: u43 :: u44 :: u45 :: u46 :: u47 :: u48 :: u49 :: u50 :: u51 :: u52 :: u53 :: u54 :: u55 :: y56 :: y57 :: y58 :: y59 :: y60 :: y61 :: y62 :: y63 :: y64 :: y65 :: y66 :: y67 :: y68 :: y69 :: y70 :: y71 :: u72 :: u73 :: u74 :: u75 :: u76 :: u77 :: u78 :: u79 :: u80 :: u81 :: u82 :: u83 :: u84 :: u85 :: u86 :: u87 :: u88 :: u89 :: u90 :: u91 :: u92 :: u93 :: u94 :: u95 :: u96 :: u97 :: u98 :: u99 :: u100 :: u101 :: u102 :: u103 :: u104 :: u105 :: u106 :: u107 :: u108 :: u109 :: u110 :: u111 :: u112 :: u113 :: u114 :: u115 :: u116 :: u117 :: u118 :: u119 :: u120 :: u121 :: u122 :: u123 :: u124 :: u125 :: u126 :: u127 :: u128 :: u129 :: u130 :: u131 :: u132 :: u133 :: u134 :: u135 :: u136 :: u137 :: u138 :: u139 :: u140 :: u141 :: u142 :: u143 :: u144 :: u145 :: u146 :: u147 :: u148 :: u149 :: u150 :: u151 :: u152 :: u153 :: u154 :: u155 :: [])), []⟩ ∧ e = .normal ∧ (∃ A' c', Ro (cs.setIfInBounds 3 (.slice A' (k + 1) c')) ob rb w0 w' ∧ OwnS w' w0.heap.size 83 2 (.slice A' (k + 1) c') (xss ++ [[Value.int .u16 (na : Nat), Value.int .u16 (nb : Nat)]]))) ⟨(List.toArray (u0 :: u1 :: u2 :: u3 :: .slice (some ⟨q, o, none⟩) L c0 :: .pointer (some ⟨ob, 0, none⟩) :: u6 :: u7 :: .int .i64 (i : Nat) :: u9 :: u10 :: u11 :: u12 :: u13 :: u14 :: u15 :: u16 :: u17 :: u18 :: u19 :: u20 :: u21 :: u22 :: u23 :: u24 :: u25 :: u26 :: u27 :: u28 :: u29 :: u30 :: u31 :: u32 :: u33 :: u34 :: u35 :: u36 :: u37 :: u38 :: u39 :: u40 :: u41 :: u42 :: u43 :: u44 :: u45 :: u46 :: u47 :: u48 :: u49 :: u50 :: u51 :: u52 :: u53 :: u54 :: u55 :: u56 :: u57 :: u58 :: u59 :: u60 :: u61 :: u62 :: u63 :: u64 :: u65 :: u66 :: u67 :: u68 :: u69 :: u70 :: u71 :: u72 :: u73 :: u74 :: u75 :: u76 :: u77 :: u78 :: u79 :: u80 :: u81 :: u82 :: u83 :: u84 :: u85 :: u86 :: u87 :: u88 :: u89 :: u90 :: u91 :: u92 :: u93 :: u94 :: u95 :: u96 :: u97 :: u98 :: u99 :: u100 :: u101 :: u102 :: u103 :: u104 :: u105 :: u106 :: u107 :: u108 :: u109 :: u110 :: u111 :: u112 :: u113 :: u114 :: u115 :: u116 :: u117 :: u118 :: u119 :: u120 :: u121 :: u122 :: u123 :: u124 :: u125 :: u126 :: u127 :: u128 :: u129 :: u130 :: u131 :: u132 :: u133 :: u134 :: u135 :: u136 :: u137 :: u138 :: u139 :: u140 :: u141 :: u142 :: u143 :: u144 :: u145 :: u146 :: u147 :: u148 :: u149 :: u150 :: u151 :: u152 :: u153 :: u154 :: u155 :: [])), []⟩ w := by
  conv => arg 2; whnf
  have HF4 := Lib.hid hf4
  have HCF := Lib.hid hcf
  clear hf4 hcf
  have e1 : (x0 : Int) / 65536 = (na : Int) := by omega
  have e2 : (x0 : Int) % 65536 = (nb : Int) := by omega
  have e1t : (x0 : Int).tdiv 65536 = (na : Int) := by rw [Int.tdiv_eq_ediv_of_nonneg (by omega)]; exact e1
  have e2t : (x0 : Int).tmod 65536 = (nb : Int) := by rw [Int.tmod_eq_emod_of_nonneg (by omega)]; exact e2
  have e5 : IntKind.u32.wrap (na : Int) = (na : Int) := by rw [IntKind.wrap_u32]; omega
  have e6 : IntKind.u32.wrap (nb : Int) = (nb : Int) := by rw [IntKind.wrap_u32]; omega
  have e3 : IntKind.u16.wrap (na : Int) = (na : Int) := by rw [IntKind.wrap_u16]; omega
  have e4 : IntKind.u16.wrap (nb : Int) = (nb : Int) := by rw [IntKind.wrap_u16]; omega
  clear hna hnb
  refine wp_region_posts rp17_A [13, 14, 16] [13, 14, 16, 17] rp17_kill rp17_uses [16] [16] [] [17]
      (some ?v0 :: some ?v1 :: some ?v2 :: some ?v3 :: some (.int .u32 (x0 : Nat)) :: some ?v5 :: some ?v6 :: some ?v7 :: some ?v8 :: some (.int .u32 (x0 : Nat)) :: some ?v10 :: some ?v11 :: some ?v12 :: none :: none :: some ?v15 :: none :: [])
      ?T (fun wx => Ro cs ob rb w0 wx) ?W ?E (by kernel_rfl) (by kernel_rfl) (by kernel_rfl) (fun x => ?hT) ?hF ?hini (Reg.all_ops ?runs) ?pres ?fin
  case W => exact fun j x w' => match j with | 13 => ∃ g, x 13 = .slice (some ⟨g, 0, none⟩) 1 1 ∧ Is w' g 83 [Value.int .u16 (na : Nat), Value.int .u16 (nb : Nat)].toArray | 14 => ∃ A' c', x 14 = .slice A' (k + 1) c' ∧ OwnS w' w0.heap.size 83 2 (.slice A' (k + 1) c') (xss ++ [[Value.int .u16 (na : Nat), Value.int .u16 (nb : Nat)]]) | 16 => ∃ A' c', Ro (cs.setIfInBounds 3 (.slice A' (k + 1) c')) ob rb w0 w' ∧ OwnS w' w0.heap.size 83 2 (.slice A' (k + 1) c') (xss ++ [[Value.int .u16 (na : Nat), Value.int .u16 (nb : Nat)]]) | 17 => OwnS w' w0.heap.size 83 2 (.slice Ao k c) xss | _ => True
  case E => exact fun i w' w'' => match i with | 13 => Only (fun _ => False) w' w'' | _ => True
  case hT =>
    simp only [Reg.fillV, Act.put, List.setIfInBounds_toArray, List.set_cons_zero, List.set_cons_succ]
    rfl
  case runs =>
    refine And.intro ?_ ?_
    · refine Reg.ob_pure (fun _ => rfl) rfl rfl rfl rfl (fun x w1 hF => ?_)
      have cf : w1.cell? ⟨ob, 3, none⟩ = some (.slice Ao k c) := (hF.io.cell 3).trans HCF.out
      go_simp
      with_reducible rfl
    refine And.intro ?_ ?_
    · refine Reg.ob_pure (fun _ => rfl) rfl rfl rfl rfl (fun x w1 hF => ?_)
      have cf : w1.cell? ⟨ob, 3, none⟩ = some (.slice Ao k c) := (hF.io.cell 3).trans HCF.out
      go_simp
      with_reducible rfl
    refine And.intro ?_ ?_
    · refine Reg.ob_pure (fun _ => rfl) rfl rfl rfl rfl (fun x w1 hF => ?_)
      have cf : w1.cell? ⟨ob, 3, none⟩ = some (.slice Ao k c) := (hF.io.cell 3).trans HCF.out
      go_simp
      with_reducible rfl
    refine And.intro ?_ ?_
    · refine Reg.ob_pure (fun _ => rfl) rfl rfl rfl rfl (fun x w1 hF => ?_)
      have cf : w1.cell? ⟨ob, 3, none⟩ = some (.slice Ao k c) := (hF.io.cell 3).trans HCF.out
      go_simp
      with_reducible rfl
    refine And.intro ?_ ?_
    · refine Reg.ob_known (fun _ => rfl) rfl rfl (fun x w1 hF hU K hK => ?_)
      replace hF := hF rfl
      go_simp
      refine (HF4.out w1 hF.pure).mono ?_
      rintro e w5 ⟨rfl, rfl⟩
      exact hK _ (fun _ _ _ => hF) rfl
    refine And.intro ?_ ?_
    · refine Reg.ob_pure (fun _ => rfl) rfl rfl rfl rfl (fun x w1 hF => ?_)
      have cf : w1.cell? ⟨ob, 3, none⟩ = some (.slice Ao k c) := (hF.io.cell 3).trans HCF.out
      go_simp
      with_reducible rfl
    refine And.intro ?_ ?_
    · refine Reg.ob_pure (fun _ => rfl) rfl rfl rfl rfl (fun x w1 hF => ?_)
      have cf : w1.cell? ⟨ob, 3, none⟩ = some (.slice Ao k c) := (hF.io.cell 3).trans HCF.out
      go_simp
      with_reducible rfl
    refine And.intro ?_ ?_
    · refine Reg.ob_pure (fun _ => rfl) rfl rfl rfl rfl (fun x w1 hF => ?_)
      have cf : w1.cell? ⟨ob, 3, none⟩ = some (.slice Ao k c) := (hF.io.cell 3).trans HCF.out
      go_simp
      with_reducible rfl
    refine And.intro ?_ ?_
    · refine Reg.ob_pure (fun _ => rfl) rfl rfl rfl rfl (fun x w1 hF => ?_)
      have cf : w1.cell? ⟨ob, 3, none⟩ = some (.slice Ao k c) := (hF.io.cell 3).trans HCF.out
      go_simp
      with_reducible rfl
    refine And.intro ?_ ?_
    · refine Reg.ob_known (fun _ => rfl) rfl rfl (fun x w1 hF hU K hK => ?_)
      replace hF := hF rfl
      go_simp
      refine (HF4.out w1 hF.pure).mono ?_
      rintro e w5 ⟨rfl, rfl⟩
      exact hK _ (fun _ _ _ => hF) rfl
    refine And.intro ?_ ?_
    · refine Reg.ob_pure (fun _ => rfl) rfl rfl rfl rfl (fun x w1 hF => ?_)
      have cf : w1.cell? ⟨ob, 3, none⟩ = some (.slice Ao k c) := (hF.io.cell 3).trans HCF.out
      go_simp
      with_reducible rfl
    refine And.intro ?_ ?_
    · refine Reg.ob_pure (fun _ => rfl) rfl rfl rfl rfl (fun x w1 hF => ?_)
      have cf : w1.cell? ⟨ob, 3, none⟩ = some (.slice Ao k c) := (hF.io.cell 3).trans HCF.out
      go_simp
      with_reducible rfl
    refine And.intro ?_ ?_
    · refine Reg.ob_pure (fun _ => rfl) rfl rfl rfl rfl (fun x w1 hF => ?_)
      have cf : w1.cell? ⟨ob, 3, none⟩ = some (.slice Ao k c) := (hF.io.cell 3).trans HCF.out
      go_simp
      with_reducible rfl
    refine And.intro ?_ ?_
    · refine Reg.ob_some (fun _ => rfl) rfl (fun x w1 hF hU K hK => ?_)
      replace hF := hF rfl
      go_simp
      exact hK _ _ (fun _ _ _ => hF.go ((Only.refl _ _).alloc _)) ((Only.refl _ _).alloc _) ⟨_, rfl, Is.made _ _ _⟩
    refine And.intro ?_ ?_
    · refine Reg.ob_some (fun _ => rfl) rfl (fun x w1 hF hU K hK => ?_)
      replace hF := hF rfl
      obtain ⟨⟨g, hx, hI⟩, hO, -⟩ := hU
      have hx : x 13 = .slice (some ⟨g, 0, none⟩) 1 1 := hx
      have hO : OwnS w1 w0.heap.size 83 2 (.slice Ao k c) xss := hO
      refine append_run w1 _ _ sty_rp rfl w0.heap.size (.slice Ao k c) xss rfl hO g [Value.int .u16 (na : Nat), Value.int .u16 (nb : Nat)] (by simpa [Act.eval] using hx) hI rfl (by simp [Value.oneCell']) (by omega) (by decide) hF.pure.size ?_
      intro v' w' hown ho
      obtain ⟨A', c', rfl, -⟩ := OwnS.slice hown
      have e : (xss ++ [[Value.int .u16 (na : Nat), Value.int .u16 (nb : Nat)]]).length = k + 1 := by rw [List.length_append, hl]; rfl
      rw [e] at hown
      rw [e]
      exact hK _ w' (fun _ _ _ => hF.far hO.1 (by decide) ho) trivial ⟨A', c', rfl, hown⟩
    refine And.intro ?_ ?_
    · refine Reg.ob_pure (fun _ => rfl) rfl rfl rfl rfl (fun x w1 hF => ?_)
      have cf : w1.cell? ⟨ob, 3, none⟩ = some (.slice Ao k c) := (hF.io.cell 3).trans HCF.out
      go_simp
      with_reducible rfl
    refine And.intro ?_ ?_
    · refine Reg.ob_some (fun _ => rfl) rfl (fun x w1 hF hU K hK => ?_)
      replace hF := hF rfl
      obtain ⟨⟨A', c', hx, hO⟩, -⟩ := hU
      have hx : x 14 = .slice A' (k + 1) c' := hx
      have ff := hF.io.free 3
      have cf : w1.cell? ⟨ob, 3, none⟩ = some (.slice Ao k c) := (hF.io.cell 3).trans HCF.out
      revert hK
      simp only [Nat.reduceAdd, hx]
      intro hK
      go_simp
      exact hK undef _ (fun _ h _ => by cases h) trivial ⟨A', c', hF.put hrb hob 3 _, hO.stored hF.io (by decide) 3 _⟩
    exact trivial
  case hF =>
    exact hG.go ((Only.refl _ _).drewN 1)
  case hini =>
    exact ⟨fun x => OwnS.only hown ((Only.refl (fun _ => False) w).drewN 1) (by simp), trivial⟩
  case pres =>
    intro i hi j hj hc x wx wy hF hE hW
    simp only [List.mem_cons, List.mem_nil_iff, or_false] at hi hj
    rcases hi with rfl | rfl | rfl <;> rcases hj with rfl | rfl | rfl | rfl
    all_goals first
      | (exfalso; revert hc; decide)
      | (obtain ⟨g, h1, h3⟩ := hW; exact ⟨g, h1, h3.only hE (by simp)⟩)
      | (obtain ⟨A', c', h1, h2⟩ := hW; exact ⟨A', c', h1, OwnS.only h2 hE (by simp)⟩)
      | exact OwnS.only hW hE (by simp)
  case fin =>
    rintro x w9 hF hU
    obtain ⟨hQ, -⟩ := hU
    repeat apply Exists.intro
    exact ⟨rfl, rfl, hQ⟩

set_option maxRecDepth 100000 in
set_option maxHeartbeats 4000000 in
theorem rp17 (cs : Array Value) (q o c0 L i k c x0 ob rb : Nat) (Ao : Option Addr) (xss : List (List Value)) (na nb : Nat) (w0 : World) (hcf : cs[3]? = some (.slice Ao k c)) (hl : xss.length = k) (hk : k ≤ 10000) (hob : w0.heap.size ≤ ob) (hrb : rb ≠ ob) (hx0 : x0 < 4294967296) (hf4 : ∀ wx, Only (fun _ => False) w0 wx → Calls Try.prog 54 #[.slice (some ⟨q, o, none⟩) L c0, .int .i64 (i : Nat)] wx fun e w' => e = .returned (.int .u32 (x0 : Nat)) ∧ wx = w') (hna : x0 / 65536 = na) (hnb : x0 % 65536 = nb) (u0 u1 u2 u3 u6 u7 u9 u10 u11 u12 u13 u14 u15 u16 u17 u18 u19 u20 u21 u22 u23 u24 u25 u26 u27 u28 u29 u30 u31 u32 u33 u34 u35 u36 u37 u38 u39 u40 u41 u42 u43 u44 u45 u46 u47 u48 u49 u50 u51 u52 u53 u54 u55 u56 u57 u58 u59 u60 u61 u62 u63 u64 u65 u66 u67 u68 u69 u70 u71 u72 u73 u74 u75 u76 u77 u78 u79 u80 u81 u82 u83 u84 u85 u86 u87 u88 u89 u90 u91 u92 u93 u94 u95 u96 u97 u98 u99 u100 u101 u102 u103 u104 u105 u106 u107 u108 u109 u110 u111 u112 u113 u114 u115 u116 u117 u118 u119 u120 u121 u122 u123 u124 u125 u126 u127 u128 u129 u130 u131 u132 u133 u134 u135 u136 u137 u138 u139 u140 u141 u142 u143 u144 u145 u146 u147 u148 u149 u150 u151 u152 u153 u154 u155 : Value) (Q : Exit → Act → World → Prop) (w : World) (hG : Ro cs ob rb w0 w) (hown : OwnS w w0.heap.size 83 2 (.slice Ao k c) xss)
    (hend : ∀ (y56 y57 y58 y59 y60 y61 y62 y63 y64 y65 y66 y67 y68 y69 y70 y71 : Value) (w' : World), (∃ A' c', Ro (cs.setIfInBounds 3 (.slice A' (k + 1) c')) ob rb w0 w' ∧ OwnS w' w0.heap.size 83 2 (.slice A' (k + 1) c') (xss ++ [[Value.int .u16 (na : Nat), Value.int .u16 (nb : Nat)]])) → Q .normal ⟨(List.toArray (u0 :: u1 :: u2 :: u3 :: .slice (some ⟨q, o, none⟩) L c0 :: .pointer (some ⟨ob, 0, none⟩) :: u6 :: u7 :: .int .i64 (i : Nat) :: u9 :: u10 :: u11 :: u12 :: u13 :: u14 :: u15 :: u16 :: u17 :: u18 :: u19 :: u20 :: u21 :: u22 :: u23 :: u24 :: u25 :: u26 :: u27 :: u28 :: u29 :: u30 :: u31 :: u32 :: u33 :: u34 :: u35 :: u36 :: u37 :: u38 :: u39 :: u40 :: u41 :: u42 :: u43 :: u44 :: u45 :: u46 :: u47 :: u48 :: u49 :: u50 :: u51 :: u52 :: u53 :: u54 :: u55 :: y56 :: y57 :: y58 :: y59 :: y60 :: y61 :: y62 :: y63 :: y64 :: y65 :: y66 :: y67 :: y68 :: y69 :: y70 :: y71 :: u72 :: u73 :: u74 :: u75 :: u76 :: u77 :: u78 :: u79 :: u80 :: u81 :: u82 :: u83 :: u84 :: u85 :: u86 :: u87 :: u88 :: u89 :: u90 :: u91 :: u92 :: u93 :: u94 :: u95 :: u96 :: u97 :: u98 :: u99 :: u100 :: u101 :: u102 :: u103 :: u104 :: u105 :: u106 :: u107 :: u108 :: u109 :: u110 :: u111 :: u112 :: u113 :: u114 :: u115 :: u116 :: u117 :: u118 :: u119 :: u120 :: u121 :: u122 :: u123 :: u124 :: u125 :: u126 :: u127 :: u128 :: u129 :: u130 :: u131 :: u132 :: u133 :: u134 :: u135 :: u136 :: u137 :: u138 :: u139 :: u140 :: u141 :: u142 :: u143 :: u144 :: u145 :: u146 :: u147 :: u148 :: u149 :: u150 :: u151 :: u152 :: u153 :: u154 :: u155 :: [])), []⟩ w') :
    Code.wp Try.prog rp17_code Q ⟨(List.toArray (u0 :: u1 :: u2 :: u3 :: .slice (some ⟨q, o, none⟩) L c0 :: .pointer (some ⟨ob, 0, none⟩) :: u6 :: u7 :: .int .i64 (i : Nat) :: u9 :: u10 :: u11 :: u12 :: u13 :: u14 :: u15 :: u16 :: u17 :: u18 :: u19 :: u20 :: u21 :: u22 :: u23 :: u24 :: u25 :: u26 :: u27 :: u28 :: u29 :: u30 :: u31 :: u32 :: u33 :: u34 :: u35 :: u36 :: u37 :: u38 :: u39 :: u40 :: u41 :: u42 :: u43 :: u44 :: u45 :: u46 :: u47 :: u48 :: u49 :: u50 :: u51 :: u52 :: u53 :: u54 :: u55 :: u56 :: u57 :: u58 :: u59 :: u60 :: u61 :: u62 :: u63 :: u64 :: u65 :: u66 :: u67 :: u68 :: u69 :: u70 :: u71 :: u72 :: u73 :: u74 :: u75 :: u76 :: u77 :: u78 :: u79 :: u80 :: u81 :: u82 :: u83 :: u84 :: u85 :: u86 :: u87 :: u88 :: u89 :: u90 :: u91 :: u92 :: u93 :: u94 :: u95 :: u96 :: u97 :: u98 :: u99 :: u100 :: u101 :: u102 :: u103 :: u104 :: u105 :: u106 :: u107 :: u108 :: u109 :: u110 :: u111 :: u112 :: u113 :: u114 :: u115 :: u116 :: u117 :: u118 :: u119 :: u120 :: u121 :: u122 :: u123 :: u124 :: u125 :: u126 :: u127 :: u128 :: u129 :: u130 :: u131 :: u132 :: u133 :: u134 :: u135 :: u136 :: u137 :: u138 :: u139 :: u140 :: u141 :: u142 :: u143 :: u144 :: u145 :: u146 :: u147 :: u148 :: u149 :: u150 :: u151 :: u152 :: u153 :: u154 :: u155 :: [])), []⟩ w := by
  refine wp_mono (rp17_in cs q o c0 L i k c x0 ob rb Ao xss na nb w0 hcf hl hk hob hrb hx0 hf4 hna hnb _ _ _ _ _ _ _ _ _ _ _ _ _ _ _ _ _ _ _ _ _ _ _ _ _ _ _ _ _ _ _ _ _ _ _ _ _ _ _ _ _ _ _ _ _ _ _ _ _ _ _ _ _ _ _ _ _ _ _ _ _ _ _ _ _ _ _ _ _ _ _ _ _ _ _ _ _ _ _ _ _ _ _ _ _ _ _ _ _ _ _ _ _ _ _ _ _ _ _ _ _ _ _ _ _ _ _ _ _ _ _ _ _ _ _ _ _ _ _ _ _ _ _ _ _ _ _ _ _ _ _ _ _ _ _ _ _ _ _ _ _ _ _ _ _ _ _ _ _ _ _ _ _ w hG hown) ?_
  rintro e a w' h
  obtain ⟨y56, h⟩ := h
  obtain ⟨y57, h⟩ := h
  obtain ⟨y58, h⟩ := h
  obtain ⟨y59, h⟩ := h
  obtain ⟨y60, h⟩ := h
  obtain ⟨y61, h⟩ := h
  obtain ⟨y62, h⟩ := h
  obtain ⟨y63, h⟩ := h
  obtain ⟨y64, h⟩ := h
  obtain ⟨y65, h⟩ := h
  obtain ⟨y66, h⟩ := h
  obtain ⟨y67, h⟩ := h
  obtain ⟨y68, h⟩ := h
  obtain ⟨y69, h⟩ := h
  obtain ⟨y70, h⟩ := h
  obtain ⟨y71, h⟩ := h
  obtain ⟨h, rfl, hq⟩ := h
  subst h
  exact hend y56 y57 y58 y59 y60 y61 y62 y63 y64 y65 y66 y67 y68 y69 y70 y71 w' hq
def rp23_A : List (List Nat) := ([] :: [0] :: [] :: [] :: [2, 3] :: [] :: [] :: [6] :: [5, 7, 6] :: [8, 5, 7, 6] :: (4 :: 9 :: 2 :: 3 :: 8 :: 5 :: 7 :: 6 :: []) :: (10 :: 4 :: 9 :: 2 :: 3 :: 8 :: 5 :: 7 :: 6 :: []) :: (1 :: 11 :: 4 :: 0 :: 10 :: 9 :: 2 :: 3 :: 8 :: 5 :: 7 :: 6 :: []) :: (0 :: 1 :: 2 :: 3 :: 4 :: 5 :: 6 :: 7 :: 8 :: 9 :: 10 :: 11 :: 12 :: []) :: (13 :: 12 :: 0 :: 1 :: 2 :: 3 :: 4 :: 5 :: 6 :: 7 :: 8 :: 9 :: 10 :: 11 :: []) :: [])
def rp23_kill : List (List Nat) := ([] :: [] :: [] :: [] :: [] :: [] :: [] :: [] :: [] :: [] :: [] :: [] :: [11, 15] :: [] :: [11, 12, 15] :: [])
def rp23_uses : List (List Nat) := ([] :: [] :: [] :: [] :: [] :: [] :: [] :: [] :: [] :: [] :: [] :: [] :: [11, 15] :: [] :: [12] :: [])
noncomputable def rp23_code : Code := ((Try.f22.body.bind (codeRegion 23)).getD .skip)
set_option maxRecDepth 100000 in
set_option maxHeartbeats 4000000 in
theorem rp23_in (cs : Array Value) (q o c0 L i k c x0 ob rb : Nat) (Ao : Option Addr) (xss : List (List Value)) (no : Nat) (w0 : World) (hcf : cs[4]? = some (.slice Ao k c)) (hl : xss.length = k) (hk : k ≤ 10000) (hob : w0.heap.size ≤ ob) (hrb : rb ≠ ob) (hx0 : x0 < 4294967296) (hf4 : ∀ wx, Only (fun _ => False) w0 wx → Calls Try.prog 54 #[.slice (some ⟨q, o, none⟩) L c0, .int .i64 (i : Nat)] wx fun e w' => e = .returned (.int .u32 (x0 : Nat)) ∧ wx = w') (hno : w0.cell? ⟨q, o + (i + 4), none⟩ = some (.int .u8 (no : Nat))) (hqw : q < w0.heap.size) (hiL : i + 4 < L) (hL : L ≤ 100000) (u0 u1 u2 u3 u6 u7 u8 u10 u11 u12 u13 u14 u15 u16 u17 u18 u19 u20 u21 u22 u23 u24 u25 u26 u27 u28 u29 u30 u31 u32 u33 u34 u35 u36 u37 u38 u39 u40 u41 u42 u43 u44 u45 u46 u47 u48 u49 u50 u51 u52 u53 u54 u55 u56 u57 u58 u59 u60 u61 u62 u63 u64 u65 u66 u67 u68 u69 u70 u71 u72 u73 u74 u75 u76 u77 u78 u79 u80 u81 u82 u83 u84 u85 u86 u87 u88 u89 u90 u91 u92 u93 u94 u95 u96 u97 u98 u99 u100 u101 u102 u103 u104 u105 u106 u107 u108 u109 u110 u111 u112 u113 u114 u115 u116 u117 u118 u119 u120 u121 u122 u123 u124 u125 u126 u127 u128 u129 u130 u131 u132 u133 u134 u135 u136 u137 u138 u139 u140 u141 u142 u143 u144 u145 u146 u147 u148 u149 u150 u151 u152 u153 u154 u155 : Value) (w : World) (hG : Ro cs ob rb w0 w) (hown : OwnS w w0.heap.size 86 2 (.slice Ao k c) xss) :
    Code.wp Try.prog rp23_code (fun e a w' => ∃ y90 y91 y92 y93 y94 y95 y96 y97 y98 y99 y100 y101 y102 y103 : Value, a = ⟨(List.toArray (u0 :: u1 :: u2 :: u3 :: .slice (some ⟨q, o, none⟩) L c0 :: .pointer (some ⟨ob, 0, none⟩) :: u6 :: u7 :: u8 :: .int .i64 (i : Nat) :: u10 :: u11 :: u12 :: u13 :: u14 :: u15 :: u16 :: u17 :: u18 :: u19 :: u20 :: u21 :: u22 :: u23 :: u24 :: u25 :: u26 :: u27 :: u28 :: u29 :: u30 :: u31 :: u32 :: u33 :: u34 :: u35 :: u36 :: u37 :: u38 :: u39 :: u40 :: u41 :: u42 :: u43 :: u44 :: u45 :: u46 :: u47 :: u48 :: u49 :: u50 :: u51 :: u52 :: u53 :: u54 :: u55 :: u56 :: u57 :: u58 :: u59 :: u60 :: u61 :: u62 :: u63 :: u64 :: u65 :: u66 :: u67 :: u68 :: u69 :: u70 :: u71 :: u72 :: u73 :: u74 :: u75 :: u76 :: u77 :: u78 :: u79 :: u80 :: u81 :: u82 :: u83 :: u84 :: u85 :: u86 :: u87 :: u88 :: u89 :: y90 :: y91 :: y92 :: y93 :: y94 :: y95 :: y96 :: y97 :: y98 :: y99 :: y100 :: y101 :: y102 :: y103 :: u104 :: u105 :: u106 :: u107 :: u108 :: u109 :: u110 :: u111 :: u112 :: u113 :: u114 :: u115 :: u116 :: u117 :: u118 :: u119 :: u120 :: u121 :: u122 :: u123 :: u124 :: u125 :: u126 :: u127 :: u128 :: u129 :: u130 :: u131 :: u132 :: u133 :: u134 :: u135 :: u136 :: u137 :: u138 :: u139 :: u140 :: u141 :: u142 :: u143 :: u144 :: u145 :: u146 :: u147 :: u148 :: u149 :: u150 :: u151 :: u152 :: u153 :: u154 :: u155 :: [])), []⟩ ∧ e = .normal ∧ (∃ A' c', Ro (cs.setIfInBounds 4 (.slice A' (k + 1) c')) ob rb w0 w' ∧ OwnS w' w0.heap.size 86 2 (.slice A' (k + 1) c') (xss ++ [[Value.int .u32 (x0 : Nat), Value.int .u8 (no : Nat)]]))) ⟨(List.toArray (u0 :: u1 :: u2 :: u3 :: .slice (some ⟨q, o, none⟩) L c0 :: .pointer (some ⟨ob, 0, none⟩) :: u6 :: u7 :: u8 :: .int .i64 (i : Nat) :: u10 :: u11 :: u12 :: u13 :: u14 :: u15 :: u16 :: u17 :: u18 :: u19 :: u20 :: u21 :: u22 :: u23 :: u24 :: u25 :: u26 :: u27 :: u28 :: u29 :: u30 :: u31 :: u32 :: u33 :: u34 :: u35 :: u36 :: u37 :: u38 :: u39 :: u40 :: u41 :: u42 :: u43 :: u44 :: u45 :: u46 :: u47 :: u48 :: u49 :: u50 :: u51 :: u52 :: u53 :: u54 :: u55 :: u56 :: u57 :: u58 :: u59 :: u60 :: u61 :: u62 :: u63 :: u64 :: u65 :: u66 :: u67 :: u68 :: u69 :: u70 :: u71 :: u72 :: u73 :: u74 :: u75 :: u76 :: u77 :: u78 :: u79 :: u80 :: u81 :: u82 :: u83 :: u84 :: u85 :: u86 :: u87 :: u88 :: u89 :: u90 :: u91 :: u92 :: u93 :: u94 :: u95 :: u96 :: u97 :: u98 :: u99 :: u100 :: u101 :: u102 :: u103 :: u104 :: u105 :: u106 :: u107 :: u108 :: u109 :: u110 :: u111 :: u112 :: u113 :: u114 :: u115 :: u116 :: u117 :: u118 :: u119 :: u120 :: u121 :: u122 :: u123 :: u124 :: u125 :: u126 :: u127 :: u128 :: u129 :: u130 :: u131 :: u132 :: u133 :: u134 :: u135 :: u136 :: u137 :: u138 :: u139 :: u140 :: u141 :: u142 :: u143 :: u144 :: u145 :: u146 :: u147 :: u148 :: u149 :: u150 :: u151 :: u152 :: u153 :: u154 :: u155 :: [])), []⟩ w := by
  conv => arg 2; whnf
  have HF4 := Lib.hid hf4
  have HCF := Lib.hid hcf
  clear hf4 hcf
  have HNO := Lib.hid hno
  have hiI : ((i : Int) + 4) < (L : Int) := by omega
  have hi0 : (0 : Int) ≤ (i : Int) + 4 := by omega
  have hit : ((i : Int) + 4).toNat = i + 4 := by omega
  have hi4 : IntKind.i64.wrap ((i : Int) + 4) = ((i + 4 : Nat) : Int) := by rw [IntKind.wrap_i64]; omega
  clear hno
  refine wp_region_posts rp23_A [11, 12, 14] [11, 12, 14, 15] rp23_kill rp23_uses [14] [14] [] [15]
      (some ?v0 :: some ?v1 :: some ?v2 :: some ?v3 :: some (.int .u32 (x0 : Nat)) :: some ?v5 :: some ?v6 :: some ?v7 :: some ?v8 :: some ?v9 :: some ?v10 :: none :: none :: some ?v13 :: none :: [])
      ?T (fun wx => Ro cs ob rb w0 wx) ?W ?E (by kernel_rfl) (by kernel_rfl) (by kernel_rfl) (fun x => ?hT) ?hF ?hini (Reg.all_ops ?runs) ?pres ?fin
  case W => exact fun j x w' => match j with | 11 => ∃ g, x 11 = .slice (some ⟨g, 0, none⟩) 1 1 ∧ Is w' g 86 [Value.int .u32 (x0 : Nat), Value.int .u8 (no : Nat)].toArray | 12 => ∃ A' c', x 12 = .slice A' (k + 1) c' ∧ OwnS w' w0.heap.size 86 2 (.slice A' (k + 1) c') (xss ++ [[Value.int .u32 (x0 : Nat), Value.int .u8 (no : Nat)]]) | 14 => ∃ A' c', Ro (cs.setIfInBounds 4 (.slice A' (k + 1) c')) ob rb w0 w' ∧ OwnS w' w0.heap.size 86 2 (.slice A' (k + 1) c') (xss ++ [[Value.int .u32 (x0 : Nat), Value.int .u8 (no : Nat)]]) | 15 => OwnS w' w0.heap.size 86 2 (.slice Ao k c) xss | _ => True
  case E => exact fun i w' w'' => match i with | 11 => Only (fun _ => False) w' w'' | _ => True
  case hT =>
    simp only [Reg.fillV, Act.put, List.setIfInBounds_toArray, List.set_cons_zero, List.set_cons_succ]
    rfl
  case runs =>
    refine And.intro ?_ ?_
    · refine Reg.ob_pure (fun _ => rfl) rfl rfl rfl rfl (fun x w1 hF => ?_)
      have cf : w1.cell? ⟨ob, 4, none⟩ = some (.slice Ao k c) := (hF.io.cell 4).trans HCF.out
      go_simp
      with_reducible rfl
    refine And.intro ?_ ?_
    · refine Reg.ob_pure (fun _ => rfl) rfl rfl rfl rfl (fun x w1 hF => ?_)
      have cf : w1.cell? ⟨ob, 4, none⟩ = some (.slice Ao k c) := (hF.io.cell 4).trans HCF.out
      go_simp
      with_reducible rfl
    refine And.intro ?_ ?_
    · refine Reg.ob_pure (fun _ => rfl) rfl rfl rfl rfl (fun x w1 hF => ?_)
      have cf : w1.cell? ⟨ob, 4, none⟩ = some (.slice Ao k c) := (hF.io.cell 4).trans HCF.out
      go_simp
      with_reducible rfl
    refine And.intro ?_ ?_
    · refine Reg.ob_pure (fun _ => rfl) rfl rfl rfl rfl (fun x w1 hF => ?_)
      have cf : w1.cell? ⟨ob, 4, none⟩ = some (.slice Ao k c) := (hF.io.cell 4).trans HCF.out
      go_simp
      with_reducible rfl
    refine And.intro ?_ ?_
    · refine Reg.ob_known (fun _ => rfl) rfl rfl (fun x w1 hF hU K hK => ?_)
      replace hF := hF rfl
      go_simp
      refine (HF4.out w1 hF.pure).mono ?_
      rintro e w5 ⟨rfl, rfl⟩
      exact hK _ (fun _ _ _ => hF) rfl
    refine And.intro ?_ ?_
    · refine Reg.ob_pure (fun _ => rfl) rfl rfl rfl rfl (fun x w1 hF => ?_)
      have cf : w1.cell? ⟨ob, 4, none⟩ = some (.slice Ao k c) := (hF.io.cell 4).trans HCF.out
      go_simp
      with_reducible rfl
    refine And.intro ?_ ?_
    · refine Reg.ob_pure (fun _ => rfl) rfl rfl rfl rfl (fun x w1 hF => ?_)
      have cf : w1.cell? ⟨ob, 4, none⟩ = some (.slice Ao k c) := (hF.io.cell 4).trans HCF.out
      go_simp
      with_reducible rfl
    refine And.intro ?_ ?_
    · refine Reg.ob_pure (fun _ => rfl) rfl rfl rfl rfl (fun x w1 hF => ?_)
      have cf : w1.cell? ⟨ob, 4, none⟩ = some (.slice Ao k c) := (hF.io.cell 4).trans HCF.out
      go_simp
      with_reducible rfl
    refine And.intro ?_ ?_
    · refine Reg.ob_pure (fun _ => rfl) rfl rfl rfl rfl (fun x w1 hF => ?_)
      have cf : w1.cell? ⟨ob, 4, none⟩ = some (.slice Ao k c) := (hF.io.cell 4).trans HCF.out
      go_simp
      with_reducible rfl
    refine And.intro ?_ ?_
    · refine Reg.ob_pure (fun _ => rfl) rfl rfl rfl rfl (fun x w1 hF => ?_)
      have cb := (hF.pure.cell (p := ⟨q, o + (i + 4), none⟩) hqw (by simp)).trans HNO.out
      go_simp
      with_reducible rfl
    refine And.intro ?_ ?_
    · refine Reg.ob_pure (fun _ => rfl) rfl rfl rfl rfl (fun x w1 hF => ?_)
      have cf : w1.cell? ⟨ob, 4, none⟩ = some (.slice Ao k c) := (hF.io.cell 4).trans HCF.out
      go_simp
      with_reducible rfl
    refine And.intro ?_ ?_
    · refine Reg.ob_some (fun _ => rfl) rfl (fun x w1 hF hU K hK => ?_)
      replace hF := hF rfl
      go_simp
      exact hK _ _ (fun _ _ _ => hF.go ((Only.refl _ _).alloc _)) ((Only.refl _ _).alloc _) ⟨_, rfl, Is.made _ _ _⟩
    refine And.intro ?_ ?_
    · refine Reg.ob_some (fun _ => rfl) rfl (fun x w1 hF hU K hK => ?_)
      replace hF := hF rfl
      obtain ⟨⟨g, hx, hI⟩, hO, -⟩ := hU
      have hx : x 11 = .slice (some ⟨g, 0, none⟩) 1 1 := hx
      have hO : OwnS w1 w0.heap.size 86 2 (.slice Ao k c) xss := hO
      refine append_run w1 _ _ sty_ro rfl w0.heap.size (.slice Ao k c) xss rfl hO g [Value.int .u32 (x0 : Nat), Value.int .u8 (no : Nat)] (by simpa [Act.eval] using hx) hI rfl (by simp [Value.oneCell']) (by omega) (by decide) hF.pure.size ?_
      intro v' w' hown ho
      obtain ⟨A', c', rfl, -⟩ := OwnS.slice hown
      have e : (xss ++ [[Value.int .u32 (x0 : Nat), Value.int .u8 (no : Nat)]]).length = k + 1 := by rw [List.length_append, hl]; rfl
      rw [e] at hown
      rw [e]
      exact hK _ w' (fun _ _ _ => hF.far hO.1 (by decide) ho) trivial ⟨A', c', rfl, hown⟩
    refine And.intro ?_ ?_
    · refine Reg.ob_pure (fun _ => rfl) rfl rfl rfl rfl (fun x w1 hF => ?_)
      have cf : w1.cell? ⟨ob, 4, none⟩ = some (.slice Ao k c) := (hF.io.cell 4).trans HCF.out
      go_simp
      with_reducible rfl
    refine And.intro ?_ ?_
    · refine Reg.ob_some (fun _ => rfl) rfl (fun x w1 hF hU K hK => ?_)
      replace hF := hF rfl
      obtain ⟨⟨A', c', hx, hO⟩, -⟩ := hU
      have hx : x 12 = .slice A' (k + 1) c' := hx
      have ff := hF.io.free 4
      have cf : w1.cell? ⟨ob, 4, none⟩ = some (.slice Ao k c) := (hF.io.cell 4).trans HCF.out
      revert hK
      simp only [Nat.reduceAdd, hx]
      intro hK
      go_simp
      exact hK undef _ (fun _ h _ => by cases h) trivial ⟨A', c', hF.put hrb hob 4 _, hO.stored hF.io (by decide) 4 _⟩
    exact trivial
  case hF =>
    exact hG.go ((Only.refl _ _).drewN 1)
  case hini =>
    exact ⟨fun x => OwnS.only hown ((Only.refl (fun _ => False) w).drewN 1) (by simp), trivial⟩
  case pres =>
    intro i hi j hj hc x wx wy hF hE hW
    simp only [List.mem_cons, List.mem_nil_iff, or_false] at hi hj
    rcases hi with rfl | rfl | rfl <;> rcases hj with rfl | rfl | rfl | rfl
    all_goals first
      | (exfalso; revert hc; decide)
      | (obtain ⟨g, h1, h3⟩ := hW; exact ⟨g, h1, h3.only hE (by simp)⟩)
      | (obtain ⟨A', c', h1, h2⟩ := hW; exact ⟨A', c', h1, OwnS.only h2 hE (by simp)⟩)
      | exact OwnS.only hW hE (by simp)
  case fin =>
    rintro x w9 hF hU
    obtain ⟨hQ, -⟩ := hU
    repeat apply Exists.intro
    exact ⟨rfl, rfl, hQ⟩

set_option maxRecDepth 100000 in
set_option maxHeartbeats 4000000 in
theorem rp23 (cs : Array Value) (q o c0 L i k c x0 ob rb : Nat) (Ao : Option Addr) (xss : List (List Value)) (no : Nat) (w0 : World) (hcf : cs[4]? = some (.slice Ao k c)) (hl : xss.length = k) (hk : k ≤ 10000) (hob : w0.heap.size ≤ ob) (hrb : rb ≠ ob) (hx0 : x0 < 4294967296) (hf4 : ∀ wx, Only (fun _ => False) w0 wx → Calls Try.prog 54 #[.slice (some ⟨q, o, none⟩) L c0, .int .i64 (i : Nat)] wx fun e w' => e = .returned (.int .u32 (x0 : Nat)) ∧ wx = w') (hno : w0.cell? ⟨q, o + (i + 4), none⟩ = some (.int .u8 (no : Nat))) (hqw : q < w0.heap.size) (hiL : i + 4 < L) (hL : L ≤ 100000) (u0 u1 u2 u3 u6 u7 u8 u10 u11 u12 u13 u14 u15 u16 u17 u18 u19 u20 u21 u22 u23 u24 u25 u26 u27 u28 u29 u30 u31 u32 u33 u34 u35 u36 u37 u38 u39 u40 u41 u42 u43 u44 u45 u46 u47 u48 u49 u50 u51 u52 u53 u54 u55 u56 u57 u58 u59 u60 u61 u62 u63 u64 u65 u66 u67 u68 u69 u70 u71 u72 u73 u74 u75 u76 u77 u78 u79 u80 u81 u82 u83 u84 u85 u86 u87 u88 u89 u90 u91 u92 u93 u94 u95 u96 u97 u98 u99 u100 u101 u102 u103 u104 u105 u106 u107 u108 u109 u110 u111 u112 u113 u114 u115 u116 u117 u118 u119 u120 u121 u122 u123 u124 u125 u126 u127 u128 u129 u130 u131 u132 u133 u134 u135 u136 u137 u138 u139 u140 u141 u142 u143 u144 u145 u146 u147 u148 u149 u150 u151 u152 u153 u154 u155 : Value) (Q : Exit → Act → World → Prop) (w : World) (hG : Ro cs ob rb w0 w) (hown : OwnS w w0.heap.size 86 2 (.slice Ao k c) xss)
    (hend : ∀ (y90 y91 y92 y93 y94 y95 y96 y97 y98 y99 y100 y101 y102 y103 : Value) (w' : World), (∃ A' c', Ro (cs.setIfInBounds 4 (.slice A' (k + 1) c')) ob rb w0 w' ∧ OwnS w' w0.heap.size 86 2 (.slice A' (k + 1) c') (xss ++ [[Value.int .u32 (x0 : Nat), Value.int .u8 (no : Nat)]])) → Q .normal ⟨(List.toArray (u0 :: u1 :: u2 :: u3 :: .slice (some ⟨q, o, none⟩) L c0 :: .pointer (some ⟨ob, 0, none⟩) :: u6 :: u7 :: u8 :: .int .i64 (i : Nat) :: u10 :: u11 :: u12 :: u13 :: u14 :: u15 :: u16 :: u17 :: u18 :: u19 :: u20 :: u21 :: u22 :: u23 :: u24 :: u25 :: u26 :: u27 :: u28 :: u29 :: u30 :: u31 :: u32 :: u33 :: u34 :: u35 :: u36 :: u37 :: u38 :: u39 :: u40 :: u41 :: u42 :: u43 :: u44 :: u45 :: u46 :: u47 :: u48 :: u49 :: u50 :: u51 :: u52 :: u53 :: u54 :: u55 :: u56 :: u57 :: u58 :: u59 :: u60 :: u61 :: u62 :: u63 :: u64 :: u65 :: u66 :: u67 :: u68 :: u69 :: u70 :: u71 :: u72 :: u73 :: u74 :: u75 :: u76 :: u77 :: u78 :: u79 :: u80 :: u81 :: u82 :: u83 :: u84 :: u85 :: u86 :: u87 :: u88 :: u89 :: y90 :: y91 :: y92 :: y93 :: y94 :: y95 :: y96 :: y97 :: y98 :: y99 :: y100 :: y101 :: y102 :: y103 :: u104 :: u105 :: u106 :: u107 :: u108 :: u109 :: u110 :: u111 :: u112 :: u113 :: u114 :: u115 :: u116 :: u117 :: u118 :: u119 :: u120 :: u121 :: u122 :: u123 :: u124 :: u125 :: u126 :: u127 :: u128 :: u129 :: u130 :: u131 :: u132 :: u133 :: u134 :: u135 :: u136 :: u137 :: u138 :: u139 :: u140 :: u141 :: u142 :: u143 :: u144 :: u145 :: u146 :: u147 :: u148 :: u149 :: u150 :: u151 :: u152 :: u153 :: u154 :: u155 :: [])), []⟩ w') :
    Code.wp Try.prog rp23_code Q ⟨(List.toArray (u0 :: u1 :: u2 :: u3 :: .slice (some ⟨q, o, none⟩) L c0 :: .pointer (some ⟨ob, 0, none⟩) :: u6 :: u7 :: u8 :: .int .i64 (i : Nat) :: u10 :: u11 :: u12 :: u13 :: u14 :: u15 :: u16 :: u17 :: u18 :: u19 :: u20 :: u21 :: u22 :: u23 :: u24 :: u25 :: u26 :: u27 :: u28 :: u29 :: u30 :: u31 :: u32 :: u33 :: u34 :: u35 :: u36 :: u37 :: u38 :: u39 :: u40 :: u41 :: u42 :: u43 :: u44 :: u45 :: u46 :: u47 :: u48 :: u49 :: u50 :: u51 :: u52 :: u53 :: u54 :: u55 :: u56 :: u57 :: u58 :: u59 :: u60 :: u61 :: u62 :: u63 :: u64 :: u65 :: u66 :: u67 :: u68 :: u69 :: u70 :: u71 :: u72 :: u73 :: u74 :: u75 :: u76 :: u77 :: u78 :: u79 :: u80 :: u81 :: u82 :: u83 :: u84 :: u85 :: u86 :: u87 :: u88 :: u89 :: u90 :: u91 :: u92 :: u93 :: u94 :: u95 :: u96 :: u97 :: u98 :: u99 :: u100 :: u101 :: u102 :: u103 :: u104 :: u105 :: u106 :: u107 :: u108 :: u109 :: u110 :: u111 :: u112 :: u113 :: u114 :: u115 :: u116 :: u117 :: u118 :: u119 :: u120 :: u121 :: u122 :: u123 :: u124 :: u125 :: u126 :: u127 :: u128 :: u129 :: u130 :: u131 :: u132 :: u133 :: u134 :: u135 :: u136 :: u137 :: u138 :: u139 :: u140 :: u141 :: u142 :: u143 :: u144 :: u145 :: u146 :: u147 :: u148 :: u149 :: u150 :: u151 :: u152 :: u153 :: u154 :: u155 :: [])), []⟩ w := by
  refine wp_mono (rp23_in cs q o c0 L i k c x0 ob rb Ao xss no w0 hcf hl hk hob hrb hx0 hf4 hno hqw hiL hL _ _ _ _ _ _ _ _ _ _ _ _ _ _ _ _ _ _ _ _ _ _ _ _ _ _ _ _ _ _ _ _ _ _ _ _ _ _ _ _ _ _ _ _ _ _ _ _ _ _ _ _ _ _ _ _ _ _ _ _ _ _ _ _ _ _ _ _ _ _ _ _ _ _ _ _ _ _ _ _ _ _ _ _ _ _ _ _ _ _ _ _ _ _ _ _ _ _ _ _ _ _ _ _ _ _ _ _ _ _ _ _ _ _ _ _ _ _ _ _ _ _ _ _ _ _ _ _ _ _ _ _ _ _ _ _ _ _ _ _ _ _ _ _ _ _ _ _ _ _ _ _ _ w hG hown) ?_
  rintro e a w' h
  obtain ⟨y90, h⟩ := h
  obtain ⟨y91, h⟩ := h
  obtain ⟨y92, h⟩ := h
  obtain ⟨y93, h⟩ := h
  obtain ⟨y94, h⟩ := h
  obtain ⟨y95, h⟩ := h
  obtain ⟨y96, h⟩ := h
  obtain ⟨y97, h⟩ := h
  obtain ⟨y98, h⟩ := h
  obtain ⟨y99, h⟩ := h
  obtain ⟨y100, h⟩ := h
  obtain ⟨y101, h⟩ := h
  obtain ⟨y102, h⟩ := h
  obtain ⟨y103, h⟩ := h
  obtain ⟨h, rfl, hq⟩ := h
  subst h
  exact hend y90 y91 y92 y93 y94 y95 y96 y97 y98 y99 y100 y101 y102 y103 w' hq
def rp33_A : List (List Nat) := ([] :: [0] :: [] :: [] :: [2, 3] :: [4, 2, 3] :: [1, 5, 4, 0, 2, 3] :: [0, 1, 2, 3, 4, 5, 6] :: (7 :: 6 :: 0 :: 1 :: 2 :: 3 :: 4 :: 5 :: []) :: [])
def rp33_kill : List (List Nat) := ([] :: [] :: [] :: [] :: [] :: [] :: [5, 9] :: [] :: [5, 6, 9] :: [])
def rp33_uses : List (List Nat) := ([] :: [] :: [] :: [] :: [] :: [] :: [5, 9] :: [] :: [6] :: [])
noncomputable def rp33_code : Code := ((Try.f22.body.bind (codeRegion 33)).getD .skip)
set_option maxRecDepth 100000 in
set_option maxHeartbeats 4000000 in
theorem rp33_in (cs : Array Value) (q o c0 L i k c x0 ob rb : Nat) (Ao : Option Addr) (xss : List (List Value)) (w0 : World) (hcf : cs[7]? = some (.slice Ao k c)) (hl : xss.length = k) (hk : k ≤ 10000) (hob : w0.heap.size ≤ ob) (hrb : rb ≠ ob) (hx0 : x0 < 4294967296) (hf4 : ∀ wx, Only (fun _ => False) w0 wx → Calls Try.prog 54 #[.slice (some ⟨q, o, none⟩) L c0, .int .i64 (i : Nat)] wx fun e w' => e = .returned (.int .u32 (x0 : Nat)) ∧ wx = w')  (u0 u1 u2 u3 u6 u7 u8 u9 u10 u12 u13 u14 u15 u16 u17 u18 u19 u20 u21 u22 u23 u24 u25 u26 u27 u28 u29 u30 u31 u32 u33 u34 u35 u36 u37 u38 u39 u40 u41 u42 u43 u44 u45 u46 u47 u48 u49 u50 u51 u52 u53 u54 u55 u56 u57 u58 u59 u60 u61 u62 u63 u64 u65 u66 u67 u68 u69 u70 u71 u72 u73 u74 u75 u76 u77 u78 u79 u80 u81 u82 u83 u84 u85 u86 u87 u88 u89 u90 u91 u92 u93 u94 u95 u96 u97 u98 u99 u100 u101 u102 u103 u104 u105 u106 u107 u108 u109 u110 u111 u112 u113 u114 u115 u116 u117 u118 u119 u120 u121 u122 u123 u124 u125 u126 u127 u128 u129 u130 u131 u132 u133 u134 u135 u136 u137 u138 u139 u140 u141 u142 u143 u144 u145 u146 u147 u148 u149 u150 u151 u152 u153 u154 u155 : Value) (w : World) (hG : Ro cs ob rb w0 w) (hown : OwnS w w0.heap.size 22 1 (.slice Ao k c) xss) :
    Code.wp Try.prog rp33_code (fun e a w' => ∃ y144 y145 y146 y147 y148 y149 y150 y151 : Value, a = ⟨(List.toArray (u0 :: u1 :: u2 :: u3 :: .slice (some ⟨q, o, none⟩) L c0 :: .pointer (some ⟨ob, 0, none⟩) :: u6 :: u7 :: u8 :: u9 :: u10 :: .int .i64 (i : Nat) :: u12 :: u13 :: u14 :: u15 :: u16 :: u17 :: u18 :: u19 :: u20 :: u21 :: u22 :: u23 :: u24 :: u25 :: u26 :: u27 :: u28 :: u29 :: u30 :: u31 :: u32 :: u33 :: u34 :: u35 :: u36 :: u37 :: u38 :: u39 :: u40 :: u41 :: u42 :: u43 :: u44 :: u45 :: u46 :: u47 :: u48 :: u49 :: u50 :: u51 :: u52 :: u53 :: u54 :: u55 :: u56 :: u57 :: u58 :: u59 :: u60 :: u61 :: u62 :: u63 :: u64 :: u65 :: u66 :: u67 :: u68 :: u69 :: u70 :: u71 :: u72 :: u73 :: u74 :: u75 :: u76 :: u77 :: u78 :: u79 :: u80 :: u81 :: u82 :: u83 :: u84 :: u85 :: u86 :: u87 :: u88 :: u89 :: u90 :: u91 :: u92 :: u93 :: u94 :: u95 :: u96 :: u97 :: u98 :: u99 :: u100 :: u101 :: u102 :: u103 :: u104 :: u105 :: u106 :: u107 :: u108 :: u109 :: u110 :: u111 :: u112 :: u113 :: u114 :: u115 :: u116 :: u117 :: u118 :: u119 :: u120 :: u121 :: u122 :: u123 :: u124 :: u125 :: u126 :: u127 :: u128 :: u129 :: u130 :: u131 :: u132 :: u133 :: u134 :: u135 :: u136 :: u137 :: u138 :: u139 :: u140 :: u141 :: u142 :: u143 :: y144 :: y145 :: y146 :: y147 :: y148 :: y149 :: y150 :: y151 :: u152 :: u153 :: u154 :: u155 :: [])), []⟩ ∧ e = .normal ∧ (∃ A' c', Ro (cs.setIfInBounds 7 (.slice A' (k + 1) c')) ob rb w0 w' ∧ OwnS w' w0.heap.size 22 1 (.slice A' (k + 1) c') (xss ++ [[Value.int .u32 (x0 : Nat)]]))) ⟨(List.toArray (u0 :: u1 :: u2 :: u3 :: .slice (some ⟨q, o, none⟩) L c0 :: .pointer (some ⟨ob, 0, none⟩) :: u6 :: u7 :: u8 :: u9 :: u10 :: .int .i64 (i : Nat) :: u12 :: u13 :: u14 :: u15 :: u16 :: u17 :: u18 :: u19 :: u20 :: u21 :: u22 :: u23 :: u24 :: u25 :: u26 :: u27 :: u28 :: u29 :: u30 :: u31 :: u32 :: u33 :: u34 :: u35 :: u36 :: u37 :: u38 :: u39 :: u40 :: u41 :: u42 :: u43 :: u44 :: u45 :: u46 :: u47 :: u48 :: u49 :: u50 :: u51 :: u52 :: u53 :: u54 :: u55 :: u56 :: u57 :: u58 :: u59 :: u60 :: u61 :: u62 :: u63 :: u64 :: u65 :: u66 :: u67 :: u68 :: u69 :: u70 :: u71 :: u72 :: u73 :: u74 :: u75 :: u76 :: u77 :: u78 :: u79 :: u80 :: u81 :: u82 :: u83 :: u84 :: u85 :: u86 :: u87 :: u88 :: u89 :: u90 :: u91 :: u92 :: u93 :: u94 :: u95 :: u96 :: u97 :: u98 :: u99 :: u100 :: u101 :: u102 :: u103 :: u104 :: u105 :: u106 :: u107 :: u108 :: u109 :: u110 :: u111 :: u112 :: u113 :: u114 :: u115 :: u116 :: u117 :: u118 :: u119 :: u120 :: u121 :: u122 :: u123 :: u124 :: u125 :: u126 :: u127 :: u128 :: u129 :: u130 :: u131 :: u132 :: u133 :: u134 :: u135 :: u136 :: u137 :: u138 :: u139 :: u140 :: u141 :: u142 :: u143 :: u144 :: u145 :: u146 :: u147 :: u148 :: u149 :: u150 :: u151 :: u152 :: u153 :: u154 :: u155 :: [])), []⟩ w := by
  conv => arg 2; whnf
  have HF4 := Lib.hid hf4
  have HCF := Lib.hid hcf
  clear hf4 hcf
  refine wp_region_posts rp33_A [5, 6, 8] [5, 6, 8, 9] rp33_kill rp33_uses [8] [8] [] [9]
      (some ?v0 :: some ?v1 :: some ?v2 :: some ?v3 :: some (.int .u32 (x0 : Nat)) :: none :: none :: some ?v7 :: none :: [])
      ?T (fun wx => Ro cs ob rb w0 wx) ?W ?E (by kernel_rfl) (by kernel_rfl) (by kernel_rfl) (fun x => ?hT) ?hF ?hini (Reg.all_ops ?runs) ?pres ?fin
  case W => exact fun j x w' => match j with | 5 => ∃ g, x 5 = .slice (some ⟨g, 0, none⟩) 1 1 ∧ Is w' g 22 [Value.int .u32 (x0 : Nat)].toArray | 6 => ∃ A' c', x 6 = .slice A' (k + 1) c' ∧ OwnS w' w0.heap.size 22 1 (.slice A' (k + 1) c') (xss ++ [[Value.int .u32 (x0 : Nat)]]) | 8 => ∃ A' c', Ro (cs.setIfInBounds 7 (.slice A' (k + 1) c')) ob rb w0 w' ∧ OwnS w' w0.heap.size 22 1 (.slice A' (k + 1) c') (xss ++ [[Value.int .u32 (x0 : Nat)]]) | 9 => OwnS w' w0.heap.size 22 1 (.slice Ao k c) xss | _ => True
  case E => exact fun i w' w'' => match i with | 5 => Only (fun _ => False) w' w'' | _ => True
  case hT =>
    simp only [Reg.fillV, Act.put, List.setIfInBounds_toArray, List.set_cons_zero, List.set_cons_succ]
    rfl
  case runs =>
    refine And.intro ?_ ?_
    · refine Reg.ob_pure (fun _ => rfl) rfl rfl rfl rfl (fun x w1 hF => ?_)
      have cf : w1.cell? ⟨ob, 7, none⟩ = some (.slice Ao k c) := (hF.io.cell 7).trans HCF.out
      go_simp
      with_reducible rfl
    refine And.intro ?_ ?_
    · refine Reg.ob_pure (fun _ => rfl) rfl rfl rfl rfl (fun x w1 hF => ?_)
      have cf : w1.cell? ⟨ob, 7, none⟩ = some (.slice Ao k c) := (hF.io.cell 7).trans HCF.out
      go_simp
      with_reducible rfl
    refine And.intro ?_ ?_
    · refine Reg.ob_pure (fun _ => rfl) rfl rfl rfl rfl (fun x w1 hF => ?_)
      have cf : w1.cell? ⟨ob, 7, none⟩ = some (.slice Ao k c) := (hF.io.cell 7).trans HCF.out
      go_simp
      with_reducible rfl
    refine And.intro ?_ ?_
    · refine Reg.ob_pure (fun _ => rfl) rfl rfl rfl rfl (fun x w1 hF => ?_)
      have cf : w1.cell? ⟨ob, 7, none⟩ = some (.slice Ao k c) := (hF.io.cell 7).trans HCF.out
      go_simp
      with_reducible rfl
    refine And.intro ?_ ?_
    · refine Reg.ob_known (fun _ => rfl) rfl rfl (fun x w1 hF hU K hK => ?_)
      replace hF := hF rfl
      go_simp
      refine (HF4.out w1 hF.pure).mono ?_
      rintro e w5 ⟨rfl, rfl⟩
      exact hK _ (fun _ _ _ => hF) rfl
    refine And.intro ?_ ?_
    · refine Reg.ob_some (fun _ => rfl) rfl (fun x w1 hF hU K hK => ?_)
      replace hF := hF rfl
      go_simp
      exact hK _ _ (fun _ _ _ => hF.go ((Only.refl _ _).alloc _)) ((Only.refl _ _).alloc _) ⟨_, rfl, Is.made _ _ _⟩
    refine And.intro ?_ ?_
    · refine Reg.ob_some (fun _ => rfl) rfl (fun x w1 hF hU K hK => ?_)
      replace hF := hF rfl
      obtain ⟨⟨g, hx, hI⟩, hO, -⟩ := hU
      have hx : x 5 = .slice (some ⟨g, 0, none⟩) 1 1 := hx
      have hO : OwnS w1 w0.heap.size 22 1 (.slice Ao k c) xss := hO
      refine append_run w1 _ _ sty_u32 rfl w0.heap.size (.slice Ao k c) xss rfl hO g [Value.int .u32 (x0 : Nat)] (by simpa [Act.eval] using hx) hI rfl (by simp [Value.oneCell']) (by omega) (by decide) hF.pure.size ?_
      intro v' w' hown ho
      obtain ⟨A', c', rfl, -⟩ := OwnS.slice hown
      have e : (xss ++ [[Value.int .u32 (x0 : Nat)]]).length = k + 1 := by rw [List.length_append, hl]; rfl
      rw [e] at hown
      rw [e]
      exact hK _ w' (fun _ _ _ => hF.far hO.1 (by decide) ho) trivial ⟨A', c', rfl, hown⟩
    refine And.intro ?_ ?_
    · refine Reg.ob_pure (fun _ => rfl) rfl rfl rfl rfl (fun x w1 hF => ?_)
      have cf : w1.cell? ⟨ob, 7, none⟩ = some (.slice Ao k c) := (hF.io.cell 7).trans HCF.out
      go_simp
      with_reducible rfl
    refine And.intro ?_ ?_
    · refine Reg.ob_some (fun _ => rfl) rfl (fun x w1 hF hU K hK => ?_)
      replace hF := hF rfl
      obtain ⟨⟨A', c', hx, hO⟩, -⟩ := hU
      have hx : x 6 = .slice A' (k + 1) c' := hx
      have ff := hF.io.free 7
      have cf : w1.cell? ⟨ob, 7, none⟩ = some (.slice Ao k c) := (hF.io.cell 7).trans HCF.out
      revert hK
      simp only [Nat.reduceAdd, hx]
      intro hK
      go_simp
      exact hK undef _ (fun _ h _ => by cases h) trivial ⟨A', c', hF.put hrb hob 7 _, hO.stored hF.io (by decide) 7 _⟩
    exact trivial
  case hF =>
    exact hG.go ((Only.refl _ _).drewN 1)
  case hini =>
    exact ⟨fun x => OwnS.only hown ((Only.refl (fun _ => False) w).drewN 1) (by simp), trivial⟩
  case pres =>
    intro i hi j hj hc x wx wy hF hE hW
    simp only [List.mem_cons, List.mem_nil_iff, or_false] at hi hj
    rcases hi with rfl | rfl | rfl <;> rcases hj with rfl | rfl | rfl | rfl
    all_goals first
      | (exfalso; revert hc; decide)
      | (obtain ⟨g, h1, h3⟩ := hW; exact ⟨g, h1, h3.only hE (by simp)⟩)
      | (obtain ⟨A', c', h1, h2⟩ := hW; exact ⟨A', c', h1, OwnS.only h2 hE (by simp)⟩)
      | exact OwnS.only hW hE (by simp)
  case fin =>
    rintro x w9 hF hU
    obtain ⟨hQ, -⟩ := hU
    repeat apply Exists.intro
    exact ⟨rfl, rfl, hQ⟩

set_option maxRecDepth 100000 in
set_option maxHeartbeats 4000000 in
theorem rp33 (cs : Array Value) (q o c0 L i k c x0 ob rb : Nat) (Ao : Option Addr) (xss : List (List Value)) (w0 : World) (hcf : cs[7]? = some (.slice Ao k c)) (hl : xss.length = k) (hk : k ≤ 10000) (hob : w0.heap.size ≤ ob) (hrb : rb ≠ ob) (hx0 : x0 < 4294967296) (hf4 : ∀ wx, Only (fun _ => False) w0 wx → Calls Try.prog 54 #[.slice (some ⟨q, o, none⟩) L c0, .int .i64 (i : Nat)] wx fun e w' => e = .returned (.int .u32 (x0 : Nat)) ∧ wx = w')  (u0 u1 u2 u3 u6 u7 u8 u9 u10 u12 u13 u14 u15 u16 u17 u18 u19 u20 u21 u22 u23 u24 u25 u26 u27 u28 u29 u30 u31 u32 u33 u34 u35 u36 u37 u38 u39 u40 u41 u42 u43 u44 u45 u46 u47 u48 u49 u50 u51 u52 u53 u54 u55 u56 u57 u58 u59 u60 u61 u62 u63 u64 u65 u66 u67 u68 u69 u70 u71 u72 u73 u74 u75 u76 u77 u78 u79 u80 u81 u82 u83 u84 u85 u86 u87 u88 u89 u90 u91 u92 u93 u94 u95 u96 u97 u98 u99 u100 u101 u102 u103 u104 u105 u106 u107 u108 u109 u110 u111 u112 u113 u114 u115 u116 u117 u118 u119 u120 u121 u122 u123 u124 u125 u126 u127 u128 u129 u130 u131 u132 u133 u134 u135 u136 u137 u138 u139 u140 u141 u142 u143 u144 u145 u146 u147 u148 u149 u150 u151 u152 u153 u154 u155 : Value) (Q : Exit → Act → World → Prop) (w : World) (hG : Ro cs ob rb w0 w) (hown : OwnS w w0.heap.size 22 1 (.slice Ao k c) xss)
    (hend : ∀ (y144 y145 y146 y147 y148 y149 y150 y151 : Value) (w' : World), (∃ A' c', Ro (cs.setIfInBounds 7 (.slice A' (k + 1) c')) ob rb w0 w' ∧ OwnS w' w0.heap.size 22 1 (.slice A' (k + 1) c') (xss ++ [[Value.int .u32 (x0 : Nat)]])) → Q .normal ⟨(List.toArray (u0 :: u1 :: u2 :: u3 :: .slice (some ⟨q, o, none⟩) L c0 :: .pointer (some ⟨ob, 0, none⟩) :: u6 :: u7 :: u8 :: u9 :: u10 :: .int .i64 (i : Nat) :: u12 :: u13 :: u14 :: u15 :: u16 :: u17 :: u18 :: u19 :: u20 :: u21 :: u22 :: u23 :: u24 :: u25 :: u26 :: u27 :: u28 :: u29 :: u30 :: u31 :: u32 :: u33 :: u34 :: u35 :: u36 :: u37 :: u38 :: u39 :: u40 :: u41 :: u42 :: u43 :: u44 :: u45 :: u46 :: u47 :: u48 :: u49 :: u50 :: u51 :: u52 :: u53 :: u54 :: u55 :: u56 :: u57 :: u58 :: u59 :: u60 :: u61 :: u62 :: u63 :: u64 :: u65 :: u66 :: u67 :: u68 :: u69 :: u70 :: u71 :: u72 :: u73 :: u74 :: u75 :: u76 :: u77 :: u78 :: u79 :: u80 :: u81 :: u82 :: u83 :: u84 :: u85 :: u86 :: u87 :: u88 :: u89 :: u90 :: u91 :: u92 :: u93 :: u94 :: u95 :: u96 :: u97 :: u98 :: u99 :: u100 :: u101 :: u102 :: u103 :: u104 :: u105 :: u106 :: u107 :: u108 :: u109 :: u110 :: u111 :: u112 :: u113 :: u114 :: u115 :: u116 :: u117 :: u118 :: u119 :: u120 :: u121 :: u122 :: u123 :: u124 :: u125 :: u126 :: u127 :: u128 :: u129 :: u130 :: u131 :: u132 :: u133 :: u134 :: u135 :: u136 :: u137 :: u138 :: u139 :: u140 :: u141 :: u142 :: u143 :: y144 :: y145 :: y146 :: y147 :: y148 :: y149 :: y150 :: y151 :: u152 :: u153 :: u154 :: u155 :: [])), []⟩ w') :
    Code.wp Try.prog rp33_code Q ⟨(List.toArray (u0 :: u1 :: u2 :: u3 :: .slice (some ⟨q, o, none⟩) L c0 :: .pointer (some ⟨ob, 0, none⟩) :: u6 :: u7 :: u8 :: u9 :: u10 :: .int .i64 (i : Nat) :: u12 :: u13 :: u14 :: u15 :: u16 :: u17 :: u18 :: u19 :: u20 :: u21 :: u22 :: u23 :: u24 :: u25 :: u26 :: u27 :: u28 :: u29 :: u30 :: u31 :: u32 :: u33 :: u34 :: u35 :: u36 :: u37 :: u38 :: u39 :: u40 :: u41 :: u42 :: u43 :: u44 :: u45 :: u46 :: u47 :: u48 :: u49 :: u50 :: u51 :: u52 :: u53 :: u54 :: u55 :: u56 :: u57 :: u58 :: u59 :: u60 :: u61 :: u62 :: u63 :: u64 :: u65 :: u66 :: u67 :: u68 :: u69 :: u70 :: u71 :: u72 :: u73 :: u74 :: u75 :: u76 :: u77 :: u78 :: u79 :: u80 :: u81 :: u82 :: u83 :: u84 :: u85 :: u86 :: u87 :: u88 :: u89 :: u90 :: u91 :: u92 :: u93 :: u94 :: u95 :: u96 :: u97 :: u98 :: u99 :: u100 :: u101 :: u102 :: u103 :: u104 :: u105 :: u106 :: u107 :: u108 :: u109 :: u110 :: u111 :: u112 :: u113 :: u114 :: u115 :: u116 :: u117 :: u118 :: u119 :: u120 :: u121 :: u122 :: u123 :: u124 :: u125 :: u126 :: u127 :: u128 :: u129 :: u130 :: u131 :: u132 :: u133 :: u134 :: u135 :: u136 :: u137 :: u138 :: u139 :: u140 :: u141 :: u142 :: u143 :: u144 :: u145 :: u146 :: u147 :: u148 :: u149 :: u150 :: u151 :: u152 :: u153 :: u154 :: u155 :: [])), []⟩ w := by
  refine wp_mono (rp33_in cs q o c0 L i k c x0 ob rb Ao xss w0 hcf hl hk hob hrb hx0 hf4 _ _ _ _ _ _ _ _ _ _ _ _ _ _ _ _ _ _ _ _ _ _ _ _ _ _ _ _ _ _ _ _ _ _ _ _ _ _ _ _ _ _ _ _ _ _ _ _ _ _ _ _ _ _ _ _ _ _ _ _ _ _ _ _ _ _ _ _ _ _ _ _ _ _ _ _ _ _ _ _ _ _ _ _ _ _ _ _ _ _ _ _ _ _ _ _ _ _ _ _ _ _ _ _ _ _ _ _ _ _ _ _ _ _ _ _ _ _ _ _ _ _ _ _ _ _ _ _ _ _ _ _ _ _ _ _ _ _ _ _ _ _ _ _ _ _ _ _ _ _ _ _ _ w hG hown) ?_
  rintro e a w' h
  obtain ⟨y144, h⟩ := h
  obtain ⟨y145, h⟩ := h
  obtain ⟨y146, h⟩ := h
  obtain ⟨y147, h⟩ := h
  obtain ⟨y148, h⟩ := h
  obtain ⟨y149, h⟩ := h
  obtain ⟨y150, h⟩ := h
  obtain ⟨y151, h⟩ := h
  obtain ⟨h, rfl, hq⟩ := h
  subst h
  exact hend y144 y145 y146 y147 y148 y149 y150 y151 w' hq
end Go.Proofs.Ytefcimkopgcagaa
