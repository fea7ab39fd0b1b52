/- roster: the reference's Get and Source. Conditions: as each says. -/
import Derived.Test.YtglgmhdajmncjaaRyK
set_option linter.unusedVariables false
set_option linter.unusedSimpArgs false
namespace Go.Proofs.Ytglgmhdajmncjaa
open Go Go.RowKit

theorem Try.infoRm : (Try.prog.info? 65).map (fun i => (i.zero, i.size, i.bytes)) = some (some (.agg zeroMb), 4, 24) := by kernel_rfl
theorem Try.sizeRm : (Try.prog.info? 65).map (·.size) = some 4 := by kernel_rfl
theorem sty_rm : Sty 52 65 4 24 := by
  obtain ⟨i0, hi, hz0, hz1, hz2⟩ := info_parts Try.infoRm
  exact ⟨Try.underlying52, ⟨i0, _, hi, hz0, hz1, hz2, rfl⟩, by decide⟩
theorem Try.sizeRo : (Try.prog.info? 54).map (·.size) = some 2 := by kernel_rfl
/-- The reference's roster. -/
abbrev rrV (most : Int) (v : Value) : Value := .agg #[.int .i64 most, v]
theorem range_cell {w : World} {g o j : Nat} {cs : List Value} {u : Value} (h : w.rangeAt g o cs) (hj : cs[j]? = some u) : w.cell? ⟨g, o + j, none⟩ = some u := h j u hj
theorem range_only {w w1 : World} {g o : Nat} {cs : List Value} {S : Nat → Prop} (h : w.rangeAt g o cs) (hg : g < w.heap.size) (ho : Only S w w1) (hn : ¬ S g) : w1.rangeAt g o cs := fun j u hu => (ho.cell (p := ⟨g, o + j, none⟩) hg hn).trans (h j u hu)
theorem wp_store_is {P : Program} {op : Oper} {a : Act} {w : World} {K : Act → World → Prop} {Q : Exit → Act → World → Prop} (ty : TypeId) (x y : Operand) (ho : op.op = .store ty x y)
    (g : Nat) (cells : Array Value) (hx : a.eval x = .pointer (some ⟨g, 0, none⟩)) (hy : a.eval y = .agg cells)
    (t : TypeId) (old : Array Value) (hg : Is w g t old) (hi : (P.info? ty).map (·.size) = some cells.size)
    (hold : old.size = cells.size) (h1 : cells.all (·.oneCell') = true)
    (h : ∀ w', Is w' g t cells → Only (· = g) w w' → K (a.put op.dst undef) w') : op.wp P a w K Q :=
  wp_store_row ty x y ho g cells hx hy t old hg hi hold h1 (h _ (hg.setRow cells) (Only.setRow (S := fun k => k = g) (Only.refl _ w) (fun _ => rfl) cells))

set_option maxRecDepth 100000 in
set_option maxHeartbeats 4000000 in
theorem rget_is (B : Nat) (most id : Int) (L : List Mb) (v : Value) (w : World) (h : OwnS w B 65 4 v (mbRows L)) (hl : L.length ≤ 1000) : Calls Try.prog 61 #[rrV most v, .int .i64 id] w (SaysR (getV (getM L id)) w) := by
  have HV := Lib.hid h
  obtain ⟨A, c, rfl, hc⟩ := h.slice
  rw [mbRows_length] at HV h hc ⊢
  obtain ⟨N, hN⟩ : ∃ N, L.length = N := ⟨_, rfl⟩
  have HN := Lib.hid hN
  rw [hN] at hl hc h HV ⊢
  clear hN h
  go_enter Try.func61, Try.ntmps61
  go_upto_region 1 with (fail)
  have o1 := (Only.refl (fun _ => False) w).alloc (.cells #[.int .i64 most, .slice A N c] 54)
  have HB := Lib.hid (Is.made w 54 #[.int .i64 most, .slice A N c])
  have HR := Lib.hid (Is.made (w.alloc (.cells #[.int .i64 most, .slice A N c] 54)) 65 zeroMb)
  have e1 : (w.alloc (.cells #[.int .i64 most, .slice A N c] 54)).heap.size = w.heap.size + 1 := by simp
  rw [e1] at HR
  have o2 := o1.alloc (.cells zeroMb 65)
  replace HB := Lib.hid (HB.out.only ((Only.refl (fun _ => False) _).alloc (.cells zeroMb 65)) (by simp))
  have HO := Lib.hid o2
  obtain ⟨sb, hsb⟩ : ∃ sb, w.heap.size = sb := ⟨_, rfl⟩
  have HSB := Lib.hid hsb
  show Code.wp _ _ _ _ ((w.alloc (.cells #[.int .i64 most, .slice A N c] 54)).alloc (.cells zeroMb 65))
  generalize (w.alloc (.cells #[.int .i64 most, .slice A N c] 54)).alloc (.cells zeroMb 65) = w2 at *
  rw [hsb] at HR HB ⊢
  obtain ⟨rb, hrb⟩ : ∃ rb, sb + 1 = rb := ⟨_, rfl⟩
  have HRB := Lib.hid hrb
  rw [hrb] at HR ⊢
  clear o1 o2 e1 hsb hrb
  go_wp2
  go_loopw [6] (fun s6 wr => ∃ k : Nat, k ≤ N ∧ s6 = .int .i64 (k : Int) ∧ wr = w2 ∧ Hid (∀ m ∈ L.take k, (m.id == id) = false)) (fun s6 _ => N - (intOf s6).toNat)
  case atStart => exact ⟨0, by omega, rfl, rfl, Lib.hid (by simp)⟩
  case round =>
    obtain ⟨k, hk, rfl, rfl, hno⟩ := hrel
    have c1 : wr.cell? ⟨sb, 1, none⟩ = some (.slice A N c) := HB.out.cell 1
    by_cases hkl : k < N
    · have hkI : (k : Int) < (N : Int) := by omega
      have hkx : k < L.length := by rw [HN.out]; exact hkl
      have hrow := HV.out.only HO.out (by simp)
      obtain ⟨g, c', hgc, -⟩ := hrow.place (by rw [mbRows_length]; omega)
      obtain ⟨hA, -, -⟩ := Value.slice.inj hgc
      subst hA
      clear hgc
      have hx : L[k]? = some L[k] := List.getElem?_eq_getElem hkx
      have HX := Lib.hid hx
      have HRG := Lib.hid (hrow.range (g := g) rfl (mbRows_get hx))
      generalize L[k] = x at *
      obtain ⟨xi, xo, xa, xm⟩ := x
      have r0 : wr.cell? ⟨g, k * 4, none⟩ = some (.int .i64 xi) := range_cell (j := 0) HRG.out rfl
      clear hrow hx hkx
      by_cases hx : xi = id
      · have HE := Lib.hid (find_at (p := fun m => m.id == id) hno.out HX.out (by simpa using hx))
        have hb : (xi == id) = true := by simpa using hx
        clear hx
        go_wp2_with (first
          | (refine wpList_load_mid rfl 65 _ rfl g (k * 4) rfl [.int .i64 xi, .int .u32 (xo : Int), .int .u32 (xa : Int), .bool xm] _ HRG.out Try.underlying65 rfl Try.sizeRm ?_)
          | (refine wpList_store_is rfl 65 _ _ rfl rb #[.int .i64 xi, .int .u32 (xo : Int), .int .u32 (xa : Int), .bool xm] rfl rfl _ _ HR.out Try.sizeRm rfl (by simp [Value.oneCell']) ?_; intro w4 hI4 hO5; replace hI4 := Lib.hid hI4; replace hO5 := Lib.hid hO5))
        refine bodyPost_ret (results_is Try.results61 _ w4 rb 65 _ _ (.bool true) rfl rfl hI4.out Try.underlying65 rfl Try.sizeRm) rfl ?_
        refine ⟨?_, HO.out.trans hO5.out (fun i hi e => ?_)⟩
        · unfold getM
          rw [HE.out]
          rfl
        · have := HSB.out; have := HRB.out; omega
      · have HE := Lib.hid (take_more (p := fun m => m.id == id) hno.out HX.out (by simpa using hx))
        have hb : (xi == id) = false := by simpa using hx
        clear hx
        go_wp2
        exact ⟨⟨k + 1, by omega, by go_num, by trivial, HE⟩, by simp [intOf]; omega⟩
    · obtain rfl : k = N := by omega
      have HE := Lib.hid (find_no (p := fun m => m.id == id) (l := L) (by rw [HN.out]; exact hno.out))
      go_wp2_with (refine wpList_store_is rfl 65 _ _ rfl rb zeroMb rfl rfl _ _ HR.out Try.sizeRm rfl (by simp [Value.oneCell', zeroMb]) ?_; intro w4 hI4 hO5; replace hI4 := Lib.hid hI4; replace hO5 := Lib.hid hO5)
      refine bodyPost_ret (results_is Try.results61 _ w4 rb 65 _ _ (.bool false) rfl rfl hI4.out Try.underlying65 rfl Try.sizeRm) rfl ?_
      refine ⟨?_, HO.out.trans hO5.out (fun i hi e => ?_)⟩
      · unfold getM
        rw [HE.out]
        rfl
      · have := HSB.out; have := HRB.out; omega
/-- Amid Source's end: what is read; the answer alone is written. -/
structure Gs (most : Int) (A : Option Addr) (N c : Nat) (cs : List Value) (sb g k rb : Nat) (w0 wx : World) : Prop where
  io : Is wx sb 54 #[.int .i64 most, .slice A N c]
  rg : wx.rangeAt g (k * 4) cs
  lt : g < wx.heap.size
  only : Only (fun j => j = rb) w0 wx
theorem Gs.go {most : Int} {A : Option Addr} {N c : Nat} {cs : List Value} {sb g k rb : Nat} {w0 wx wy : World} {S : Nat → Prop} (h : Gs most A N c cs sb g k rb w0 wx) (ho : Only S wx wy) (h1 : sb ≠ rb) (h2 : g ≠ rb) (hS : ∀ k, S k → k = rb := by intro k hk; first | exact hk | exact hk.elim) : Gs most A N c cs sb g k rb w0 wy :=
  ⟨h.io.only ho (fun e => h1 (hS sb e)), range_only h.rg h.lt ho (fun e => h2 (hS g e)), Nat.lt_of_lt_of_le h.lt ho.size, h.only.trans ho (fun k _ e => hS k e)⟩
def rs5_A : List (List Nat) := ([] :: [0] :: [] :: [1, 2, 0] :: [3, 1, 2, 0] :: [] :: [5] :: [] :: [6, 7, 5] :: [8, 6, 7, 5] :: [9, 8, 6, 7, 5] :: [] :: [10, 11, 9, 8, 6, 7, 5] :: [4, 0, 1, 2, 3] :: (12 :: 13 :: 0 :: 1 :: 2 :: 3 :: 4 :: 5 :: 6 :: 7 :: 8 :: 9 :: 10 :: 11 :: []) :: (14 :: 0 :: 1 :: 2 :: 3 :: 4 :: 5 :: 6 :: 7 :: 8 :: 9 :: 10 :: 11 :: 12 :: 13 :: []) :: [])
def rs5_kill : List (List Nat) := ([] :: [] :: [] :: [] :: [] :: [] :: [] :: [] :: [] :: [] :: [] :: [] :: [] :: [16] :: [] :: [] :: [])
def rs5_uses : List (List Nat) := ([] :: [] :: [] :: [] :: [] :: [] :: [] :: [] :: [] :: [] :: [] :: [] :: [] :: [16] :: [] :: [] :: [])
noncomputable def rs5_code : Code := ((Try.f62.body.bind (codeRegion 5)).getD .skip)
set_option maxRecDepth 100000 in
set_option maxHeartbeats 4000000 in
theorem rs5_in (most : Int) (mm : Mb) (s N c sb g k rb : Nat) (w0 : World) (hkI : (k : Int) < (N : Int)) (hne1 : sb ≠ rb) (hne2 : g ≠ rb)  (u0 u3 u5 u6 u8 u9 u10 u11 u12 u13 u14 u15 u16 u17 u18 u19 u20 u21 u22 u23 u24 u25 u26 u27 u28 u29 u30 u31 u32 u33 u34 u35 u36 u37 u38 u39 u40 u41 u42 u43 u44 u45 u46 : Value) (w : World) (hG : Gs most (some ⟨g, 0, none⟩) N c [.int .i64 mm.id, .int .u32 (mm.co : Int), .int .u32 (mm.ca : Int), .bool mm.mo] sb g k rb w0 w) (hz : Is w rb 65 zeroMb) :
    Code.wp Try.prog rs5_code (fun e a w' => ∃ y33 y34 y35 y36 y37 y38 y39 y40 y41 y42 y43 y44 y45 : Value, a = ⟨(List.toArray (u0 :: .int .u32 (s : Int) :: .pointer (some ⟨sb, 0, none⟩) :: u3 :: .pointer (some ⟨rb, 0, none⟩) :: .bool ((mm.co : Int) == (s : Int)) :: .bool true :: .int .i64 (k : Int) :: u8 :: u9 :: u10 :: u11 :: u12 :: u13 :: u14 :: u15 :: u16 :: u17 :: u18 :: u19 :: u20 :: u21 :: u22 :: u23 :: u24 :: u25 :: u26 :: u27 :: u28 :: u29 :: u30 :: u31 :: u32 :: y33 :: y34 :: y35 :: y36 :: y37 :: y38 :: y39 :: y40 :: y41 :: y42 :: y43 :: y44 :: y45 :: u46 :: [])), []⟩ ∧ e = .normal ∧ (Is w' rb 65 #[.int .i64 mm.id, .int .u32 (mm.co : Int), .int .u32 (mm.ca : Int), .bool mm.mo] ∧ Only (fun j => j = rb) w0 w')) ⟨(List.toArray (u0 :: .int .u32 (s : Int) :: .pointer (some ⟨sb, 0, none⟩) :: u3 :: .pointer (some ⟨rb, 0, none⟩) :: u5 :: u6 :: .int .i64 (k : Int) :: u8 :: u9 :: u10 :: u11 :: u12 :: u13 :: u14 :: u15 :: u16 :: u17 :: u18 :: u19 :: u20 :: u21 :: u22 :: u23 :: u24 :: u25 :: u26 :: u27 :: u28 :: u29 :: u30 :: u31 :: u32 :: u33 :: u34 :: u35 :: u36 :: u37 :: u38 :: u39 :: u40 :: u41 :: u42 :: u43 :: u44 :: u45 :: u46 :: [])), []⟩ w := by
  conv => arg 2; whnf
  refine wp_region_posts rs5_A [13] [13, 16] rs5_kill rs5_uses [13] [] [] [16]
      (some ?v0 :: some ?v1 :: some ?v2 :: some ?v3 :: some (.agg #[.int .i64 mm.id, .int .u32 (mm.co : Int), .int .u32 (mm.ca : Int), .bool mm.mo]) :: some ?v5 :: some ?v6 :: some ?v7 :: some ?v8 :: some ?v9 :: some ?v10 :: some ?v11 :: some ?v12 :: none :: some ?v14 :: some ?v15 :: [])
      ?T (fun wx => Gs most (some ⟨g, 0, none⟩) N c [.int .i64 mm.id, .int .u32 (mm.co : Int), .int .u32 (mm.ca : Int), .bool mm.mo] sb g k rb w0 wx) ?W ?E (by kernel_rfl) (by kernel_rfl) (by kernel_rfl) (fun x => ?hT) ?hF ?hini (Reg.all_ops ?runs) ?pres ?fin
  case W => exact fun j y w' => match j with | 13 => Is w' rb 65 #[.int .i64 mm.id, .int .u32 (mm.co : Int), .int .u32 (mm.ca : Int), .bool mm.mo] | 16 => Is w' rb 65 zeroMb | _ => True
  case E => exact fun i w' w'' => True
  case hT =>
    simp only [Reg.fillV, Act.put, List.setIfInBounds_toArray, List.set_cons_zero, List.set_cons_succ]
    rfl
  case runs =>
    refine And.intro ?_ ?_
    · refine Reg.ob_pure (fun _ => rfl) rfl rfl rfl rfl (fun x w1 hF => ?_)
      have c1 : w1.cell? ⟨sb, 1, none⟩ = some (.slice (some ⟨g, 0, none⟩) N c) := hF.io.cell 1
      have r1 : w1.cell? ⟨g, k * 4 + 1, none⟩ = some (.int .u32 (mm.co : Int)) := range_cell (j := 1) hF.rg rfl
      have hkI := hkI
      go_simp
      with_reducible rfl
    refine And.intro ?_ ?_
    · refine Reg.ob_pure (fun _ => rfl) rfl rfl rfl rfl (fun x w1 hF => ?_)
      have c1 : w1.cell? ⟨sb, 1, none⟩ = some (.slice (some ⟨g, 0, none⟩) N c) := hF.io.cell 1
      have r1 : w1.cell? ⟨g, k * 4 + 1, none⟩ = some (.int .u32 (mm.co : Int)) := range_cell (j := 1) hF.rg rfl
      have hkI := hkI
      go_simp
      with_reducible rfl
    refine And.intro ?_ ?_
    · refine Reg.ob_pure (fun _ => rfl) rfl rfl rfl rfl (fun x w1 hF => ?_)
      have c1 : w1.cell? ⟨sb, 1, none⟩ = some (.slice (some ⟨g, 0, none⟩) N c) := hF.io.cell 1
      have r1 : w1.cell? ⟨g, k * 4 + 1, none⟩ = some (.int .u32 (mm.co : Int)) := range_cell (j := 1) hF.rg rfl
      have hkI := hkI
      go_simp
      with_reducible rfl
    refine And.intro ?_ ?_
    · refine Reg.ob_pure (fun _ => rfl) rfl rfl rfl rfl (fun x w1 hF => ?_)
      have c1 : w1.cell? ⟨sb, 1, none⟩ = some (.slice (some ⟨g, 0, none⟩) N c) := hF.io.cell 1
      have r1 : w1.cell? ⟨g, k * 4 + 1, none⟩ = some (.int .u32 (mm.co : Int)) := range_cell (j := 1) hF.rg rfl
      have hkI := hkI
      go_simp
      with_reducible rfl
    refine And.intro ?_ ?_
    · refine Reg.ob_known (fun _ => rfl) rfl rfl (fun x w1 hF hU K hK => ?_)
      refine wp_load_mid 65 _ rfl g (k * 4) rfl _ _ (hF rfl).rg Try.underlying65 rfl Try.sizeRm ?_
      exact hK w1 (fun h _ _ => absurd h (by decide)) rfl
    refine And.intro ?_ ?_
    · refine Reg.ob_pure (fun _ => rfl) rfl rfl rfl rfl (fun x w1 hF => ?_)
      have c1 : w1.cell? ⟨sb, 1, none⟩ = some (.slice (some ⟨g, 0, none⟩) N c) := hF.io.cell 1
      have r1 : w1.cell? ⟨g, k * 4 + 1, none⟩ = some (.int .u32 (mm.co : Int)) := range_cell (j := 1) hF.rg rfl
      have hkI := hkI
      go_simp
      with_reducible rfl
    refine And.intro ?_ ?_
    · refine Reg.ob_pure (fun _ => rfl) rfl rfl rfl rfl (fun x w1 hF => ?_)
      have c1 : w1.cell? ⟨sb, 1, none⟩ = some (.slice (some ⟨g, 0, none⟩) N c) := hF.io.cell 1
      have r1 : w1.cell? ⟨g, k * 4 + 1, none⟩ = some (.int .u32 (mm.co : Int)) := range_cell (j := 1) hF.rg rfl
      have hkI := hkI
      go_simp
      with_reducible rfl
    refine And.intro ?_ ?_
    · refine Reg.ob_pure (fun _ => rfl) rfl rfl rfl rfl (fun x w1 hF => ?_)
      have c1 : w1.cell? ⟨sb, 1, none⟩ = some (.slice (some ⟨g, 0, none⟩) N c) := hF.io.cell 1
      have r1 : w1.cell? ⟨g, k * 4 + 1, none⟩ = some (.int .u32 (mm.co : Int)) := range_cell (j := 1) hF.rg rfl
      have hkI := hkI
      go_simp
      with_reducible rfl
    refine And.intro ?_ ?_
    · refine Reg.ob_pure (fun _ => rfl) rfl rfl rfl rfl (fun x w1 hF => ?_)
      have c1 : w1.cell? ⟨sb, 1, none⟩ = some (.slice (some ⟨g, 0, none⟩) N c) := hF.io.cell 1
      have r1 : w1.cell? ⟨g, k * 4 + 1, none⟩ = some (.int .u32 (mm.co : Int)) := range_cell (j := 1) hF.rg rfl
      have hkI := hkI
      go_simp
      with_reducible rfl
    refine And.intro ?_ ?_
    · refine Reg.ob_pure (fun _ => rfl) rfl rfl rfl rfl (fun x w1 hF => ?_)
      have c1 : w1.cell? ⟨sb, 1, none⟩ = some (.slice (some ⟨g, 0, none⟩) N c) := hF.io.cell 1
      have r1 : w1.cell? ⟨g, k * 4 + 1, none⟩ = some (.int .u32 (mm.co : Int)) := range_cell (j := 1) hF.rg rfl
      have hkI := hkI
      go_simp
      with_reducible rfl
    refine And.intro ?_ ?_
    · refine Reg.ob_pure (fun _ => rfl) rfl rfl rfl rfl (fun x w1 hF => ?_)
      have c1 : w1.cell? ⟨sb, 1, none⟩ = some (.slice (some ⟨g, 0, none⟩) N c) := hF.io.cell 1
      have r1 : w1.cell? ⟨g, k * 4 + 1, none⟩ = some (.int .u32 (mm.co : Int)) := range_cell (j := 1) hF.rg rfl
      have hkI := hkI
      go_simp
      with_reducible rfl
    refine And.intro ?_ ?_
    · refine Reg.ob_pure (fun _ => rfl) rfl rfl rfl rfl (fun x w1 hF => ?_)
      have c1 : w1.cell? ⟨sb, 1, none⟩ = some (.slice (some ⟨g, 0, none⟩) N c) := hF.io.cell 1
      have r1 : w1.cell? ⟨g, k * 4 + 1, none⟩ = some (.int .u32 (mm.co : Int)) := range_cell (j := 1) hF.rg rfl
      have hkI := hkI
      go_simp
      with_reducible rfl
    refine And.intro ?_ ?_
    · refine Reg.ob_pure (fun _ => rfl) rfl rfl rfl rfl (fun x w1 hF => ?_)
      have c1 : w1.cell? ⟨sb, 1, none⟩ = some (.slice (some ⟨g, 0, none⟩) N c) := hF.io.cell 1
      have r1 : w1.cell? ⟨g, k * 4 + 1, none⟩ = some (.int .u32 (mm.co : Int)) := range_cell (j := 1) hF.rg rfl
      have hkI := hkI
      go_simp
      with_reducible rfl
    refine And.intro ?_ ?_
    · refine Reg.ob_some (fun _ => rfl) rfl (fun x w1 hF hU K hK => ?_)
      replace hF := hF rfl
      obtain ⟨hA, -⟩ := hU
      have hA : Is w1 rb 65 zeroMb := hA
      refine wp_store_is 65 _ _ rfl rb #[.int .i64 mm.id, .int .u32 (mm.co : Int), .int .u32 (mm.ca : Int), .bool mm.mo] rfl rfl _ _ hA Try.sizeRm rfl (by simp [Value.oneCell']) ?_
      intro w' hI ho
      exact hK _ w' (fun _ _ _ => hF.go ho hne1 hne2) trivial hI
    refine And.intro ?_ ?_
    · refine Reg.ob_pure (fun _ => rfl) rfl rfl rfl rfl (fun x w1 hF => ?_)
      have c1 : w1.cell? ⟨sb, 1, none⟩ = some (.slice (some ⟨g, 0, none⟩) N c) := hF.io.cell 1
      have r1 : w1.cell? ⟨g, k * 4 + 1, none⟩ = some (.int .u32 (mm.co : Int)) := range_cell (j := 1) hF.rg rfl
      have hkI := hkI
      go_simp
      with_reducible rfl
    refine And.intro ?_ ?_
    · refine Reg.ob_pure (fun _ => rfl) rfl rfl rfl rfl (fun x w1 hF => ?_)
      have c1 : w1.cell? ⟨sb, 1, none⟩ = some (.slice (some ⟨g, 0, none⟩) N c) := hF.io.cell 1
      have r1 : w1.cell? ⟨g, k * 4 + 1, none⟩ = some (.int .u32 (mm.co : Int)) := range_cell (j := 1) hF.rg rfl
      have hkI := hkI
      go_simp
      with_reducible rfl
    exact trivial
  case hF =>
    exact hG.go ((Only.refl _ _).drewN 1) hne1 hne2
  case hini =>
    exact ⟨fun x => hz.only ((Only.refl (fun _ => False) w).drewN 1) (by simp), trivial⟩
  case pres =>
    intro i hi j hj hc x wx wy hF hE hW
    simp only [List.mem_cons, List.mem_nil_iff, or_false] at hi hj
    rcases hi with rfl <;> rcases hj with rfl | rfl
    all_goals (exfalso; revert hc; decide)
  case fin =>
    rintro x w9 hF hU
    obtain ⟨hQ, -⟩ := hU
    repeat apply Exists.intro
    exact ⟨rfl, rfl, hQ, (hF rfl).only⟩

set_option maxRecDepth 100000 in
set_option maxHeartbeats 4000000 in
theorem rs5 (most : Int) (mm : Mb) (s N c sb g k rb : Nat) (w0 : World) (hkI : (k : Int) < (N : Int)) (hne1 : sb ≠ rb) (hne2 : g ≠ rb)  (u0 u3 u5 u6 u8 u9 u10 u11 u12 u13 u14 u15 u16 u17 u18 u19 u20 u21 u22 u23 u24 u25 u26 u27 u28 u29 u30 u31 u32 u33 u34 u35 u36 u37 u38 u39 u40 u41 u42 u43 u44 u45 u46 : Value) (Q : Exit → Act → World → Prop) (w : World) (hG : Gs most (some ⟨g, 0, none⟩) N c [.int .i64 mm.id, .int .u32 (mm.co : Int), .int .u32 (mm.ca : Int), .bool mm.mo] sb g k rb w0 w) (hz : Is w rb 65 zeroMb)
    (hend : ∀ (y33 y34 y35 y36 y37 y38 y39 y40 y41 y42 y43 y44 y45 : Value) (w' : World), (Is w' rb 65 #[.int .i64 mm.id, .int .u32 (mm.co : Int), .int .u32 (mm.ca : Int), .bool mm.mo] ∧ Only (fun j => j = rb) w0 w') → Q .normal ⟨(List.toArray (u0 :: .int .u32 (s : Int) :: .pointer (some ⟨sb, 0, none⟩) :: u3 :: .pointer (some ⟨rb, 0, none⟩) :: .bool ((mm.co : Int) == (s : Int)) :: .bool true :: .int .i64 (k : Int) :: u8 :: u9 :: u10 :: u11 :: u12 :: u13 :: u14 :: u15 :: u16 :: u17 :: u18 :: u19 :: u20 :: u21 :: u22 :: u23 :: u24 :: u25 :: u26 :: u27 :: u28 :: u29 :: u30 :: u31 :: u32 :: y33 :: y34 :: y35 :: y36 :: y37 :: y38 :: y39 :: y40 :: y41 :: y42 :: y43 :: y44 :: y45 :: u46 :: [])), []⟩ w') :
    Code.wp Try.prog rs5_code Q ⟨(List.toArray (u0 :: .int .u32 (s : Int) :: .pointer (some ⟨sb, 0, none⟩) :: u3 :: .pointer (some ⟨rb, 0, none⟩) :: u5 :: u6 :: .int .i64 (k : Int) :: u8 :: u9 :: u10 :: u11 :: u12 :: u13 :: u14 :: u15 :: u16 :: u17 :: u18 :: u19 :: u20 :: u21 :: u22 :: u23 :: u24 :: u25 :: u26 :: u27 :: u28 :: u29 :: u30 :: u31 :: u32 :: u33 :: u34 :: u35 :: u36 :: u37 :: u38 :: u39 :: u40 :: u41 :: u42 :: u43 :: u44 :: u45 :: u46 :: [])), []⟩ w := by
  refine wp_mono (rs5_in most mm s N c sb g k rb w0 hkI hne1 hne2 _ _ _ _ _ _ _ _ _ _ _ _ _ _ _ _ _ _ _ _ _ _ _ _ _ _ _ _ _ _ _ _ _ _ _ _ _ _ _ _ _ _ _ w hG hz) ?_
  rintro e a w' h
  obtain ⟨y33, h⟩ := h
  obtain ⟨y34, h⟩ := h
  obtain ⟨y35, h⟩ := h
  obtain ⟨y36, h⟩ := h
  obtain ⟨y37, h⟩ := h
  obtain ⟨y38, h⟩ := h
  obtain ⟨y39, h⟩ := h
  obtain ⟨y40, h⟩ := h
  obtain ⟨y41, h⟩ := h
  obtain ⟨y42, h⟩ := h
  obtain ⟨y43, h⟩ := h
  obtain ⟨y44, h⟩ := h
  obtain ⟨y45, h⟩ := h
  obtain ⟨h, rfl, hq⟩ := h
  subst h
  exact hend y33 y34 y35 y36 y37 y38 y39 y40 y41 y42 y43 y44 y45 w' hq
set_option maxRecDepth 100000 in
set_option maxHeartbeats 4000000 in
theorem rsource_is (B : Nat) (most : Int) (s : Nat) (L : List Mb) (v : Value) (w : World) (h : OwnS w B 65 4 v (mbRows L)) (hl : L.length ≤ 1000) : Calls Try.prog 62 #[rrV most v, .int .u32 (s : Int)] w (SaysR (srcV (ownM L s) s) w) := by
  have HV := Lib.hid h
  obtain ⟨A, c, rfl, hc⟩ := h.slice
  rw [mbRows_length] at HV h hc ⊢
  obtain ⟨N, hN⟩ : ∃ N, L.length = N := ⟨_, rfl⟩
  have HN := Lib.hid hN
  rw [hN] at hl hc h HV ⊢
  clear hN h
  go_enter Try.func62, Try.ntmps62
  go_upto_region 1 with (fail)
  have o1 := (Only.refl (fun _ => False) w).alloc (.cells #[.int .i64 most, .slice A N c] 54)
  have HB := Lib.hid (Is.made w 54 #[.int .i64 most, .slice A N c])
  have HR := Lib.hid (Is.made (w.alloc (.cells #[.int .i64 most, .slice A N c] 54)) 65 zeroMb)
  have e1 : (w.alloc (.cells #[.int .i64 most, .slice A N c] 54)).heap.size = w.heap.size + 1 := by simp
  rw [e1] at HR
  have o2 := o1.alloc (.cells zeroMb 65)
  replace HB := Lib.hid (HB.out.only ((Only.refl (fun _ => False) _).alloc (.cells zeroMb 65)) (by simp))
  have HO := Lib.hid o2
  obtain ⟨sb, hsb⟩ : ∃ sb, w.heap.size = sb := ⟨_, rfl⟩
  have HSB := Lib.hid hsb
  show Code.wp _ _ _ _ ((w.alloc (.cells #[.int .i64 most, .slice A N c] 54)).alloc (.cells zeroMb 65))
  generalize (w.alloc (.cells #[.int .i64 most, .slice A N c] 54)).alloc (.cells zeroMb 65) = w2 at *
  rw [hsb] at HR HB ⊢
  obtain ⟨rb, hrb⟩ : ∃ rb, sb + 1 = rb := ⟨_, rfl⟩
  have HRB := Lib.hid hrb
  rw [hrb] at HR ⊢
  clear o1 o2 e1 hsb hrb
  go_wp2
  go_loopw [7] (fun s7 wr => ∃ k : Nat, k ≤ N ∧ s7 = .int .i64 (k : Int) ∧ wr = w2 ∧ Hid (∀ m ∈ L.take k, (m.co == s || m.ca == s) = false)) (fun s7 _ => N - (intOf s7).toNat)
  case atStart => exact ⟨0, by omega, rfl, rfl, Lib.hid (by simp)⟩
  case round =>
    obtain ⟨k, hk, rfl, rfl, hno⟩ := hrel
    have c1 : wr.cell? ⟨sb, 1, none⟩ = some (.slice A N c) := HB.out.cell 1
    by_cases hkl : k < N
    · have hkI : (k : Int) < (N : Int) := by omega
      have hkx : k < L.length := by rw [HN.out]; exact hkl
      have hrow := HV.out.only HO.out (by simp)
      obtain ⟨g, c', hgc, -⟩ := hrow.place (by rw [mbRows_length]; omega)
      obtain ⟨hA, -, -⟩ := Value.slice.inj hgc
      subst hA
      clear hgc
      have hx : L[k]? = some L[k] := List.getElem?_eq_getElem hkx
      have HX := Lib.hid hx
      have HRG := Lib.hid (hrow.range (g := g) rfl (mbRows_get hx))
      have hgl : g < w.heap.size := (HV.out.lt g rfl).2
      generalize L[k] = x at *
      have r1 : wr.cell? ⟨g, k * 4 + 1, none⟩ = some (.int .u32 (x.co : Int)) := range_cell (j := 1) HRG.out rfl
      have r2 : wr.cell? ⟨g, k * 4 + 2, none⟩ = some (.int .u32 (x.ca : Int)) := range_cell (j := 2) HRG.out rfl
      have hgw : g < wr.heap.size := Nat.lt_of_lt_of_le hgl HO.out.size
      have hg1 : g ≠ rb := by have := HSB.out; have := HRB.out; omega
      clear hrow hx hkx hgl
      by_cases hx : x.co = s ∨ x.ca = s
      · have HE := Lib.hid (find_at (p := fun m => m.co == s || m.ca == s) hno.out HX.out (by simpa using hx))
        have HG := Lib.hid (show Gs most (some ⟨g, 0, none⟩) N c [.int .i64 x.id, .int .u32 (x.co : Int), .int .u32 (x.ca : Int), .bool x.mo] sb g k rb wr wr from ⟨HB.out, HRG.out, hgw, Only.refl _ _⟩)
        by_cases hco : x.co = s
        · have hb : ((x.co : Int) == (s : Int)) = true := by rw [beq_nat'']; simpa using hco
          clear hx hco
          go_upto_region 5 with (fail)
          clear hb
          refine rs5 most x s N c sb g k rb wr hkI (by have := HRB.out; omega) hg1 _ _ _ _ _ _ _ _ _ _ _ _ _ _ _ _ _ _ _ _ _ _ _ _ _ _ _ _ _ _ _ _ _ _ _ _ _ _ _ _ _ _ _ _ wr HG.out HR.out ?_
          rintro y33 y34 y35 y36 y37 y38 y39 y40 y41 y42 y43 y44 y45 w4 ⟨hI4, hO5⟩
          have HI4 := Lib.hid hI4
          have HO5 := Lib.hid hO5
          have hq := Lib.hid (beq_nat' x.co s)
          clear hI4 hO5
          go_wp2
          refine bodyPost_ret (results_is3 Try.results62 _ w4 rb 65 _ _ (.bool ((x.co : Int) == (s : Int))) (.bool true) rfl rfl rfl HI4.out Try.underlying65 rfl Try.sizeRm) rfl ?_
          refine ⟨?_, HO.out.trans HO5.out (fun i hi e => ?_)⟩
          · unfold ownM
            rw [HE.out, hq.out]
            rfl
          · have := HSB.out; have := HRB.out; omega
        · have hb : ((x.co : Int) == (s : Int)) = false := by rw [beq_nat'']; simpa using hco
          have hb2 : ((x.ca : Int) == (s : Int)) = true := by
            rcases hx with h | h
            · exact absurd h hco
            · rw [beq_nat'']; simpa using h
          clear hx hco
          go_upto_region 5 with (fail)
          clear hb hb2
          refine rs5 most x s N c sb g k rb wr hkI (by have := HRB.out; omega) hg1 _ _ _ _ _ _ _ _ _ _ _ _ _ _ _ _ _ _ _ _ _ _ _ _ _ _ _ _ _ _ _ _ _ _ _ _ _ _ _ _ _ _ _ _ wr HG.out HR.out ?_
          rintro y33 y34 y35 y36 y37 y38 y39 y40 y41 y42 y43 y44 y45 w4 ⟨hI4, hO5⟩
          have HI4 := Lib.hid hI4
          have HO5 := Lib.hid hO5
          have hq := Lib.hid (beq_nat' x.co s)
          clear hI4 hO5
          go_wp2
          refine bodyPost_ret (results_is3 Try.results62 _ w4 rb 65 _ _ (.bool ((x.co : Int) == (s : Int))) (.bool true) rfl rfl rfl HI4.out Try.underlying65 rfl Try.sizeRm) rfl ?_
          refine ⟨?_, HO.out.trans HO5.out (fun i hi e => ?_)⟩
          · unfold ownM
            rw [HE.out, hq.out]
            rfl
          · have := HSB.out; have := HRB.out; omega
      · have HE := Lib.hid (take_more (p := fun m => m.co == s || m.ca == s) hno.out HX.out (by simp; omega))
        have hb : ((x.co : Int) == (s : Int)) = false := by rw [beq_nat'']; simp; omega
        have hb2 : ((x.ca : Int) == (s : Int)) = false := by rw [beq_nat'']; simp; omega
        clear hx
        go_wp2
        exact ⟨⟨k + 1, by omega, by go_num, by trivial, HE⟩, by simp [intOf]; omega⟩
    · obtain rfl : k = N := by omega
      have HE := Lib.hid (find_no (p := fun m => m.co == s || m.ca == s) (l := L) (by rw [HN.out]; exact hno.out))
      go_wp2_with (refine wpList_store_is rfl 65 _ _ rfl rb zeroMb rfl rfl _ _ HR.out Try.sizeRm rfl (by simp [Value.oneCell', zeroMb]) ?_; intro w4 hI4 hO5; replace hI4 := Lib.hid hI4; replace hO5 := Lib.hid hO5)
      refine bodyPost_ret (results_is3 Try.results62 _ w4 rb 65 _ _ (.bool false) (.bool false) rfl rfl rfl hI4.out Try.underlying65 rfl Try.sizeRm) rfl ?_
      refine ⟨?_, HO.out.trans hO5.out (fun i hi e => ?_)⟩
      · unfold ownM
        rw [HE.out]
        rfl
      · have := HSB.out; have := HRB.out; omega
end Go.Proofs.Ytglgmhdajmncjaa
