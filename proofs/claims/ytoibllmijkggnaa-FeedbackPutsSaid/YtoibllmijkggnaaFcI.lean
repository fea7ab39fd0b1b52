/- feedback.Put's head: sender, media source, and the sort's name. Conditions: as each says. -/
import Derived.Test.YtoibllmijkggnaaFcH
import Derived.Laws.IdiomStrings
set_option linter.unusedVariables false
namespace Go.Proofs.Ytoibllmijkggnaa
open Go.RowKit

/-- Bytes that a conversion laid (a mark stands behind them) stay. -/
def FarB (w w1 : World) : Prop := ∀ (ob : Nat) (cs : Array Value) (fr : Nat × Nat), fr ≠ (0, 0) → w.heap[ob]? = some (.cells cs 5 fr) → w1.heap[ob]? = some (.cells cs 5 fr)
theorem FarB.of {w w1 : World} (h : Only (fun _ => False) w w1) : FarB w w1 := fun ob cs fr _ hi => (h.same ob (lt_of_heap hi) (by simp)).trans hi
theorem FarB.mine {w w1 : World} {b B : Nat} {d bs : List Nat} {v : Value} (hw : Wr w b d bs v B) (ho : Only (Mine b v) w w1) : FarB w w1 := fun ob cs fr hne hi => by
  refine (ho.same ob (lt_of_heap hi) (fun e => ?_)).trans hi
  rcases e with rfl | e
  · have h := hw.is
    unfold Is at h
    rw [hi] at h
    simp only [Option.some.injEq, Obj.cells.injEq] at h
    exact hne h.2.2
  · rcases hw.row.2 with ⟨rfl, _⟩ | ⟨g, cap, cur, rfl, _, q2, _⟩
    · simp [Value.ownBlock] at e
    · have : g = ob := by simpa [Value.ownBlock] using e
      subst this
      rw [hi] at q2
      simp only [Option.some.injEq, Obj.cells.injEq] at q2
      exact hne q2.2.2
def FarX (w w1 : World) : Prop := FarB w w1 ∧ FarW w w1
theorem FarX.of {w w1 : World} (h : Only (fun _ => False) w w1) : FarX w w1 := ⟨FarB.of h, FarW.of h⟩
theorem Pw.mine {b B : Nat} {d d' bs bs' : List Nat} {v v' : Value} {w0 wB w w' : World} (h : Pw b B d w0 wB w) (hw : Wr w b d bs v B) (hw' : Wr w' b d' bs' v' B) (ho : Only (Mine b v) w w') : Pw b B d' w0 wB w' ∧ FarX w w' := by
  have hf : FarW w w' := fun ob t cs h1 h2 hi => fw_is hi hw h1 h2 ho
  refine ⟨⟨⟨bs', v', hw'⟩, h.far.trans hf, h.old.trans ho (fun i hi e => ?_), Nat.le_trans h.size ho.size⟩, FarB.mine hw ho, hf⟩
  rcases e with rfl | e
  · exact hw.base
  · exact (hw.row.lt i e).1
theorem pw_put2 {b B x : Nat} {d : List Nat} {w0 wB w : World} (dg : Int) (h : Pw b B d w0 wB w) (hx : x < 18446744073709551616) (hs : d.length ≤ 1000000000) :
    Calls Try.prog 45 #[ptr b, .int .u64 x, .int .i64 dg] w fun e w' => e = .returned (ptr b) ∧ Pw b B (d ++ digs (clamp dg) x) w0 wB w' ∧ FarX w w' := by
  obtain ⟨bs, v, hw⟩ := h.wr
  refine (put_is b B x dg d bs v w hw h.size hx (by omega)).mono ?_
  rintro e w' ⟨rfl, bs', v', hw', -, ho⟩
  exact ⟨rfl, h.mine hw hw' ho⟩
/-- Bytes of a string, as a row. -/
def nameB (s : ByteArray) : List Nat := s.data.toList.map UInt8.toNat
theorem nameB_len (s : ByteArray) : (nameB s).length = s.size := by simp [nameB]
theorem nameB_lt (s : ByteArray) : ∀ x ∈ nameB s, x < 256 := by
  intro x hx
  obtain ⟨y, _, rfl⟩ := List.mem_map.1 hx
  exact y.toNat_lt
/-- A row that a conversion laid. -/
def Laid (w : World) (g n c : Nat) (s : ByteArray) : Prop := ∃ (cs : Array Value) (fr : Nat × Nat), fr ≠ (0, 0) ∧ w.heap[g]? = some (.cells cs 5 fr) ∧ n = s.size ∧ n ≤ c ∧ ∀ j (h : j < s.data.size), cs[j]? = some (.int .u8 (s.data[j].toNat : Int))
theorem Laid.far {w w1 : World} {g n c : Nat} {s : ByteArray} (h : Laid w g n c s) (hf : FarB w w1) : Laid w1 g n c s := by
  obtain ⟨cs, fr, h1, h2, h3⟩ := h
  exact ⟨cs, fr, h1, hf g cs fr h1 h2, h3⟩
theorem Laid.src {w : World} {g n c : Nat} {s : ByteArray} (h : Laid w g n c s) : Src w (.slice (some ⟨g, 0, none⟩) n c) (nameB s) := by
  obtain ⟨cs, fr, h1, h2, rfl, h4, h5⟩ := h
  refine .inr ⟨_, c, by rw [nameB_len], by rw [nameB_len]; exact h4, fun j u hu => ?_⟩
  have hj : j < (nameB s).length := by have := (List.getElem?_eq_some_iff.1 hu).1; rwa [length_cellsOf] at this
  rw [cellsOf_get _ j hj] at hu
  injection hu with hu
  subst hu
  have hj' : j < s.data.size := by rw [nameB_len] at hj; exact hj
  rw [add_plain, cell_of_row w g (0 + j) cs 5 fr h2, Nat.zero_add, h5 j hj']
  simp [nameB]
theorem laid_new (w : World) (s : ByteArray) (c : Nat) (hc : s.size ≤ c) : Laid (w.drew.alloc (.cells (bytesRow s c) 5 ((bytesRow s c).size, (bytesRow s c).size + 1))) w.heap.size s.size c s :=
  ⟨_, _, (fun e => Nat.succ_ne_zero _ (Prod.mk.inj e).2), by show (w.drew.alloc _).heap[w.drew.heap.size]? = _; exact heap_alloc_new w.drew _, rfl, hc, fun j hj => bytesRow_at s c j hj⟩
theorem grown_ge (w : World) (n : Nat) (e : TypeId) : n ≤ grownCap w n 0 e := by
  unfold grownCap
  exact Nat.le_add_right _ _
def headD (a b : Nat) (s : ByteArray) : List Nat := (digs 32 a ++ digs 32 b) ++ D (nameB s)
def putm4_A : List (List Nat) := ([] :: [] :: [1] :: [2, 1] :: [0, 3, 2, 1] :: [] :: [5] :: [6, 5] :: (4 :: 7 :: 0 :: 3 :: 2 :: 1 :: 6 :: 5 :: []) :: [] :: [9] :: [10, 9] :: [11, 10, 9] :: (8 :: 12 :: 4 :: 7 :: 0 :: 3 :: 2 :: 1 :: 6 :: 5 :: 11 :: 10 :: 9 :: []) :: (13 :: 0 :: 1 :: 2 :: 3 :: 4 :: 5 :: 6 :: 7 :: 8 :: 9 :: 10 :: 11 :: 12 :: []) :: [])
def putm4_kill : List (List Nat) := ([] :: [] :: [] :: [] :: [0] :: [] :: [] :: [] :: [0, 4] :: [] :: [] :: [] :: [] :: [0, 4, 8, 11, 12] :: [] :: [])
def putm4_uses : List (List Nat) := ([] :: [] :: [] :: [] :: [0] :: [] :: [] :: [] :: [4] :: [] :: [] :: [] :: [11] :: [8, 12] :: [13] :: [])
noncomputable def putm4_code : Code := ((Try.f12.body.bind (codeRegion 4)).getD .skip)
set_option maxRecDepth 100000 in
set_option maxHeartbeats 4000000 in
theorem putm4_in (m : Ms) (p1 o1 s1 : Value) (mb sb s : Nat) (nm : ByteArray) (hm : m.sender < 4294967296 ∧ m.media < 4294967296) (hnm : nm.size ≤ 100) (hs2 : (srtV s)[2]? = some (.string nm)) (u0 u2 u3 u5 u6 u7 u8 u9 u10 u11 u12 u13 u14 u15 u16 u17 u18 u19 u20 u21 u22 u23 u24 u25 u26 u27 u28 u29 u30 u31 u32 u33 u34 u35 u36 u37 u38 u39 u40 u41 u42 : Value) (w0 : World) (hE : Is w0 mb 27 (m.cls p1 o1 s1)) (hS : Is w0 sb 93 (srtV s)) :
    Code.wp Try.prog putm4_code (fun e a w' => ∃ y6 y17 y18 y19 y20 y21 y22 y23 y24 y25 y26 y27 y28 y29 y30 : Value, a = ⟨(List.toArray (u0 :: .pointer (some ⟨mb, 0, none⟩) :: u2 :: u3 :: .pointer (some ⟨sb, 0, none⟩) :: u5 :: y6 :: u7 :: u8 :: u9 :: u10 :: u11 :: u12 :: u13 :: u14 :: u15 :: u16 :: y17 :: y18 :: y19 :: y20 :: y21 :: y22 :: y23 :: y24 :: y25 :: y26 :: y27 :: y28 :: y29 :: y30 :: u31 :: u32 :: u33 :: u34 :: u35 :: u36 :: u37 :: u38 :: u39 :: u40 :: u41 :: u42 :: [])), []⟩ ∧ e = .normal ∧ (∃ k, y6 = ptr k ∧ Pw k w0.heap.size (headD m.sender m.media nm) w0 w0 w')) ⟨(List.toArray (u0 :: .pointer (some ⟨mb, 0, none⟩) :: u2 :: u3 :: .pointer (some ⟨sb, 0, none⟩) :: u5 :: u6 :: u7 :: u8 :: u9 :: u10 :: u11 :: u12 :: u13 :: u14 :: u15 :: u16 :: u17 :: u18 :: u19 :: u20 :: u21 :: u22 :: u23 :: u24 :: u25 :: u26 :: u27 :: u28 :: u29 :: u30 :: u31 :: u32 :: u33 :: u34 :: u35 :: u36 :: u37 :: u38 :: u39 :: u40 :: u41 :: u42 :: [])), []⟩ w0 := by
  conv => arg 2; whnf
  have HA := Lib.hid (show m.sender < 18446744073709551616 ∧ m.media < 18446744073709551616 from by omega)
  have HN := Lib.hid hnm
  have HS2 := Lib.hid hs2
  have wx0 : IntKind.u64.wrap (m.sender : Int) = (m.sender : Int) := by rw [IntKind.wrap_u64]; omega
  have wx1 : IntKind.u64.wrap (m.media : Int) = (m.media : Int) := by rw [IntKind.wrap_u64]; omega
  clear hs2 hnm
  refine wp_region_posts putm4_A [0, 4, 8, 11, 12, 13] [0, 4, 8, 11, 12, 13, 14] putm4_kill putm4_uses [14] [] [] []
      (none :: some ?v1 :: some ?v2 :: some ?v3 :: none :: some ?v5 :: some ?v6 :: some ?v7 :: none :: some ?v9 :: some ?v10 :: none :: none :: none :: none :: [])
      ?T (fun wx => Is wx mb 27 (m.cls p1 o1 s1) ∧ Is wx sb 93 (srtV s) ∧ FarW w0 wx ∧ Only (fun k => w0.heap.size ≤ k) w0 wx) ?W ?E (by kernel_rfl) (by kernel_rfl) (by kernel_rfl) (fun x => ?hT) ?hF ?hini (Reg.all_ops ?runs) ?pres ?fin
  case W => exact fun j x w' => match j with | 0 => ∃ k, x 0 = ptr k ∧ Pw k w0.heap.size [] w0 w0 w' | 4 => ∃ k, x 4 = ptr k ∧ Pw k w0.heap.size (digs 32 m.sender) w0 w0 w' | 8 => ∃ k, x 8 = ptr k ∧ Pw k w0.heap.size (digs 32 m.sender ++ digs 32 m.media) w0 w0 w' | 11 => ∃ g n c, x 11 = .slice (some ⟨g, 0, none⟩) n c ∧ Laid w' g n c nm | 12 => ∃ lb g n c, x 12 = .slice (some ⟨lb, 0, none⟩) 1 1 ∧ Is w' lb 35 #[.slice (some ⟨g, 0, none⟩) n c] ∧ Laid w' g n c nm | 13 => ∃ k, x 13 = ptr k ∧ Pw k w0.heap.size (headD m.sender m.media nm) w0 w0 w' | 14 => ∃ k, x 14 = ptr k ∧ Pw k w0.heap.size (headD m.sender m.media nm) w0 w0 w' | _ => True
  case E => exact fun i w' w'' => match i with | 4 => FarX w' w'' | 8 => FarX w' w'' | 13 => FarX w' w'' | _ => Only (fun _ => False) w' w''
  case hT =>
    simp only [Reg.fillV, Act.put, List.setIfInBounds_toArray, List.set_cons_zero, List.set_cons_succ]
    rfl
  case runs =>
    refine And.intro ?_ ?_
    · refine Reg.ob_some (fun _ => rfl) rfl (fun x w1 hF hU K hK => ?_)
      obtain ⟨h1, h2, h4, h3⟩ := hF rfl
      go_simp
      refine (new_is w1).mono ?_
      rintro e w5 ⟨rfl, hw5⟩
      have ho : Only (fun _ => False) w1 w5 := by rw [← hw5]; exact (Only.refl _ _).alloc _
      exact hK _ w5 (fun _ _ _ => ⟨h1.only ho (by simp), h2.only ho (by simp), h4.trans (FarW.of ho), h3.trans ho (fun _ _ e => e.elim)⟩) ho ⟨_, rfl, ⟨_, _, by rw [← hw5]; exact wr_new w1 w0.heap.size h3.size⟩, h4.trans (FarW.of ho), h3.trans ho (fun _ _ e => e.elim), Nat.le_trans h3.size ho.size⟩
    refine And.intro ?_ ?_
    · refine Reg.ob_pure (fun _ => rfl) rfl rfl rfl rfl (fun x w1 hF => ?_)
      obtain ⟨h1, h2, -, -⟩ := hF
      obtain ⟨m0, m1, m2, m3, m4, m5, m6, m7⟩ := cls_cells h1
      have s2 := (h2.cell 2).trans HS2.out
      go_simp
      with_reducible rfl
    refine And.intro ?_ ?_
    · refine Reg.ob_pure (fun _ => rfl) rfl rfl rfl rfl (fun x w1 hF => ?_)
      obtain ⟨h1, h2, -, -⟩ := hF
      obtain ⟨m0, m1, m2, m3, m4, m5, m6, m7⟩ := cls_cells h1
      have s2 := (h2.cell 2).trans HS2.out
      go_simp
      with_reducible rfl
    refine And.intro ?_ ?_
    · refine Reg.ob_pure (fun _ => rfl) rfl rfl rfl rfl (fun x w1 hF => ?_)
      obtain ⟨h1, h2, -, -⟩ := hF
      obtain ⟨m0, m1, m2, m3, m4, m5, m6, m7⟩ := cls_cells h1
      have s2 := (h2.cell 2).trans HS2.out
      go_simp
      with_reducible rfl
    refine And.intro ?_ ?_
    · refine Reg.ob_some (fun _ => rfl) rfl (fun x w1 hF hU K hK => ?_)
      obtain ⟨h1, h2, h4, h3⟩ := hF rfl
      obtain ⟨⟨k, h0, hP⟩, -⟩ := hU
      have h0 : x 0 = ptr k := h0
      revert hK
      simp only [Nat.reduceAdd, h0]
      intro hK
      unfold ptr at *
      go_simp
      refine (pw_put2 32 hP HA.out.1 (by simp)).mono ?_
      rintro e w5 ⟨rfl, hp, hX⟩
      exact hK _ w5 (fun _ _ _ => ⟨(hX.2 _ _ _ (by decide) (by decide) h1), (hX.2 _ _ _ (by decide) (by decide) h2), hp.far, hp.old⟩) hX ⟨k, rfl, hp⟩
    refine And.intro ?_ ?_
    · refine Reg.ob_pure (fun _ => rfl) rfl rfl rfl rfl (fun x w1 hF => ?_)
      obtain ⟨h1, h2, -, -⟩ := hF
      obtain ⟨m0, m1, m2, m3, m4, m5, m6, m7⟩ := cls_cells h1
      have s2 := (h2.cell 2).trans HS2.out
      go_simp
      with_reducible rfl
    refine And.intro ?_ ?_
    · refine Reg.ob_pure (fun _ => rfl) rfl rfl rfl rfl (fun x w1 hF => ?_)
      obtain ⟨h1, h2, -, -⟩ := hF
      obtain ⟨m0, m1, m2, m3, m4, m5, m6, m7⟩ := cls_cells h1
      have s2 := (h2.cell 2).trans HS2.out
      go_simp
      with_reducible rfl
    refine And.intro ?_ ?_
    · refine Reg.ob_pure (fun _ => rfl) rfl rfl rfl rfl (fun x w1 hF => ?_)
      obtain ⟨h1, h2, -, -⟩ := hF
      obtain ⟨m0, m1, m2, m3, m4, m5, m6, m7⟩ := cls_cells h1
      have s2 := (h2.cell 2).trans HS2.out
      go_simp
      with_reducible rfl
    refine And.intro ?_ ?_
    · refine Reg.ob_some (fun _ => rfl) rfl (fun x w1 hF hU K hK => ?_)
      obtain ⟨h1, h2, h4, h3⟩ := hF rfl
      obtain ⟨⟨k, h0, hP⟩, -⟩ := hU
      have h0 : x 4 = ptr k := h0
      revert hK
      simp only [Nat.reduceAdd, h0]
      intro hK
      unfold ptr at *
      go_simp
      refine (pw_put2 32 hP HA.out.2 (by simp only [digs_length]; omega)).mono ?_
      rintro e w5 ⟨rfl, hp, hX⟩
      exact hK _ w5 (fun _ _ _ => ⟨(hX.2 _ _ _ (by decide) (by decide) h1), (hX.2 _ _ _ (by decide) (by decide) h2), hp.far, hp.old⟩) hX ⟨k, rfl, hp⟩
    refine And.intro ?_ ?_
    · refine Reg.ob_pure (fun _ => rfl) rfl rfl rfl rfl (fun x w1 hF => ?_)
      obtain ⟨h1, h2, -, -⟩ := hF
      obtain ⟨m0, m1, m2, m3, m4, m5, m6, m7⟩ := cls_cells h1
      have s2 := (h2.cell 2).trans HS2.out
      go_simp
      with_reducible rfl
    refine And.intro ?_ ?_
    · refine Reg.ob_pure (fun _ => rfl) rfl rfl rfl rfl (fun x w1 hF => ?_)
      obtain ⟨h1, h2, -, -⟩ := hF
      obtain ⟨m0, m1, m2, m3, m4, m5, m6, m7⟩ := cls_cells h1
      have s2 := (h2.cell 2).trans HS2.out
      go_simp
      with_reducible rfl
    refine And.intro ?_ ?_
    · refine Reg.ob_some (fun _ => rfl) rfl (fun x w1 hF hU K hK => ?_)
      obtain ⟨h1, h2, h4, h3⟩ := hF rfl
      go_simp
      rw [run_bytes_of_string w1 9 35 5 nm Try.underlying9 Try.underlying35 Try.underlying5]
      simp only [Result.andThen_ok, Oper.upon]
      have ho : Only (fun _ => False) w1 (w1.drew.alloc (.cells (bytesRow nm (grownCap w1 nm.size 0 5)) 5 ((bytesRow nm (grownCap w1 nm.size 0 5)).size, (bytesRow nm (grownCap w1 nm.size 0 5)).size + 1))) := (only_drewN w1 1).alloc _
      exact hK _ _ (fun _ _ _ => ⟨h1.only ho (by simp), h2.only ho (by simp), h4.trans (FarW.of ho), h3.trans ho (fun _ _ e => e.elim)⟩) ho ⟨_, _, _, rfl, laid_new w1 nm _ (grown_ge _ _ _)⟩
    refine And.intro ?_ ?_
    · refine Reg.ob_some (fun _ => rfl) rfl (fun x w1 hF hU K hK => ?_)
      obtain ⟨h1, h2, h4, h3⟩ := hF rfl
      obtain ⟨⟨g, n, c, h11, hL⟩, -⟩ := hU
      have h11 : x 11 = .slice (some ⟨g, 0, none⟩) n c := h11
      revert hK
      simp only [Nat.reduceAdd, h11]
      intro hK
      go_simp
      have ho : Only (fun _ => False) w1 (w1.alloc (.cells #[.slice (some ⟨g, 0, none⟩) n c] 35)) := (Only.refl _ _).alloc _
      exact hK _ _ (fun _ _ _ => ⟨h1.only ho (by simp), h2.only ho (by simp), h4.trans (FarW.of ho), h3.trans ho (fun _ _ e => e.elim)⟩) ho ⟨_, g, n, c, rfl, Is.made _ _ _, hL.far (FarB.of ho)⟩
    refine And.intro ?_ ?_
    · refine Reg.ob_some (fun _ => rfl) rfl (fun x w1 hF hU K hK => ?_)
      obtain ⟨h1, h2, h4, h3⟩ := hF rfl
      obtain ⟨⟨k, h0, hP⟩, ⟨lb, g, n, c, h12, hl, hL⟩, -⟩ := hU
      have h0 : x 8 = ptr k := h0
      have h12 : x 12 = .slice (some ⟨lb, 0, none⟩) 1 1 := h12
      revert hK
      simp only [Nat.reduceAdd, h0, h12]
      intro hK
      unfold ptr at *
      go_simp
      obtain ⟨bs, v, hw⟩ := hP.wr
      refine (wbytes_one k w0.heap.size lb 1 _ bs (nameB nm) v _ w1 hw (by simp [digs_length]) hP.size (hl.cell 0) hL.src (nameB_lt nm) (by simp [digs_length]) (by rw [nameB_len]; have := HN.out; omega)).mono ?_
      rintro e w5 ⟨rfl, bs', v', hw', ho⟩
      obtain ⟨hp, hX⟩ := hP.mine hw hw' ho
      exact hK _ w5 (fun _ _ _ => ⟨(hX.2 _ _ _ (by decide) (by decide) h1), (hX.2 _ _ _ (by decide) (by decide) h2), hp.far, hp.old⟩) hX ⟨k, rfl, hp⟩
    refine And.intro ?_ ?_
    · refine Reg.ob_some (fun _ => rfl) rfl (fun x w1 hF hU K hK => ?_)
      obtain ⟨⟨k, h0, hP⟩, -⟩ := hU
      have h0 : x 13 = ptr k := h0
      revert hK
      simp only [Nat.reduceAdd, h0]
      intro hK
      go_simp
      exact hK _ _ (fun h => by cases h) rfl ⟨k, rfl, hP⟩
    exact trivial
  case hF =>
    exact ⟨hE.only (only_drewN _ 1) (by simp), hS.only (only_drewN _ 1) (by simp), FarW.of (only_drewN _ 1), (only_drewN _ 1).mono (fun _ _ e => e.elim)⟩
  case hini =>
    exact trivial
  case pres =>
    intro i hi j hj hc x wx wy hF hE hW
    simp only [List.mem_cons, List.mem_nil_iff, or_false] at hi hj
    rcases hi with rfl | rfl | rfl | rfl | rfl | rfl <;> rcases hj with rfl | rfl | rfl | rfl | rfl | rfl | rfl
    all_goals first | (exfalso; revert hc; decide) | skip
    all_goals first
      | (have hX : FarX wx wy := hE; obtain ⟨g, n, c, h1, h2⟩ := hW; exact ⟨g, n, c, h1, h2.far hX.1⟩)
      | (have hX : FarX wx wy := hE; obtain ⟨lb, g, n, c, h1, h2, h3⟩ := hW; exact ⟨lb, g, n, c, h1, hX.2 _ _ _ (by decide) (by decide) h2, h3.far hX.1⟩)
      | (have hX : FarX wx wy := FarX.of hE; obtain ⟨g, n, c, h1, h2⟩ := hW; exact ⟨g, n, c, h1, h2.far hX.1⟩)
      | (have hX : FarX wx wy := FarX.of hE; obtain ⟨lb, g, n, c, h1, h2, h3⟩ := hW; exact ⟨lb, g, n, c, h1, hX.2 _ _ _ (by decide) (by decide) h2, h3.far hX.1⟩)
      | (have hX : Only (fun _ => False) wx wy := hE; obtain ⟨k, h1, h2⟩ := hW; exact ⟨k, h1, h2.go hX⟩)
  case fin =>
    rintro x w9 hF hU
    obtain ⟨⟨k, h14, hP⟩, -⟩ := hU
    have h14 : x 14 = ptr k := h14
    repeat apply Exists.intro
    refine ⟨rfl, rfl, ?_⟩
    exact ⟨k, h14, hP⟩

set_option maxRecDepth 100000 in
set_option maxHeartbeats 4000000 in
theorem putm4 (m : Ms) (p1 o1 s1 : Value) (mb sb s : Nat) (nm : ByteArray) (hm : m.sender < 4294967296 ∧ m.media < 4294967296) (hnm : nm.size ≤ 100) (hs2 : (srtV s)[2]? = some (.string nm)) (u0 u2 u3 u5 u6 u7 u8 u9 u10 u11 u12 u13 u14 u15 u16 u17 u18 u19 u20 u21 u22 u23 u24 u25 u26 u27 u28 u29 u30 u31 u32 u33 u34 u35 u36 u37 u38 u39 u40 u41 u42 : Value) (Q : Exit → Act → World → Prop) (w0 : World) (hE : Is w0 mb 27 (m.cls p1 o1 s1)) (hS : Is w0 sb 93 (srtV s))
    (hend : ∀ (y6 y17 y18 y19 y20 y21 y22 y23 y24 y25 y26 y27 y28 y29 y30 : Value) (w' : World), (∃ k, y6 = ptr k ∧ Pw k w0.heap.size (headD m.sender m.media nm) w0 w0 w') → Q .normal ⟨(List.toArray (u0 :: .pointer (some ⟨mb, 0, none⟩) :: u2 :: u3 :: .pointer (some ⟨sb, 0, none⟩) :: u5 :: y6 :: u7 :: u8 :: u9 :: u10 :: u11 :: u12 :: u13 :: u14 :: u15 :: u16 :: y17 :: y18 :: y19 :: y20 :: y21 :: y22 :: y23 :: y24 :: y25 :: y26 :: y27 :: y28 :: y29 :: y30 :: u31 :: u32 :: u33 :: u34 :: u35 :: u36 :: u37 :: u38 :: u39 :: u40 :: u41 :: u42 :: [])), []⟩ w') :
    Code.wp Try.prog putm4_code Q ⟨(List.toArray (u0 :: .pointer (some ⟨mb, 0, none⟩) :: u2 :: u3 :: .pointer (some ⟨sb, 0, none⟩) :: u5 :: u6 :: u7 :: u8 :: u9 :: u10 :: u11 :: u12 :: u13 :: u14 :: u15 :: u16 :: u17 :: u18 :: u19 :: u20 :: u21 :: u22 :: u23 :: u24 :: u25 :: u26 :: u27 :: u28 :: u29 :: u30 :: u31 :: u32 :: u33 :: u34 :: u35 :: u36 :: u37 :: u38 :: u39 :: u40 :: u41 :: u42 :: [])), []⟩ w0 := by
  refine wp_mono (putm4_in m p1 o1 s1 mb sb s nm hm hnm hs2 _ _ _ _ _ _ _ _ _ _ _ _ _ _ _ _ _ _ _ _ _ _ _ _ _ _ _ _ _ _ _ _ _ _ _ _ _ _ _ _ _ w0 hE hS) ?_
  rintro e a w' h
  obtain ⟨y6, h⟩ := h
  obtain ⟨y17, h⟩ := h
  obtain ⟨y18, h⟩ := h
  obtain ⟨y19, h⟩ := h
  obtain ⟨y20, h⟩ := h
  obtain ⟨y21, h⟩ := h
  obtain ⟨y22, h⟩ := h
  obtain ⟨y23, h⟩ := h
  obtain ⟨y24, h⟩ := h
  obtain ⟨y25, h⟩ := h
  obtain ⟨y26, h⟩ := h
  obtain ⟨y27, h⟩ := h
  obtain ⟨y28, h⟩ := h
  obtain ⟨y29, h⟩ := h
  obtain ⟨y30, h⟩ := h
  obtain ⟨h, rfl, hq⟩ := h
  subst h
  exact hend y6 y17 y18 y19 y20 y21 y22 y23 y24 y25 y26 y27 y28 y29 y30 w' hq
end Go.Proofs.Ytoibllmijkggnaa
