/- easellaw07.ref's round: an order is told anew. Conditions: as each says. -/
import Derived.Test.YtefcimkopgcagaaFbGr
import Derived.Test.YtefcimkopgcagaaBase
set_option linter.unusedVariables false
namespace Go.Proofs.Ytefcimkopgcagaa
open Go.RowKit

def msZ : Array Value := #[.int .u8 0, .int .u32 0, .int .u32 0, .slice none 0 0, .slice none 0 0, .int .u8 0, .int .u32 0, .slice none 0 0]
/-- Amid ref: the message, the answer's block, the block of what is told, its pairs. -/
structure Rg (m : Ms) (p1 o1 s1 vp vo : Value) (mb rb ob : Nat) (w0 wx : World) : Prop where
  im : Is wx mb 27 (m.cls p1 o1 s1)
  ir : Is wx rb 33 msZ
  io : Is wx ob 33 (m.cls vp vo (.slice none 0 0))
  op : OwnP w0.heap.size 83 vp m.pairs wx
  pure : Only (fun _ => False) w0 wx
theorem Rg.go {m : Ms} {p1 o1 s1 vp vo : Value} {mb rb ob : Nat} {w0 wx wy : World} (h : Rg m p1 o1 s1 vp vo mb rb ob w0 wx) (ho : Only (fun _ => False) wx wy) : Rg m p1 o1 s1 vp vo mb rb ob w0 wy :=
  ⟨h.im.only ho (by simp), h.ir.only ho (by simp), h.io.only ho (by simp), OwnP.only h.op ho (by simp), only_more h.pure ho⟩
theorem Rg.far {m : Ms} {p1 o1 s1 vp vo : Value} {mb rb ob : Nat} {w0 wx wy : World} (h : Rg m p1 o1 s1 vp vo mb rb ob w0 wx) {v : Value} {l : List Od} (hw : OwnO w0.heap.size v l wx) (ho : Only (fun k => v.ownBlock = some k) wx wy) : Rg m p1 o1 s1 vp vo mb rb ob w0 wy :=
  ⟨h.im.only ho (owned_off hw.1 h.im (by decide)), h.ir.only ho (owned_off hw.1 h.ir (by decide)), h.io.only ho (owned_off hw.1 h.io (by decide)), OwnP.only h.op ho (fun k hk e => owned_apart h.op.1 hw.1 (by decide) k hk e), h.pure.trans ho (fun i hi e => by have := (hw.lt i e).1; omega)⟩
theorem Rg.store {m : Ms} {p1 o1 s1 vp vo : Value} {mb rb ob : Nat} {w0 wx : World} (h : Rg m p1 o1 s1 vp vo mb rb ob w0 wx) (hrb : rb ≠ ob) (hob : w0.heap.size ≤ ob) (vo' : Value) : Rg m p1 o1 s1 vp vo' mb rb ob w0 (wx.setCell ⟨ob, 4, none⟩ vo') := by
  have ho : Only (fun k => k = ob) wx (wx.setCell ⟨ob, 4, none⟩ vo') := Only.set (S := fun k => k = ob) (p := ⟨ob, 4, none⟩) (Only.refl _ wx) (fun _ => rfl) vo'
  refine ⟨h.im.only ho (Is.apart h.im h.io (by decide)), h.ir.only ho hrb, h.io.put 4 vo', OwnP.only h.op ho (fun k hk e => owned_off h.op.1 h.io (by decide) (by rw [hk, e])), h.pure.trans ho (fun i hi e => by omega)⟩
theorem OwnO.stored {B : Nat} {v : Value} {l : List Od} {w : World} {ob : Nat} {cs : Array Value} (h : OwnO B v l w) (hI : Is w ob 33 cs) (i : Nat) (u : Value) : OwnO B v l (w.setCell ⟨ob, i, none⟩ u) :=
  OwnO.only h (Only.set (S := fun k => k = ob) (p := ⟨ob, i, none⟩) (Only.refl _ w) (fun _ => rfl) u) (fun k hk e => owned_off h.1 hI (by decide) (by rw [hk, e]))
def ref5_A : List (List Nat) := ([] :: [0] :: [] :: [2] :: [] :: [3, 4, 2] :: [5, 3, 4, 2] :: [6, 5, 3, 4, 2] :: [] :: [8] :: [] :: [9, 10, 8] :: [11, 9, 10, 8] :: [12, 11, 9, 10, 8] :: (7 :: 13 :: 6 :: 5 :: 3 :: 4 :: 2 :: 12 :: 11 :: 9 :: 10 :: 8 :: []) :: (14 :: 7 :: 13 :: 6 :: 5 :: 3 :: 4 :: 2 :: 12 :: 11 :: 9 :: 10 :: 8 :: []) :: (1 :: 15 :: 0 :: 14 :: 7 :: 13 :: 6 :: 5 :: 3 :: 4 :: 2 :: 12 :: 11 :: 9 :: 10 :: 8 :: []) :: (0 :: 1 :: 2 :: 3 :: 4 :: 5 :: 6 :: 7 :: 8 :: 9 :: 10 :: 11 :: 12 :: 13 :: 14 :: 15 :: 16 :: []) :: (17 :: 16 :: 0 :: 1 :: 2 :: 3 :: 4 :: 5 :: 6 :: 7 :: 8 :: 9 :: 10 :: 11 :: 12 :: 13 :: 14 :: 15 :: []) :: [])
def ref5_kill : List (List Nat) := ([] :: [] :: [] :: [] :: [] :: [] :: [] :: [] :: [] :: [] :: [] :: [] :: [] :: [] :: [] :: [] :: [15, 19] :: [] :: [15, 16, 19] :: [])
def ref5_uses : List (List Nat) := ([] :: [] :: [] :: [] :: [] :: [] :: [] :: [] :: [] :: [] :: [] :: [] :: [] :: [] :: [] :: [] :: [15, 19] :: [] :: [16] :: [])
noncomputable def ref5_code : Code := ((Try.f10.body.bind (codeRegion 5)).getD .skip)
set_option maxRecDepth 100000 in
set_option maxHeartbeats 4000000 in
theorem ref5_in (m : Ms) (p1 s1 vp : Value) (q o e1 Lo k c : Nat) (Ao : Option Addr) (mb rb ob : Nat) (p : Od) (l : List Od) (w0 : World) (hp : p.Fit) (hk : k < Lo) (hLo : Lo ≤ 100000) (hlo : Lo ≤ e1) (hl : l.length = k) (hob : w0.heap.size ≤ ob) (hrb : rb ≠ ob) (u0 u2 u5 u6 u7 u8 u9 u10 u11 u12 u13 u14 u15 u16 u17 u18 u19 u20 u21 u22 u23 u24 u25 u26 u27 u28 u29 u30 u31 u32 u33 u34 u35 u36 u37 u38 u39 u40 u41 u42 u43 u44 u45 u46 u47 u48 u49 u50 : Value) (w : World) (hCQ : ∀ wx, Only (fun _ => False) w0 wx → wx.cell? ⟨q, o + k * 2, none⟩ = some (.int .u32 (p.ssrc : Nat)) ∧ wx.cell? ⟨q, o + k * 2 + 1, none⟩ = some (.int .u8 (p.no : Nat))) (hG : Rg m p1 (.slice (some ⟨q, o, none⟩) Lo e1) s1 vp (.slice Ao k c) mb rb ob w0 w) (hown : OwnO w0.heap.size (.slice Ao k c) l w) :
    Code.wp Try.prog ref5_code (fun e a w' => ∃ y26 y27 y28 y29 y30 y31 y32 y33 y34 y35 y36 y37 y38 y39 y40 y41 y42 y43 : Value, a = ⟨(List.toArray (u0 :: .pointer (some ⟨mb, 0, none⟩) :: u2 :: .pointer (some ⟨ob, 0, none⟩) :: .int .i64 (k : Int) :: u5 :: u6 :: u7 :: u8 :: u9 :: u10 :: u11 :: u12 :: u13 :: u14 :: u15 :: u16 :: u17 :: u18 :: u19 :: u20 :: u21 :: u22 :: u23 :: u24 :: u25 :: y26 :: y27 :: y28 :: y29 :: y30 :: y31 :: y32 :: y33 :: y34 :: y35 :: y36 :: y37 :: y38 :: y39 :: y40 :: y41 :: y42 :: y43 :: u44 :: u45 :: u46 :: u47 :: u48 :: u49 :: u50 :: [])), []⟩ ∧ e = .normal ∧ (∃ A' c', Rg m p1 (.slice (some ⟨q, o, none⟩) Lo e1) s1 vp (.slice A' (k + 1) c') mb rb ob w0 w' ∧ OwnO w0.heap.size (.slice A' (k + 1) c') (l ++ [p]) w')) ⟨(List.toArray (u0 :: .pointer (some ⟨mb, 0, none⟩) :: u2 :: .pointer (some ⟨ob, 0, none⟩) :: .int .i64 (k : Int) :: u5 :: u6 :: u7 :: u8 :: u9 :: u10 :: u11 :: u12 :: u13 :: u14 :: u15 :: u16 :: u17 :: u18 :: u19 :: u20 :: u21 :: u22 :: u23 :: u24 :: u25 :: u26 :: u27 :: u28 :: u29 :: u30 :: u31 :: u32 :: u33 :: u34 :: u35 :: u36 :: u37 :: u38 :: u39 :: u40 :: u41 :: u42 :: u43 :: u44 :: u45 :: u46 :: u47 :: u48 :: u49 :: u50 :: [])), []⟩ w := by
  conv => arg 2; whnf
  have HCQ := Lib.hid hCQ
  have zk : (k : Int) < (Lo : Int) := by omega
  clear hCQ
  refine wp_region_posts ref5_A [15, 16, 18] [15, 16, 18, 19] ref5_kill ref5_uses [18] [18] [] [19]
      (some ?v0 :: some ?v1 :: some ?v2 :: some ?v3 :: some ?v4 :: some ?v5 :: some ?v6 :: some ?v7 :: some ?v8 :: some ?v9 :: some ?v10 :: some ?v11 :: some ?v12 :: some ?v13 :: some ?v14 :: none :: none :: some ?v17 :: none :: [])
      ?T (fun wx => Rg m p1 (.slice (some ⟨q, o, none⟩) Lo e1) s1 vp (.slice Ao k c) mb rb ob w0 wx) ?W ?E (by kernel_rfl) (by kernel_rfl) (by kernel_rfl) (fun x => ?hT) ?hF ?hini (Reg.all_ops ?runs) ?pres ?fin
  case W => exact fun j x w' => match j with | 15 => ∃ g, x 15 = .slice (some ⟨g, 0, none⟩) 1 1 ∧ w0.heap.size ≤ g ∧ Is w' g 86 p.lst.toArray | 16 => ∃ A' c', x 16 = .slice A' (k + 1) c' ∧ OwnO w0.heap.size (.slice A' (k + 1) c') (l ++ [p]) w' | 18 => ∃ A' c', Rg m p1 (.slice (some ⟨q, o, none⟩) Lo e1) s1 vp (.slice A' (k + 1) c') mb rb ob w0 w' ∧ OwnO w0.heap.size (.slice A' (k + 1) c') (l ++ [p]) w' | 19 => OwnO w0.heap.size (.slice Ao k c) l w' | _ => True
  case E => exact fun i w' w'' => match i with | 15 => Only (fun _ => False) w' w'' | 16 => True | _ => True
  case hT =>
    simp only [Reg.fillV, Act.put, List.setIfInBounds_toArray, List.set_cons_zero, List.set_cons_succ]
    rfl
  case runs =>
    refine And.intro ?_ ?_
    · refine Reg.ob_pure (fun _ => rfl) rfl rfl rfl rfl (fun x w1 hF => ?_)
      have hF2 := hF
      obtain ⟨m0, m1, m2, m3, m4, m5, m6, m7⟩ := cls_cells hF.im
      obtain ⟨n0, n1, n2, n3, n4, n5, n6, n7⟩ := cls_cells hF.io
      obtain ⟨d0, d1⟩ := HCQ.out _ hF.pure
      go_simp
      with_reducible rfl
    refine And.intro ?_ ?_
    · refine Reg.ob_pure (fun _ => rfl) rfl rfl rfl rfl (fun x w1 hF => ?_)
      have hF2 := hF
      obtain ⟨m0, m1, m2, m3, m4, m5, m6, m7⟩ := cls_cells hF.im
      obtain ⟨n0, n1, n2, n3, n4, n5, n6, n7⟩ := cls_cells hF.io
      obtain ⟨d0, d1⟩ := HCQ.out _ hF.pure
      go_simp
      with_reducible rfl
    refine And.intro ?_ ?_
    · refine Reg.ob_pure (fun _ => rfl) rfl rfl rfl rfl (fun x w1 hF => ?_)
      have hF2 := hF
      obtain ⟨m0, m1, m2, m3, m4, m5, m6, m7⟩ := cls_cells hF.im
      obtain ⟨n0, n1, n2, n3, n4, n5, n6, n7⟩ := cls_cells hF.io
      obtain ⟨d0, d1⟩ := HCQ.out _ hF.pure
      go_simp
      with_reducible rfl
    refine And.intro ?_ ?_
    · refine Reg.ob_pure (fun _ => rfl) rfl rfl rfl rfl (fun x w1 hF => ?_)
      have hF2 := hF
      obtain ⟨m0, m1, m2, m3, m4, m5, m6, m7⟩ := cls_cells hF.im
      obtain ⟨n0, n1, n2, n3, n4, n5, n6, n7⟩ := cls_cells hF.io
      obtain ⟨d0, d1⟩ := HCQ.out _ hF.pure
      go_simp
      with_reducible rfl
    refine And.intro ?_ ?_
    · refine Reg.ob_pure (fun _ => rfl) rfl rfl rfl rfl (fun x w1 hF => ?_)
      have hF2 := hF
      obtain ⟨m0, m1, m2, m3, m4, m5, m6, m7⟩ := cls_cells hF.im
      obtain ⟨n0, n1, n2, n3, n4, n5, n6, n7⟩ := cls_cells hF.io
      obtain ⟨d0, d1⟩ := HCQ.out _ hF.pure
      go_simp
      with_reducible rfl
    refine And.intro ?_ ?_
    · refine Reg.ob_pure (fun _ => rfl) rfl rfl rfl rfl (fun x w1 hF => ?_)
      have hF2 := hF
      obtain ⟨m0, m1, m2, m3, m4, m5, m6, m7⟩ := cls_cells hF.im
      obtain ⟨n0, n1, n2, n3, n4, n5, n6, n7⟩ := cls_cells hF.io
      obtain ⟨d0, d1⟩ := HCQ.out _ hF.pure
      go_simp
      with_reducible rfl
    refine And.intro ?_ ?_
    · refine Reg.ob_pure (fun _ => rfl) rfl rfl rfl rfl (fun x w1 hF => ?_)
      have hF2 := hF
      obtain ⟨m0, m1, m2, m3, m4, m5, m6, m7⟩ := cls_cells hF.im
      obtain ⟨n0, n1, n2, n3, n4, n5, n6, n7⟩ := cls_cells hF.io
      obtain ⟨d0, d1⟩ := HCQ.out _ hF.pure
      go_simp
      with_reducible rfl
    refine And.intro ?_ ?_
    · refine Reg.ob_pure (fun _ => rfl) rfl rfl rfl rfl (fun x w1 hF => ?_)
      have hF2 := hF
      obtain ⟨m0, m1, m2, m3, m4, m5, m6, m7⟩ := cls_cells hF.im
      obtain ⟨n0, n1, n2, n3, n4, n5, n6, n7⟩ := cls_cells hF.io
      obtain ⟨d0, d1⟩ := HCQ.out _ hF.pure
      go_simp
      with_reducible rfl
    refine And.intro ?_ ?_
    · refine Reg.ob_pure (fun _ => rfl) rfl rfl rfl rfl (fun x w1 hF => ?_)
      have hF2 := hF
      obtain ⟨m0, m1, m2, m3, m4, m5, m6, m7⟩ := cls_cells hF.im
      obtain ⟨n0, n1, n2, n3, n4, n5, n6, n7⟩ := cls_cells hF.io
      obtain ⟨d0, d1⟩ := HCQ.out _ hF.pure
      go_simp
      with_reducible rfl
    refine And.intro ?_ ?_
    · refine Reg.ob_pure (fun _ => rfl) rfl rfl rfl rfl (fun x w1 hF => ?_)
      have hF2 := hF
      obtain ⟨m0, m1, m2, m3, m4, m5, m6, m7⟩ := cls_cells hF.im
      obtain ⟨n0, n1, n2, n3, n4, n5, n6, n7⟩ := cls_cells hF.io
      obtain ⟨d0, d1⟩ := HCQ.out _ hF.pure
      go_simp
      with_reducible rfl
    refine And.intro ?_ ?_
    · refine Reg.ob_pure (fun _ => rfl) rfl rfl rfl rfl (fun x w1 hF => ?_)
      have hF2 := hF
      obtain ⟨m0, m1, m2, m3, m4, m5, m6, m7⟩ := cls_cells hF.im
      obtain ⟨n0, n1, n2, n3, n4, n5, n6, n7⟩ := cls_cells hF.io
      obtain ⟨d0, d1⟩ := HCQ.out _ hF.pure
      go_simp
      with_reducible rfl
    refine And.intro ?_ ?_
    · refine Reg.ob_pure (fun _ => rfl) rfl rfl rfl rfl (fun x w1 hF => ?_)
      have hF2 := hF
      obtain ⟨m0, m1, m2, m3, m4, m5, m6, m7⟩ := cls_cells hF.im
      obtain ⟨n0, n1, n2, n3, n4, n5, n6, n7⟩ := cls_cells hF.io
      obtain ⟨d0, d1⟩ := HCQ.out _ hF.pure
      go_simp
      with_reducible rfl
    refine And.intro ?_ ?_
    · refine Reg.ob_pure (fun _ => rfl) rfl rfl rfl rfl (fun x w1 hF => ?_)
      have hF2 := hF
      obtain ⟨m0, m1, m2, m3, m4, m5, m6, m7⟩ := cls_cells hF.im
      obtain ⟨n0, n1, n2, n3, n4, n5, n6, n7⟩ := cls_cells hF.io
      obtain ⟨d0, d1⟩ := HCQ.out _ hF.pure
      go_simp
      with_reducible rfl
    refine And.intro ?_ ?_
    · refine Reg.ob_pure (fun _ => rfl) rfl rfl rfl rfl (fun x w1 hF => ?_)
      have hF2 := hF
      obtain ⟨m0, m1, m2, m3, m4, m5, m6, m7⟩ := cls_cells hF.im
      obtain ⟨n0, n1, n2, n3, n4, n5, n6, n7⟩ := cls_cells hF.io
      obtain ⟨d0, d1⟩ := HCQ.out _ hF.pure
      go_simp
      with_reducible rfl
    refine And.intro ?_ ?_
    · refine Reg.ob_pure (fun _ => rfl) rfl rfl rfl rfl (fun x w1 hF => ?_)
      have hF2 := hF
      obtain ⟨m0, m1, m2, m3, m4, m5, m6, m7⟩ := cls_cells hF.im
      obtain ⟨n0, n1, n2, n3, n4, n5, n6, n7⟩ := cls_cells hF.io
      obtain ⟨d0, d1⟩ := HCQ.out _ hF.pure
      go_simp
      with_reducible rfl
    refine And.intro ?_ ?_
    · refine Reg.ob_some (fun _ => rfl) rfl (fun x w1 hF hU K hK => ?_)
      replace hF := hF rfl
      go_simp
      exact hK _ _ (fun _ _ _ => hF.go ((Only.refl _ _).alloc _)) ((Only.refl _ _).alloc _) ⟨_, rfl, hF.pure.size, Is.made _ _ _⟩
    refine And.intro ?_ ?_
    · refine Reg.ob_some (fun _ => rfl) rfl (fun x w1 hF hU K hK => ?_)
      replace hF := hF rfl
      obtain ⟨⟨g, h15, hg, hI⟩, hO, -⟩ := hU
      have h15 : x 15 = .slice (some ⟨g, 0, none⟩) 1 1 := h15
      have hO : OwnO w0.heap.size (.slice Ao k c) l w1 := hO
      refine append_run w1 _ _ sty_ro rfl w0.heap.size (.slice Ao k c) (l.map Od.lst) rfl hO g p.lst (by simpa [Act.eval] using h15) hI rfl (by simp [Od.lst, Value.oneCell']) (by rw [List.length_map]; omega) (by decide) hF.pure.size ?_
      intro v' w' hown ho
      have hown : OwnO w0.heap.size v' (l ++ [p]) w' := by unfold OwnO; rw [List.map_append]; exact hown
      obtain ⟨A', c', rfl, -⟩ := hown.slice
      have e : (l ++ [p]).length = k + 1 := by rw [List.length_append, hl]; rfl
      rw [e] at hown
      rw [e]
      exact hK _ w' (fun _ _ _ => hF.far hO ho) trivial ⟨A', c', rfl, hown⟩
    refine And.intro ?_ ?_
    · refine Reg.ob_pure (fun _ => rfl) rfl rfl rfl rfl (fun x w1 hF => ?_)
      have hF2 := hF
      obtain ⟨m0, m1, m2, m3, m4, m5, m6, m7⟩ := cls_cells hF.im
      obtain ⟨n0, n1, n2, n3, n4, n5, n6, n7⟩ := cls_cells hF.io
      obtain ⟨d0, d1⟩ := HCQ.out _ hF.pure
      go_simp
      with_reducible rfl
    refine And.intro ?_ ?_
    · refine Reg.ob_some (fun _ => rfl) rfl (fun x w1 hF hU K hK => ?_)
      replace hF := hF rfl
      obtain ⟨⟨A', c', h16, hO⟩, -⟩ := hU
      have h16 : x 16 = .slice A' (k + 1) c' := h16
      have f4 := hF.io.free 4
      obtain ⟨n0, n1, n2, n3, n4, n5, n6, n7⟩ := cls_cells hF.io
      revert hK
      simp only [Nat.reduceAdd, h16]
      intro hK
      go_simp
      exact hK undef _ (fun _ h _ => by cases h) trivial ⟨A', c', hF.store hrb hob _, hO.stored hF.io 4 _⟩
    exact trivial
  case hF =>
    exact hG.go (only_drewN _ 1)
  case hini =>
    exact ⟨fun x => OwnO.only hown (only_drewN _ 1) (by simp), trivial⟩
  case pres =>
    intro i hi j hj hc x wx wy hF hE hW
    simp only [List.mem_cons, List.mem_nil_iff, or_false] at hi hj
    rcases hi with rfl | rfl | rfl <;> rcases hj with rfl | rfl | rfl | rfl
    all_goals first
      | (exfalso; revert hc; decide)
      | (obtain ⟨g, h1, h2, h3⟩ := hW; exact ⟨g, h1, h2, h3.only hE (by simp)⟩)
      | (obtain ⟨A', c', h1, h2⟩ := hW; exact ⟨A', c', h1, OwnO.only h2 hE (by simp)⟩)
      | exact OwnO.only hW hE (by simp)
  case fin =>
    rintro x w9 hF hU
    obtain ⟨hQ, -⟩ := hU
    repeat apply Exists.intro
    exact ⟨rfl, rfl, hQ⟩

set_option maxRecDepth 100000 in
set_option maxHeartbeats 4000000 in
theorem ref5 (m : Ms) (p1 s1 vp : Value) (q o e1 Lo k c : Nat) (Ao : Option Addr) (mb rb ob : Nat) (p : Od) (l : List Od) (w0 : World) (hp : p.Fit) (hk : k < Lo) (hLo : Lo ≤ 100000) (hlo : Lo ≤ e1) (hl : l.length = k) (hob : w0.heap.size ≤ ob) (hrb : rb ≠ ob) (u0 u2 u5 u6 u7 u8 u9 u10 u11 u12 u13 u14 u15 u16 u17 u18 u19 u20 u21 u22 u23 u24 u25 u26 u27 u28 u29 u30 u31 u32 u33 u34 u35 u36 u37 u38 u39 u40 u41 u42 u43 u44 u45 u46 u47 u48 u49 u50 : Value) (Q : Exit → Act → World → Prop) (w : World) (hCQ : ∀ wx, Only (fun _ => False) w0 wx → wx.cell? ⟨q, o + k * 2, none⟩ = some (.int .u32 (p.ssrc : Nat)) ∧ wx.cell? ⟨q, o + k * 2 + 1, none⟩ = some (.int .u8 (p.no : Nat))) (hG : Rg m p1 (.slice (some ⟨q, o, none⟩) Lo e1) s1 vp (.slice Ao k c) mb rb ob w0 w) (hown : OwnO w0.heap.size (.slice Ao k c) l w)
    (hend : ∀ (y26 y27 y28 y29 y30 y31 y32 y33 y34 y35 y36 y37 y38 y39 y40 y41 y42 y43 : Value) (w' : World), (∃ A' c', Rg m p1 (.slice (some ⟨q, o, none⟩) Lo e1) s1 vp (.slice A' (k + 1) c') mb rb ob w0 w' ∧ OwnO w0.heap.size (.slice A' (k + 1) c') (l ++ [p]) w') → Q .normal ⟨(List.toArray (u0 :: .pointer (some ⟨mb, 0, none⟩) :: u2 :: .pointer (some ⟨ob, 0, none⟩) :: .int .i64 (k : Int) :: u5 :: u6 :: u7 :: u8 :: u9 :: u10 :: u11 :: u12 :: u13 :: u14 :: u15 :: u16 :: u17 :: u18 :: u19 :: u20 :: u21 :: u22 :: u23 :: u24 :: u25 :: y26 :: y27 :: y28 :: y29 :: y30 :: y31 :: y32 :: y33 :: y34 :: y35 :: y36 :: y37 :: y38 :: y39 :: y40 :: y41 :: y42 :: y43 :: u44 :: u45 :: u46 :: u47 :: u48 :: u49 :: u50 :: [])), []⟩ w') :
    Code.wp Try.prog ref5_code Q ⟨(List.toArray (u0 :: .pointer (some ⟨mb, 0, none⟩) :: u2 :: .pointer (some ⟨ob, 0, none⟩) :: .int .i64 (k : Int) :: u5 :: u6 :: u7 :: u8 :: u9 :: u10 :: u11 :: u12 :: u13 :: u14 :: u15 :: u16 :: u17 :: u18 :: u19 :: u20 :: u21 :: u22 :: u23 :: u24 :: u25 :: u26 :: u27 :: u28 :: u29 :: u30 :: u31 :: u32 :: u33 :: u34 :: u35 :: u36 :: u37 :: u38 :: u39 :: u40 :: u41 :: u42 :: u43 :: u44 :: u45 :: u46 :: u47 :: u48 :: u49 :: u50 :: [])), []⟩ w := by
  refine wp_mono (ref5_in m p1 s1 vp q o e1 Lo k c Ao mb rb ob p l w0 hp hk hLo hlo hl hob hrb _ _ _ _ _ _ _ _ _ _ _ _ _ _ _ _ _ _ _ _ _ _ _ _ _ _ _ _ _ _ _ _ _ _ _ _ _ _ _ _ _ _ _ _ _ _ _ _ w hCQ hG hown) ?_
  rintro e a w' h
  obtain ⟨y26, h⟩ := h
  obtain ⟨y27, h⟩ := h
  obtain ⟨y28, h⟩ := h
  obtain ⟨y29, h⟩ := h
  obtain ⟨y30, h⟩ := h
  obtain ⟨y31, h⟩ := h
  obtain ⟨y32, h⟩ := h
  obtain ⟨y33, h⟩ := h
  obtain ⟨y34, h⟩ := h
  obtain ⟨y35, h⟩ := h
  obtain ⟨y36, h⟩ := h
  obtain ⟨y37, h⟩ := h
  obtain ⟨y38, h⟩ := h
  obtain ⟨y39, h⟩ := h
  obtain ⟨y40, h⟩ := h
  obtain ⟨y41, h⟩ := h
  obtain ⟨y42, h⟩ := h
  obtain ⟨y43, h⟩ := h
  obtain ⟨h, rfl, hq⟩ := h
  subst h
  exact hend y26 y27 y28 y29 y30 y31 y32 y33 y34 y35 y36 y37 y38 y39 y40 y41 y42 y43 w' hq
end Go.Proofs.Ytefcimkopgcagaa
