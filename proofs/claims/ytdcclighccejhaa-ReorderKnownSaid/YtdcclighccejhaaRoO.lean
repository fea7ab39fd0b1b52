/- reorder: In. Conditions: as each says. -/
import Derived.Test.YtdcclighccejhaaRoP
set_option linter.unusedVariables false
set_option linter.unusedSimpArgs false
namespace Go.Proofs.Ytdcclighccejhaa
open Go Go.RowKit

/-- Amid In: the buffer, and the packet's box. -/
def InF (b pb B : Nat) (m : Bf) (v : Value) (us : List V3) (cs : Array Value) (w1 wx : World) : Prop := Bfr wx b m v us B ∧ Is wx pb 42 cs ∧ Only (fun _ => False) w1 wx
theorem InF.go {b pb B : Nat} {m : Bf} {v : Value} {us : List V3} {cs : Array Value} {w1 wx wy : World} (h : InF b pb B m v us cs w1 wx) (ho : Only (fun _ => False) wx wy) : InF b pb B m v us cs w1 wy := ⟨h.1.pure ho, h.2.1.only ho (by simp), h.2.2.trans ho (fun _ _ e => e)⟩
/-- One more lies in the row. -/
def InW (B k : Nat) (xss : List (List Value)) (x : Wt) (v v2 : Value) (w1 w2 : World) (u : V3) : Prop :=
  OwnS w2 B 79 13 v2 (xss.take k ++ x.cls u :: xss.drop k) ∧ OwnPk w1.heap.size x.p u.1 u.2.1 u.2.2 w2 ∧ Only (fun j => v.ownBlock = some j) w1 w2
theorem OwnPk.low {B B' : Nat} {p : Pk} {vc ve vp : Value} {w : World} (h : OwnPk B p vc ve vp w) (hB : B' ≤ B) : OwnPk B' p vc ve vp w := ⟨owned_low h.1 hB, owned_low h.2.1 hB, owned_low h.2.2 hB⟩
theorem OwnPk.blk {B : Nat} {p : Pk} {u : V3} {w : World} (h : OwnPk B p u.1 u.2.1 u.2.2 w) : ∀ k, Blk u k → B ≤ k ∧ k < w.heap.size := by
  rintro k (e | e | e)
  · exact World.ownsRow.lt h.1 k e
  · exact World.ownsRow.lt h.2.1 k e
  · exact World.ownsRow.lt h.2.2 k e
def ri8_A : List (List Nat) := ([] :: [] :: [1] :: [2, 1] :: [3, 2, 1] :: [] :: [] :: [] :: [] :: [8] :: [6, 7, 9, 8] :: [10, 6, 7, 9, 8] :: (4 :: 5 :: 11 :: 9 :: 3 :: 2 :: 1 :: 10 :: 6 :: 7 :: 8 :: []) :: (0 :: 1 :: 2 :: 3 :: 4 :: 5 :: 6 :: 7 :: 8 :: 9 :: 10 :: 11 :: 12 :: []) :: (13 :: 0 :: 1 :: 2 :: 3 :: 4 :: 5 :: 6 :: 7 :: 8 :: 9 :: 10 :: 11 :: 12 :: []) :: (14 :: 12 :: 0 :: 1 :: 2 :: 3 :: 4 :: 5 :: 6 :: 7 :: 8 :: 9 :: 10 :: 11 :: 13 :: []) :: [])
def ri8_kill : List (List Nat) := ([] :: [] :: [] :: [] :: [] :: [] :: [] :: [] :: [] :: [] :: [] :: [] :: [9, 10, 11] :: [] :: [] :: [9, 10, 11, 12] :: [])
def ri8_uses : List (List Nat) := ([] :: [] :: [] :: [] :: [] :: [] :: [] :: [] :: [] :: [] :: [9] :: [10] :: [11] :: [] :: [] :: [12] :: [])
noncomputable def ri8_code : Code := ((Try.f16.body.bind (codeRegion 8)).getD .skip)
set_option maxRecDepth 100000 in
set_option maxHeartbeats 4000000 in
theorem ri8_in (b pb B n now k : Nat) (p : Pk) (vc ve vp : Value) (m : Bf) (v : Value) (us : List V3) (w1 : World) (hB : Bfr w1 b m v us B) (hpb : Is w1 pb 42 (p.cls vc ve vp)) (hk : k ≤ m.ws.length) (hL : m.ws.length ≤ 256) (hBs : B ≤ w1.heap.size) (hcp : ∀ wx, Only (fun _ => False) w1 wx → Calls Try.prog 34 #[.agg (p.cls vc ve vp)] wx (GotCopy p wx)) (u2 u4 u5 u7 u8 u9 u11 u12 u13 u14 u15 u16 u17 u18 u19 u20 u21 u22 u23 u24 u25 u26 u27 u28 u29 u30 u31 u32 u33 u34 u35 u36 u37 u38 u39 u40 u41 u42 u43 u44 u45 u46 u47 u48 u49 u50 u51 u52 u53 u54 u55 u56 u57 u58 u59 u60 u61 u62 u63 u64 u65 u66 u67 u68 u69 u70 u71 u72 u73 u74 u75 : Value) (w0 : World) (hw0 : w1 = w0) :
    Code.wp Try.prog ri8_code (fun e a w' => ∃ y49 y50 y51 y52 y53 y54 y55 y56 y57 y58 y59 y60 y61 y62 y63 : Value, a = ⟨(List.toArray (.pointer (some ⟨b, 0, none⟩) :: .int .u64 (n : Int) :: u2 :: .int .u64 (now : Int) :: u4 :: u5 :: .pointer (some ⟨pb, 0, none⟩) :: u7 :: u8 :: u9 :: .int .i64 (k : Int) :: u11 :: u12 :: u13 :: u14 :: u15 :: u16 :: u17 :: u18 :: u19 :: u20 :: u21 :: u22 :: u23 :: u24 :: u25 :: u26 :: u27 :: u28 :: u29 :: u30 :: u31 :: u32 :: u33 :: u34 :: u35 :: u36 :: u37 :: u38 :: u39 :: u40 :: u41 :: u42 :: u43 :: u44 :: u45 :: u46 :: u47 :: u48 :: y49 :: y50 :: y51 :: y52 :: y53 :: y54 :: y55 :: y56 :: y57 :: y58 :: y59 :: y60 :: y61 :: y62 :: y63 :: u64 :: u65 :: u66 :: u67 :: u68 :: u69 :: u70 :: u71 :: u72 :: u73 :: u74 :: u75 :: [])), []⟩ ∧ e = .normal ∧ (∃ u w2 v2, InW B k (wtRows m.ws us) ⟨n, now, p⟩ v v2 w1 w2 u ∧ w' = w2.setCell ⟨b, 4, none⟩ v2)) ⟨(List.toArray (.pointer (some ⟨b, 0, none⟩) :: .int .u64 (n : Int) :: u2 :: .int .u64 (now : Int) :: u4 :: u5 :: .pointer (some ⟨pb, 0, none⟩) :: u7 :: u8 :: u9 :: .int .i64 (k : Int) :: u11 :: u12 :: u13 :: u14 :: u15 :: u16 :: u17 :: u18 :: u19 :: u20 :: u21 :: u22 :: u23 :: u24 :: u25 :: u26 :: u27 :: u28 :: u29 :: u30 :: u31 :: u32 :: u33 :: u34 :: u35 :: u36 :: u37 :: u38 :: u39 :: u40 :: u41 :: u42 :: u43 :: u44 :: u45 :: u46 :: u47 :: u48 :: u49 :: u50 :: u51 :: u52 :: u53 :: u54 :: u55 :: u56 :: u57 :: u58 :: u59 :: u60 :: u61 :: u62 :: u63 :: u64 :: u65 :: u66 :: u67 :: u68 :: u69 :: u70 :: u71 :: u72 :: u73 :: u74 :: u75 :: [])), []⟩ w0 := by
  conv => arg 2; whnf
  subst hw0
  have HCP := Lib.hid hcp
  have HB := Lib.hid hB
  have HINS := Lib.hid (show ∀ wx, InF b pb B m v us (p.cls vc ve vp) w1 wx → ∀ vc1 ve1 vp1 g, Is wx g 79 (Wt.cls ⟨n, now, p⟩ (vc1, ve1, vp1)).toArray → OwnPk w1.heap.size p vc1 ve1 vp1 wx → w1.heap.size ≤ g → Calls Try.prog 33 #[v, .int .i64 (k : Int), .slice (some ⟨g, 0, none⟩) 1 1] wx (fun e w5 => ∃ u v2, e = .returned v2 ∧ InW B k (wtRows m.ws us) ⟨n, now, p⟩ v v2 w1 w5 u) from fun wx hF vc1 ve1 vp1 g hI hO hg => by
    refine (insert_is v m.ws.length k g B (wtRows m.ws us) (Wt.cls ⟨n, now, p⟩ (vc1, ve1, vp1)) wx hF.1.row (wtRows_length hF.1.pks.len) hk hI rfl (Wt.cls_one ⟨n, now, p⟩ (u := (vc1, ve1, vp1)) hO) hF.1.cells_one (fun e => by have := (hB.row.lt g e).2; omega) (by omega) (Nat.le_trans hBs hF.2.2.size)).mono ?_
    rintro e w5 ⟨v2, rfl, hS, hOn⟩
    refine ⟨(vc1, ve1, vp1), v2, rfl, hS, OwnPk.only_of (p := p) (u := (vc1, ve1, vp1)) hO hOn (fun j hj e => ?_), (hF.2.2.mono (fun _ _ e => e.elim)).trans hOn (fun _ _ e => e)⟩
    have h1 := (OwnPk.blk (p := p) (u := (vc1, ve1, vp1)) hO j hj).1
    have h2 := (hB.row.lt j e).2
    omega)
  clear hcp
  refine wp_region_posts ri8_A [9, 11, 12, 15] [9, 10, 11, 12, 15] ri8_kill ri8_uses [15] [12] [0, 13, 14, 15] []
      (some ?v0 :: some ?v1 :: some ?v2 :: some ?v3 :: some ?v4 :: some ?v5 :: some ?v6 :: some ?v7 :: some ((.agg (p.cls vc ve vp))) :: none :: none :: none :: none :: some ?v13 :: some ?v14 :: none :: [])
      ?T (fun wx => InF b pb B m v us (p.cls vc ve vp) w1 wx) ?W ?E (by kernel_rfl) (by kernel_rfl) (by kernel_rfl) (fun x => ?hT) ?hF ?hini (Reg.all_ops ?runs) ?pres ?fin
  case W => exact fun j x w' => match j with | 9 => ∃ vc1 ve1 vp1, x 9 = .agg (p.cls vc1 ve1 vp1) ∧ OwnPk w1.heap.size p vc1 ve1 vp1 w' | 10 => ∃ vc1 ve1 vp1, x 10 = .agg #[.int .u64 (n : Int), .int .u64 (now : Int), .bool p.marker, .int .u8 p.ty, .int .u16 p.seq, .int .u32 p.time, .int .u32 p.ssrc, vc1, .bool p.hasExt, .int .u16 p.profile, ve1, vp1, .int .u8 p.pad] ∧ OwnPk w1.heap.size p vc1 ve1 vp1 w' | 11 => ∃ vc1 ve1 vp1 g, x 11 = .slice (some ⟨g, 0, none⟩) 1 1 ∧ Is w' g 79 #[.int .u64 (n : Int), .int .u64 (now : Int), .bool p.marker, .int .u8 p.ty, .int .u16 p.seq, .int .u32 p.time, .int .u32 p.ssrc, vc1, .bool p.hasExt, .int .u16 p.profile, ve1, vp1, .int .u8 p.pad] ∧ OwnPk w1.heap.size p vc1 ve1 vp1 w' ∧ w1.heap.size ≤ g | 12 => ∃ u A2 n2 c2, x 12 = .slice A2 n2 c2 ∧ InW B k (wtRows m.ws us) ⟨n, now, p⟩ v (.slice A2 n2 c2) w1 w' u | 15 => ∃ u w2 v2, InW B k (wtRows m.ws us) ⟨n, now, p⟩ v v2 w1 w2 u ∧ w' = w2.setCell ⟨b, 4, none⟩ v2 | _ => True
  case E => exact fun i wx wy => match i with | 9 => Only (fun _ => False) wx wy | 11 => Only (fun _ => False) wx wy | _ => True
  case hT =>
    simp only [Reg.fillV, Act.put, List.setIfInBounds_toArray, List.set_cons_zero, List.set_cons_succ]
    rfl
  case runs =>
    refine And.intro ?_ ?_
    · refine Reg.ob_bare (fun _ => rfl) rfl rfl rfl (fun x w1x => ?_)
      go_simp
      with_reducible rfl
    refine And.intro ?_ ?_
    · refine Reg.ob_pure (fun _ => rfl) rfl rfl rfl rfl (fun x w1x hF => ?_)
      have c4 := hF.1.list
      go_simp
      with_reducible rfl
    refine And.intro ?_ ?_
    · refine Reg.ob_pure (fun _ => rfl) rfl rfl rfl rfl (fun x w1x hF => ?_)
      have c4 := hF.1.list
      go_simp
      with_reducible rfl
    refine And.intro ?_ ?_
    · refine Reg.ob_pure (fun _ => rfl) rfl rfl rfl rfl (fun x w1x hF => ?_)
      have c4 := hF.1.list
      go_simp
      with_reducible rfl
    refine And.intro ?_ ?_
    · refine Reg.ob_pure (fun _ => rfl) rfl rfl rfl rfl (fun x w1x hF => ?_)
      have c4 := hF.1.list
      go_simp
      with_reducible rfl
    refine And.intro ?_ ?_
    · refine Reg.ob_pure (fun _ => rfl) rfl rfl rfl rfl (fun x w1x hF => ?_)
      have c4 := hF.1.list
      go_simp
      with_reducible rfl
    refine And.intro ?_ ?_
    · refine Reg.ob_pure (fun _ => rfl) rfl rfl rfl rfl (fun x w1x hF => ?_)
      have c4 := hF.1.list
      go_simp
      with_reducible rfl
    refine And.intro ?_ ?_
    · refine Reg.ob_pure (fun _ => rfl) rfl rfl rfl rfl (fun x w1x hF => ?_)
      have c4 := hF.1.list
      go_simp
      with_reducible rfl
    refine And.intro ?_ ?_
    · refine Reg.ob_known (fun _ => rfl) rfl rfl (fun x w1x hF hU K hK => ?_)
      refine wp_load_row 42 _ rfl pb rfl _ (p.cls vc ve vp) (0, 0) _ (hF rfl).2.1 Try.underlying42 rfl Try.sizePq ?_
      exact hK w1x (fun h _ _ => absurd h (by decide)) rfl
    refine And.intro ?_ ?_
    · refine Reg.ob_some (fun _ => rfl) rfl (fun x w1x hF hU K hK => ?_)
      replace hF := hF rfl
      have HT := HCP.out w1x hF.2.2
      go_simp
      refine HT.mono ?_
      rintro e w5 ⟨vc1, ve1, vp1, rfl, hO, ho⟩
      exact hK _ w5 (fun _ _ _ => hF.go ho) ho ⟨vc1, ve1, vp1, rfl, hO.low hF.2.2.size⟩
    refine And.intro ?_ ?_
    · refine Reg.ob_some (fun _ => rfl) rfl (fun x w1x hF hU K hK => ?_)
      obtain ⟨⟨vc1, ve1, vp1, hx, hO⟩, -⟩ := hU
      have hx : x 9 = .agg #[.bool p.marker, .int .u8 p.ty, .int .u16 p.seq, .int .u32 p.time, .int .u32 p.ssrc, vc1, .bool p.hasExt, .int .u16 p.profile, ve1, vp1, .int .u8 p.pad] := hx
      revert hK
      simp only [Nat.reduceAdd, hx]
      intro hK
      go_simp
      exact hK _ w1x (fun h _ _ => absurd h (by decide)) rfl ⟨vc1, ve1, vp1, rfl, hO⟩
    refine And.intro ?_ ?_
    · refine Reg.ob_some (fun _ => rfl) rfl (fun x w1x hF hU K hK => ?_)
      replace hF := hF rfl
      obtain ⟨⟨vc1, ve1, vp1, hx, hO⟩, -⟩ := hU
      have hx : x 10 = .agg #[.int .u64 (n : Int), .int .u64 (now : Int), .bool p.marker, .int .u8 p.ty, .int .u16 p.seq, .int .u32 p.time, .int .u32 p.ssrc, vc1, .bool p.hasExt, .int .u16 p.profile, ve1, vp1, .int .u8 p.pad] := hx
      revert hK
      simp only [Nat.reduceAdd, hx]
      intro hK
      go_simp
      exact hK _ _ (fun _ _ _ => hF.go ((Only.refl _ _).alloc _)) ((Only.refl _ _).alloc _) ⟨vc1, ve1, vp1, w1x.heap.size, rfl, Is.made _ _ _, hO.only ((Only.refl _ _).alloc _), hF.2.2.size⟩
    refine And.intro ?_ ?_
    · refine Reg.ob_some (fun _ => rfl) rfl (fun x w1x hF hU K hK => ?_)
      replace hF := hF rfl
      obtain ⟨⟨vc1, ve1, vp1, g, hx, hI, hO, hg⟩, -⟩ := hU
      have hx : x 11 = .slice (some ⟨g, 0, none⟩) 1 1 := hx
      have HT := Lib.hid (HINS.out w1x hF vc1 ve1 vp1 g hI hO hg)
      revert hK
      simp only [Nat.reduceAdd, hx]
      intro hK
      clear hI hO hg
      go_simp
      refine HT.out.mono ?_
      rintro e w5 ⟨u, v2, rfl, hS⟩
      obtain ⟨A2, c2, rfl, -⟩ := hS.1.slice
      exact hK _ w5 (fun _ h h' => by first | exact absurd h (by decide) | exact absurd h' (by decide)) trivial ⟨u, A2, _, c2, rfl, hS⟩
    refine And.intro ?_ ?_
    · refine Reg.ob_bare (fun _ => rfl) rfl rfl rfl (fun x w1x => ?_)
      go_simp
      with_reducible rfl
    refine And.intro ?_ ?_
    · refine Reg.ob_bare (fun _ => rfl) rfl rfl rfl (fun x w1x => ?_)
      go_simp
      with_reducible rfl
    refine And.intro ?_ ?_
    · refine Reg.ob_some (fun _ => rfl) rfl (fun x w1x hF hU K hK => ?_)
      obtain ⟨⟨u, A2, n2, c2, hx, hS⟩, -⟩ := hU
      have hx : x 12 = .slice A2 n2 c2 := hx
      have I1 : Is w1x b 65 (bfCells m v) := HB.out.is.only hS.2.2 (fun e => HB.out.row_ne e)
      have ff := I1.free 4
      have cf : w1x.cell? ⟨b, 4, none⟩ = some v := I1.cell 4
      revert hK
      simp only [Nat.reduceAdd, hx]
      intro hK
      go_simp
      exact hK undef _ (fun _ h h' => by first | exact absurd h (by decide) | exact absurd h' (by decide)) trivial ⟨u, w1x, _, hS, rfl⟩
    exact trivial
  case hF =>
    exact (show InF b pb B m v us (p.cls vc ve vp) w1 w1 from ⟨hB, hpb, Only.refl _ _⟩).go ((Only.refl _ _).drewN 1)
  case hini =>
    exact trivial
  case pres =>
    intro i hi j hj hc x wx wy hF hE hW
    simp only [List.mem_cons, List.mem_nil_iff, or_false] at hi hj
    rcases hi with rfl | rfl | rfl | rfl <;> rcases hj with rfl | rfl | rfl | rfl | rfl
    all_goals first
      | (exfalso; revert hc; decide)
      | (obtain ⟨a1, a2, a3, h0, h1⟩ := hW; exact ⟨a1, a2, a3, h0, h1.only hE⟩)
      | (obtain ⟨a1, a2, a3, g, h0, h1, h2, h3⟩ := hW; exact ⟨a1, a2, a3, g, h0, h1.only hE (by simp), h2.only hE, h3⟩)
  case fin =>
    rintro x w9 hF hU
    obtain ⟨hQ, -⟩ := hU
    repeat apply Exists.intro
    exact ⟨rfl, rfl, hQ⟩

set_option maxRecDepth 100000 in
set_option maxHeartbeats 4000000 in
theorem ri8 (b pb B n now k : Nat) (p : Pk) (vc ve vp : Value) (m : Bf) (v : Value) (us : List V3) (w1 : World) (hB : Bfr w1 b m v us B) (hpb : Is w1 pb 42 (p.cls vc ve vp)) (hk : k ≤ m.ws.length) (hL : m.ws.length ≤ 256) (hBs : B ≤ w1.heap.size) (hcp : ∀ wx, Only (fun _ => False) w1 wx → Calls Try.prog 34 #[.agg (p.cls vc ve vp)] wx (GotCopy p wx)) (u2 u4 u5 u7 u8 u9 u11 u12 u13 u14 u15 u16 u17 u18 u19 u20 u21 u22 u23 u24 u25 u26 u27 u28 u29 u30 u31 u32 u33 u34 u35 u36 u37 u38 u39 u40 u41 u42 u43 u44 u45 u46 u47 u48 u49 u50 u51 u52 u53 u54 u55 u56 u57 u58 u59 u60 u61 u62 u63 u64 u65 u66 u67 u68 u69 u70 u71 u72 u73 u74 u75 : Value) (Q : Exit → Act → World → Prop) (w0 : World) (hw0 : w1 = w0)
    (hend : ∀ (y49 y50 y51 y52 y53 y54 y55 y56 y57 y58 y59 y60 y61 y62 y63 : Value) (w' : World), (∃ u w2 v2, InW B k (wtRows m.ws us) ⟨n, now, p⟩ v v2 w1 w2 u ∧ w' = w2.setCell ⟨b, 4, none⟩ v2) → Q .normal ⟨(List.toArray (.pointer (some ⟨b, 0, none⟩) :: .int .u64 (n : Int) :: u2 :: .int .u64 (now : Int) :: u4 :: u5 :: .pointer (some ⟨pb, 0, none⟩) :: u7 :: u8 :: u9 :: .int .i64 (k : Int) :: u11 :: u12 :: u13 :: u14 :: u15 :: u16 :: u17 :: u18 :: u19 :: u20 :: u21 :: u22 :: u23 :: u24 :: u25 :: u26 :: u27 :: u28 :: u29 :: u30 :: u31 :: u32 :: u33 :: u34 :: u35 :: u36 :: u37 :: u38 :: u39 :: u40 :: u41 :: u42 :: u43 :: u44 :: u45 :: u46 :: u47 :: u48 :: y49 :: y50 :: y51 :: y52 :: y53 :: y54 :: y55 :: y56 :: y57 :: y58 :: y59 :: y60 :: y61 :: y62 :: y63 :: u64 :: u65 :: u66 :: u67 :: u68 :: u69 :: u70 :: u71 :: u72 :: u73 :: u74 :: u75 :: [])), []⟩ w') :
    Code.wp Try.prog ri8_code Q ⟨(List.toArray (.pointer (some ⟨b, 0, none⟩) :: .int .u64 (n : Int) :: u2 :: .int .u64 (now : Int) :: u4 :: u5 :: .pointer (some ⟨pb, 0, none⟩) :: u7 :: u8 :: u9 :: .int .i64 (k : Int) :: u11 :: u12 :: u13 :: u14 :: u15 :: u16 :: u17 :: u18 :: u19 :: u20 :: u21 :: u22 :: u23 :: u24 :: u25 :: u26 :: u27 :: u28 :: u29 :: u30 :: u31 :: u32 :: u33 :: u34 :: u35 :: u36 :: u37 :: u38 :: u39 :: u40 :: u41 :: u42 :: u43 :: u44 :: u45 :: u46 :: u47 :: u48 :: u49 :: u50 :: u51 :: u52 :: u53 :: u54 :: u55 :: u56 :: u57 :: u58 :: u59 :: u60 :: u61 :: u62 :: u63 :: u64 :: u65 :: u66 :: u67 :: u68 :: u69 :: u70 :: u71 :: u72 :: u73 :: u74 :: u75 :: [])), []⟩ w0 := by
  refine wp_mono (ri8_in b pb B n now k p vc ve vp m v us w1 hB hpb hk hL hBs hcp _ _ _ _ _ _ _ _ _ _ _ _ _ _ _ _ _ _ _ _ _ _ _ _ _ _ _ _ _ _ _ _ _ _ _ _ _ _ _ _ _ _ _ _ _ _ _ _ _ _ _ _ _ _ _ _ _ _ _ _ _ _ _ _ _ _ _ _ _ _ _ w0 hw0) ?_
  rintro e a w' h
  obtain ⟨y49, h⟩ := h
  obtain ⟨y50, h⟩ := h
  obtain ⟨y51, h⟩ := h
  obtain ⟨y52, h⟩ := h
  obtain ⟨y53, h⟩ := h
  obtain ⟨y54, h⟩ := h
  obtain ⟨y55, h⟩ := h
  obtain ⟨y56, h⟩ := h
  obtain ⟨y57, h⟩ := h
  obtain ⟨y58, h⟩ := h
  obtain ⟨y59, h⟩ := h
  obtain ⟨y60, h⟩ := h
  obtain ⟨y61, h⟩ := h
  obtain ⟨y62, h⟩ := h
  obtain ⟨y63, h⟩ := h
  obtain ⟨h, rfl, hq⟩ := h
  subst h
  exact hend y49 y50 y51 y52 y53 y54 y55 y56 y57 y58 y59 y60 y61 y62 y63 w' hq
/-- A buffer as calls leave it. -/
structure Bf.Good (m : Bf) : Prop where
  one : 1 ≤ m.size
  le : m.size ≤ 256
  hold : m.hold < 18446744073709551616
  len : m.ws.length ≤ m.size
  nums : ∀ x ∈ m.ws, x.n ≤ 4611686018427387904 ∧ x.came < 18446744073709551616
  rise : ∀ (i j : Nat) (x y : Wt), i < j → m.ws[i]? = Option.some x → m.ws[j]? = Option.some y → x.n < y.n
  emp : m.some = false → m.ws = []
  lt : m.some = true → ∀ x ∈ m.ws, m.last < x.n
  top : m.some = true → m.last ≤ 4611686018427387904
  last : m.last < 18446744073709551616
theorem Bf.Good.nx_some {m : Bf} (h : m.Good) (hs : m.some = true) : m.nx = m.last + 1 := by
  have := h.top hs
  unfold Bf.nx
  omega
theorem Bf.Good.ok {m : Bf} (h : m.Good) : m.Ok := by
  refine ⟨⟨h.one, h.le, h.hold, h.last, by have := h.len; have := h.le; omega, fun x hx => ⟨by have := (h.nums x hx).1; omega, (h.nums x hx).2⟩, h.rise⟩, fun x hx => by have := (h.nums x hx).1; omega, fun x hx => ?_⟩
  cases hs : m.some with
  | true => rw [h.nx_some hs]; exact h.lt hs x hx
  | false => rw [h.emp hs] at hx; simp at hx
/-- May a packet of that number come? -/
def Bf.takes (m : Bf) (n : Nat) : Prop := (∀ x ∈ m.ws, x.n ≠ n) ∧ (m.some = true → m.last < n)
theorem ins_nx {m : Bf} (h : m.Good) (x : Wt) (hx : x.n ≤ 4611686018427387904) : (m.ins x).nx = if m.some then m.last + 1 else x.n := by
  unfold Bf.ins Bf.begun
  cases hs : m.some with
  | true => simp only [if_pos]; exact h.nx_some hs
  | false => simp only [if_neg (Bool.false_ne_true)]; unfold Bf.nx; simp only; omega
theorem tw_lt : ∀ (ws : List Wt) (n i : Nat) (x : Wt), i < (ws.takeWhile fun y => decide (y.n < n)).length → ws[i]? = some x → x.n < n
  | [], n, i, x, hi, hx => by simp at hx
  | y :: ws, n, i, x, hi, hx => by
    by_cases hy : y.n < n
    · rw [List.takeWhile_cons, if_pos (by simpa using hy), List.length_cons] at hi
      cases i with
      | zero => simp at hx; subst hx; exact hy
      | succ i => exact tw_lt ws n i x (by omega) (by simpa using hx)
    · rw [List.takeWhile_cons, if_neg (by simpa using hy)] at hi
      simp at hi
theorem tw_ge : ∀ (ws : List Wt) (n : Nat) (x : Wt), ws[(ws.takeWhile fun y => decide (y.n < n)).length]? = some x → n ≤ x.n
  | [], n, x, hx => by simp at hx
  | y :: ws, n, x, hx => by
    by_cases hy : y.n < n
    · rw [List.takeWhile_cons, if_pos (by simpa using hy), List.length_cons, List.getElem?_cons_succ] at hx
      exact tw_ge ws n x hx
    · rw [List.takeWhile_cons, if_neg (by simpa using hy)] at hx
      simp at hx
      subst hx
      omega
theorem pos_lt (m : Bf) (n : Nat) {i : Nat} {x : Wt} (hi : i < m.pos n) (hx : m.ws[i]? = some x) : x.n < n := tw_lt _ _ _ _ hi hx
theorem pos_ge {m : Bf} (h : m.Good) (n : Nat) {i : Nat} {x : Wt} (hi : m.pos n ≤ i) (hx : m.ws[i]? = some x) : n ≤ x.n := by
  have hl := (List.getElem?_eq_some_iff.1 hx).1
  have hp : m.pos n < m.ws.length := by omega
  have h0 : n ≤ (m.ws[m.pos n]).n := tw_ge m.ws n _ (List.getElem?_eq_getElem hp)
  rcases Nat.lt_or_ge (m.pos n) i with hlt | hge
  · have := h.rise _ _ _ _ hlt (List.getElem?_eq_getElem hp) hx
    omega
  · obtain rfl : i = m.pos n := by omega
    rw [List.getElem?_eq_getElem hp] at hx
    injection hx with hx
    rw [← hx]
    exact h0
theorem ins_ok {m : Bf} (h : m.Good) (x : Wt) (hx : x.n ≤ 4611686018427387904) (hc : x.came < 18446744073709551616) (ht : m.takes x.n) : (m.ins x).Ok := by
  have hle := h.le
  have hlen := h.len
  have hpl := pos_le m x.n
  have hw : (m.ins x).ws = insAt m.ws (m.pos x.n) x := rfl
  have hmem : ∀ y ∈ (m.ins x).ws, y = x ∨ y ∈ m.ws := fun y hy => mem_insAt (by rw [← hw]; exact hy)
  have hnx := ins_nx h x hx
  refine ⟨⟨?_, ?_, ?_, ?_, ?_, ?_, ?_⟩, ?_, ?_⟩
  · show 1 ≤ (m.begun x.n).size
    rw [begun_size]
    exact h.one
  · show (m.begun x.n).size ≤ 256
    rw [begun_size]
    exact hle
  · show (m.begun x.n).hold < _
    rw [begun_hold]
    exact h.hold
  · show (m.begun x.n).last < _
    unfold Bf.begun
    split
    · exact h.last
    · exact Nat.mod_lt _ (by decide)
  · rw [hw, insAt_length _ _ _ hpl]
    omega
  · intro y hy
    rcases hmem y hy with rfl | hy
    · exact ⟨by omega, hc⟩
    · have := h.nums y hy
      exact ⟨by omega, this.2⟩
  · intro i j a c hij ha hcc
    rw [hw, insAt_get _ _ _ hpl] at ha hcc
    split at ha
    · rename_i h1
      split at hcc
      · exact h.rise i j a c hij ha hcc
      · rename_i h2
        split at hcc
        · injection hcc with hcc
          subst hcc
          exact pos_lt m _ h1 ha
        · rename_i h3
          exact h.rise i (j - 1) a c (by omega) ha hcc
    · rename_i h1
      split at ha
      · rename_i h2
        injection ha with ha
        subst ha
        rw [if_neg (by omega), if_neg (by omega)] at hcc
        have h4 := pos_ge h x.n (show m.pos x.n ≤ j - 1 by omega) hcc
        have h5 := ht.1 c (List.mem_of_getElem? hcc)
        omega
      · rename_i h2
        rw [if_neg (by omega), if_neg (by omega)] at hcc
        exact h.rise (i - 1) (j - 1) a c (by omega) ha hcc
  · intro y hy
    rcases hmem y hy with rfl | hy
    · omega
    · have := h.nums y hy
      omega
  · intro y hy
    rw [hnx]
    cases hs : m.some with
    | true =>
      simp only [if_pos]
      rcases hmem y hy with rfl | hy
      · exact ht.2 hs
      · exact h.lt hs y hy
    | false =>
      simp only [Bool.false_eq_true, if_false]
      rw [hw, h.emp hs] at hy
      rcases mem_insAt hy with rfl | hy
      · exact Nat.le_refl _
      · simp at hy
/-- What In leaves, where the packet was taken. -/
def InLeft (b B : Nat) (m : Bf) (v : Value) (us : List V3) (x : Wt) (w : World) (e : Ending) (w' : World) : Prop :=
  ∃ (vo : Value) (u : V3), e = .returned (.tuple #[vo, .bool true]) ∧ (∀ k, Blk u k → w.heap.size ≤ k) ∧
    ∃ out, out = lvOf ((m.ws.length : Int) + 1 - m.size) 0 (items (m.ins x).nx (m.ins x).ws (insAt us (m.pos x.n) u)) ∧
      OwnS w' w.heap.size 62 14 vo (out.map It.cls) ∧ (∃ v', Bfr w' b ((m.ins x).gone (cnt out)) v' ((insAt us (m.pos x.n) u).drop (cnt out)) B) ∧ Pks w' B (m.ins x).ws (insAt us (m.pos x.n) u) ∧ Only (fun k => k = b ∨ (B ≤ k ∧ ∃ cs, Is w k 79 cs)) w w'
theorem place_dec {m : Bf} (h : m.Good) {n k : Nat} (hk : k ≤ m.ws.length) (hlo : ∀ i x, i < k → m.ws[i]? = some x → x.n < n) (hhi : ∀ i x, k ≤ i → m.ws[i]? = some x → n ≤ x.n) : decide (∃ x, m.ws[k]? = some x ∧ x.n = n) = decide (∃ x ∈ m.ws, x.n = n) := by
  rw [decide_eq_decide]
  constructor
  · rintro ⟨x, hx, hn⟩
    exact ⟨x, List.mem_of_getElem? hx, hn⟩
  · rintro ⟨x, hx, hn⟩
    obtain ⟨i, hi⟩ := List.getElem?_of_mem hx
    rcases Nat.lt_trichotomy i k with h1 | h1 | h1
    · have := hlo i x h1 hi
      omega
    · subst h1
      exact ⟨x, hi, hn⟩
    · have hl := (List.getElem?_eq_some_iff.1 hi).1
      have h2 := hhi k _ (Nat.le_refl _) (List.getElem?_eq_getElem (show k < m.ws.length by omega))
      have h3 := h.rise k i _ x h1 (List.getElem?_eq_getElem (show k < m.ws.length by omega)) hi
      omega
set_option maxRecDepth 20000 in
set_option maxHeartbeats 2000000 in
theorem rin_no (b n now B : Nat) (cs : Array Value) (hcs : cs.size = 11) (m : Bf) (v : Value) (us : List V3) (w : World) (h : Bfr w b m v us B) (hg : m.Good) (hno : ¬ m.takes n) :
    Calls Try.prog 16 #[ptr b, .int .u64 (n : Int), .agg cs, .int .u64 (now : Int)] w (SaysO (.tuple #[.slice none 0 0, .bool false]) w) := by
  have HT := Lib.hid (fun (w1 : World) (ho : Only (fun _ => False) w w1) => takes_is b m v us B w1 (h.pure ho) hg.ok.fit)
  have HP := Lib.hid (fun (w1 : World) (ho : Only (fun _ => False) w w1) => place_is b n m v us B w1 (h.pure ho) hg.ok.fit)
  have HDC := Lib.hid (fun k => place_dec hg (n := n) (k := k))
  have HNO : decide (∃ x ∈ m.ws, x.n = n) = false → m.some = true ∧ n ≤ m.last := fun hd => by
    have hd' : ¬ ∃ x ∈ m.ws, x.n = n := by simpa using hd
    refine Classical.byContradiction fun hc => hno ⟨fun x hx e => hd' ⟨x, hx, e⟩, fun hs => ?_⟩
    refine Nat.lt_of_not_le (fun hl => hc ⟨hs, hl⟩)
  have HNO' := Lib.hid HNO
  have H := Lib.hid h
  clear h hg hno HNO
  go_enter Try.func16, Try.ntmps16
  go_wp2_with fail
  generalize hw1 : World.alloc _ _ = w1
  have O1 := Lib.hid (show Only (fun _ => False) w w1 from by rw [← hw1]; exact (Only.refl _ w).alloc _)
  clear hw1
  refine (HT.out w1 O1.out).mono ?_
  rintro e w2 ⟨rfl, rfl⟩
  clear HT
  go_wp2_with fail
  refine (HP.out _ O1.out).mono ?_
  rintro e w3 ⟨k, rfl, hk, hlo, hhi, ho⟩
  rw [HDC.out k hk hlo hhi]
  have O3 := Lib.hid (O1.out.trans ho (fun _ _ e => e))
  obtain ⟨dw, hdw⟩ : ∃ dw, decide (∃ x ∈ m.ws, x.n = n) = dw := ⟨_, rfl⟩
  rw [hdw] at HNO' ⊢
  clear hk hlo hhi ho hdw HP HDC
  cases dw with
  | true =>
    clear HNO'
    go_wp2
    go_ret2
    exact ⟨rfl, O3.out⟩
  | false =>
    obtain ⟨hs, hl⟩ := HNO'.out rfl
    have hB3 := H.out.pure O3.out
    have c2 := hB3.went
    have c3 := hB3.last
    rw [hs] at c2
    have hlI : (n : Int) ≤ (m.last : Int) := by omega
    generalize m.last = lst at *
    clear hB3 HNO' hs hl
    go_wp2
    go_ret2
    exact ⟨rfl, O3.out⟩
/-- Behind the region. -/
theorem after_ri8 {b B k n now : Nat} {p : Pk} {m : Bf} {v v2 : Value} {us : List V3} {w8 w10 : World} {u : V3} (hB : Bfr w8 b m v us B) (hlow : ∀ a ∈ us, ∀ j, Blk a j → j < w8.heap.size) (hBs : B ≤ w8.heap.size) (hS : OwnS w10 B 79 13 v2 ((wtRows m.ws us).take k ++ (Wt.cls ⟨n, now, p⟩ u) :: (wtRows m.ws us).drop k)) (hO : OwnPk w8.heap.size p u.1 u.2.1 u.2.2 w10) (hOn : Only (fun j => v.ownBlock = some j) w8 w10) (hk : k ≤ m.ws.length) :
    Bfr (w10.setCell ⟨b, 4, none⟩ v2) b { m with ws := insAt m.ws k ⟨n, now, p⟩ } v2 (insAt us k u) B ∧ (∀ j, Blk u j → w8.heap.size ≤ j) ∧ Only (fun j => j = b ∨ v.ownBlock = some j) w8 (w10.setCell ⟨b, 4, none⟩ v2) := by
  have hI : Is w10 b 65 (bfCells m v) := hB.is.only hOn (fun e => hB.row_ne e)
  have hP : Pks w10 B m.ws us := hB.pks.only hOn (fun a ha j hj e => by
    obtain ⟨cs, hc⟩ := own_blk_is hB.row.1 e
    exact hB.pks.off hc (by decide) (by decide) a ha hj)
  have hh : ∀ j, Blk u j → w8.heap.size ≤ j := fun j hj => (OwnPk.blk hO j hj).1
  refine ⟨Bfr.put_list hI rfl (by rw [wtRows_ins hB.pks.len hk]; exact hS) (hP.ins hk (OwnPk.low hO hBs) hlow hh), hh, ?_⟩
  exact ((hOn.mono (fun _ _ e => .inr e))).set (p := ⟨b, 4, none⟩) (fun _ => .inl rfl) _
theorem Bfr.put_begun {b B : Nat} {m : Bf} {v : Value} {us : List V3} {w : World} (h : Bfr w b m v us B) (n : Nat) (hs : m.some = false) : Bfr ((w.setCell ⟨b, 2, none⟩ (.bool true)).setCell ⟨b, 3, none⟩ (.int .u64 (((n + 18446744073709551615) % 18446744073709551616 : Nat) : Int))) b (m.begun n) v us B := by
  have ho : Only (fun k => k = b) w (w.setCell ⟨b, 2, none⟩ (.bool true)) := Only.set (S := fun k => k = b) (p := ⟨b, 2, none⟩) (Only.refl _ w) (fun _ => rfl) _
  have h1 : Bfr (w.setCell ⟨b, 2, none⟩ (.bool true)) b { m with some := true } v us B :=
    ⟨h.is.put 2 (.bool true), h.row.only ho (fun k hk e => h.row_ne (by rw [hk, e])), h.pks.only ho (fun u hu k hk e => h.pks.off h.is (by decide) (by decide) u hu (by rw [← e]; exact hk))⟩
  have h2 := h1.put_last ((n + 18446744073709551615) % 18446744073709551616)
  unfold Bf.begun
  rw [hs, if_neg (by simp)]
  exact h2
set_option maxRecDepth 20000 in
set_option maxHeartbeats 4000000 in
theorem rin_yes (b n now B : Nat) (p : Pk) (vc ve vp : Value) (m : Bf) (v : Value) (us : List V3) (w : World) (h : Bfr w b m v us B) (hg : m.Good) (hyes : m.takes n) (hn : n ≤ 4611686018427387904) (hnow : now < 18446744073709551616) (hBs : B ≤ w.heap.size)
    (hc : Rd .u32 w vc (nats p.csrc)) (hn0 : vc = .slice none 0 0 ∨ ∃ ad n c, vc = .slice (some ad) n c) (he : Src w ve p.ext) (hp : Src w vp p.pay) (hl : p.csrc.length ≤ 1000000 ∧ p.ext.length ≤ 1000000 ∧ p.pay.length ≤ 1000000) (hfar : ¬ Blk (vc, ve, vp) b) :
    Calls Try.prog 16 #[ptr b, .int .u64 (n : Int), .agg (p.cls vc ve vp), .int .u64 (now : Int)] w (InLeft b B m v us ⟨n, now, p⟩ w) := by
  have HT := Lib.hid (fun (w1 : World) (ho : Only (fun _ => False) w w1) => takes_is b m v us B w1 (h.pure ho) hg.ok.fit)
  have HP := Lib.hid (fun (w1 : World) (ho : Only (fun _ => False) w w1) => place_is b n m v us B w1 (h.pure ho) hg.ok.fit)
  have HDC := Lib.hid (fun k => place_dec hg (n := n) (k := k))
  have HPOS := Lib.hid (fun k => pos_of m.ws n k)
  have HCP := Lib.hid (fun (wx : World) (ho : Only (fun k => k = b) w wx) => copyof_is p vc ve vp wx (hc.only ho (fun k hk e => hfar (.inl (by rw [hk, e])))) hn0 (he.only ho (fun k hk e => hfar (.inr (.inl (by rw [hk, e]))))) (hp.only ho (fun k hk e => hfar (.inr (.inr (by rw [hk, e]))))) hl)
  have HOKI := Lib.hid (ins_ok hg ⟨n, now, p⟩ hn hnow hyes)
  have HLOW := Lib.hid (show ∀ a ∈ us, ∀ j, Blk a j → j < w.heap.size from fun a ha j hj => by
    obtain ⟨i, hi⟩ := List.getElem?_of_mem ha
    have hil : i < m.ws.length := by rw [← h.pks.len]; exact (List.getElem?_eq_some_iff.1 hi).1
    exact (OwnPk.blk (h.pks.own i _ a (List.getElem?_eq_getElem hil) hi) j hj).2)
  have HVL := Lib.hid (fun j (e : v.ownBlock = some j) => (h.row.lt j e).2)
  have hd : decide (∃ x ∈ m.ws, x.n = n) = false := by simp; exact fun x hx => hyes.1 x hx
  have HD := Lib.hid hd
  have HLT := Lib.hid hyes.2
  have HBS := Lib.hid hBs
  have H := Lib.hid h
  obtain ⟨S, hS⟩ : ∃ S, m.size = S := ⟨_, rfl⟩
  have HSI := Lib.hid hS
  obtain ⟨L, hL⟩ : ∃ L, m.ws.length = L := ⟨_, rfl⟩
  have HLN := Lib.hid hL
  have HLE := Lib.hid (show 1 ≤ S ∧ S ≤ 256 ∧ L ≤ S from by rw [← hS, ← hL]; exact ⟨hg.one, hg.le, hg.len⟩)
  have hwr : IntKind.u64.wrap ((n : Int) - 1) = (((n + 18446744073709551615) % 18446744073709551616 : Nat) : Int) := by rw [IntKind.wrap_u64]; omega
  clear h hg hyes hc hn0 he hp hl hfar hd hS hL hBs
  go_enter Try.func16, Try.ntmps16
  go_wp2_with fail
  generalize hw1 : World.alloc _ _ = w1
  have O1 := Lib.hid (show Only (fun _ => False) w w1 from by rw [← hw1]; exact (Only.refl _ w).alloc _)
  have I1 := Lib.hid (show Is w1 w.heap.size 42 (p.cls vc ve vp) from by rw [← hw1]; exact Is.made w _ _)
  obtain ⟨pb, hpb⟩ : ∃ pb, w.heap.size = pb := ⟨_, rfl⟩
  rw [hpb] at I1 ⊢
  clear hw1 hpb
  refine (HT.out w1 O1.out).mono ?_
  rintro e w2 ⟨rfl, rfl⟩
  clear HT
  go_wp2_with fail
  refine (HP.out _ O1.out).mono ?_
  rintro e w3 ⟨k, rfl, hk, hlo, hhi, ho⟩
  rw [HDC.out k hk hlo hhi, HD.out]
  have HK := Lib.hid (show k = m.pos n from (HPOS.out k hk hlo hhi).symm)
  have O3 := Lib.hid (O1.out.trans ho (fun _ _ e => e))
  have I3 := Lib.hid (I1.out.only ho (by simp))
  have hB3 := Lib.hid (H.out.pure O3.out)
  rw [HLN.out] at hk
  have c2 := hB3.out.went
  have c3 := hB3.out.last
  clear hlo hhi ho HP HDC HPOS HD O1 I1
  cases hs : m.some with
  | true =>
    rw [hs] at c2
    have hlI : ¬ (n : Int) ≤ (m.last : Int) := by have := HLT.out hs; omega
    obtain ⟨m1, hm1⟩ : ∃ m1, m.begun n = m1 := ⟨_, rfl⟩
    have HM1 := Lib.hid (show m1.ws = m.ws ∧ m1.size = S ∧ m1 = m.begun n from ⟨by rw [← hm1, begun_ws], by rw [← hm1, begun_size, HSI.out], hm1.symm⟩)
    have hB8 : Bfr w3 b m1 v us B := by rw [← hm1]; unfold Bf.begun; rw [hs, if_pos rfl]; exact hB3.out
    have hI8 := I3.out
    have hO8 : Only (fun k => k = b) w w3 := O3.out.mono (fun _ _ e => e.elim)
    generalize hlst : m.last = lst at c3 hlI
    clear hlst hs hm1 hB3
    go_upto_region 8 with (fail)

    have HB8 := Lib.hid hB8
    have HI8 := Lib.hid hI8
    have O8 := Lib.hid hO8
    clear hB8 hI8 hO8
    refine ri8 b pb B n now k p vc ve vp m1 v us w3 HB8.out HI8.out (by rw [HM1.out.1, HLN.out]; exact hk) (by rw [HM1.out.1, HLN.out]; have := HLE.out; omega) (Nat.le_trans HBS.out O8.out.size) (fun wx ho => HCP.out wx (O8.out.trans ho (fun _ _ e => e.elim))) _ _ _ _ _ _ _ _ _ _ _ _ _ _ _ _ _ _ _ _ _ _ _ _ _ _ _ _ _ _ _ _ _ _ _ _ _ _ _ _ _ _ _ _ _ _ _ _ _ _ _ _ _ _ _ _ _ _ _ _ _ _ _ _ _ _ _ _ _ _ _ _ w3 rfl ?_
    rintro y49 y50 y51 y52 y53 y54 y55 y56 y57 y58 y59 y60 y61 y62 y63 w9 ⟨u, w10, v2, ⟨hS, hO, hOn⟩, rfl⟩
    have HAF := Lib.hid (after_ri8 HB8.out (fun a ha j hj => Nat.lt_of_lt_of_le (HLOW.out a ha j hj) O8.out.size) (Nat.le_trans HBS.out O8.out.size) hS hO hOn (by rw [HM1.out.1, HLN.out]; exact hk))
    generalize hw11 : World.setCell _ _ _ = w11
    rw [hw11] at HAF
    obtain ⟨m2, hm2⟩ : ∃ m2, ({ m1 with ws := insAt m1.ws k ⟨n, now, p⟩ } : Bf) = m2 := ⟨_, rfl⟩
    rw [hm2] at HAF
    have HM2 := Lib.hid (show m2 = m.ins ⟨n, now, p⟩ from by rw [← hm2, HM1.out.1, HM1.out.2.2, HK.out]; rfl)
    have hlen2 : m2.ws.length = L + 1 := by rw [← hm2]; show (insAt m1.ws k _).length = _; rw [insAt_length _ _ _ (by rw [HM1.out.1, HLN.out]; exact hk), HM1.out.1, HLN.out]
    have hsz2 : m2.size = S := by rw [← hm2]; exact HM1.out.2.1
    have HOK := Lib.hid (show m2.Ok from by rw [HM2.out]; exact HOKI.out)
    have HL2 := Lib.hid (fun (w12 : World) (ho : Only (fun _ => False) w11 w12) (must : Int) => leave_is b B must m2 v2 (insAt us k u) w12 (HAF.out.1.pure ho) HOK.out)
    obtain ⟨A2, c2, hv2, hc2⟩ := HAF.out.1.slice
    subst hv2
    have c4 := HAF.out.1.list
    have c0 := HAF.out.1.size
    rw [hlen2] at c4 hc2
    rw [hsz2] at c0
    have e3 : IntKind.i64.wrap (((L + 1 : Nat) : Int) - (S : Int)) = (L : Int) + 1 - S := by rw [IntKind.wrap_i64]; have := HLE.out; omega
    have e4 : IntKind.i64.wrap ((L : Int) + 1 - (S : Int)) = (L : Int) + 1 - S := by rw [IntKind.wrap_i64]; have := HLE.out; omega
    clear hS hO hOn hw11 hm2 hlen2 hsz2 hk
    go_wp2_with fail
    go_still_tail 11, (by kernel_rfl)
    go_wp2_with fail
    refine (HL2.out _ ((Only.refl _ w11).drewN 1) _).mono ?_
    rintro e w13 ⟨vo, rfl, hLo, hLg, hLp, hLn⟩
    have HEN := Lib.hid (And.intro hLo (And.intro hLg (And.intro hLp hLn)))
    clear hLo hLg hLp hLn e3 e4 c0 c4
    go_wp2
    go_ret2
    obtain ⟨q1, q2, q3, q4⟩ := HEN.out
    rw [HM2.out] at q1 q2 q3 q4
    have O11 : Only (fun k => k = b ∨ v.ownBlock = some k) w w11 := (O8.out.mono (fun _ _ e => .inl e)).trans HAF.out.2.2 (fun _ _ e => e)
    have HFR := HAF.out.2.1
    rw [HK.out] at q1 q2 q3
    rw [← HSI.out, ← HLN.out] at q1 q2
    refine ⟨vo, u, rfl, fun j hj => Nat.le_trans O8.out.size (HFR j hj), _, rfl, ⟨owned_low q1.1 O11.size, q1.2⟩, q2, q3, ?_⟩
    refine ((O11.drewN 1).mono (fun j hj e => e.elim .inl (fun e => .inr ⟨(H.out.row.lt j e).1, own_blk_is H.out.row.1 e⟩))).trans q4 (fun j hj e => ?_)
    rcases e with e | e
    · exact .inl e
    · by_cases hjb : j = b
      · exact .inl hjb
      · by_cases hjv : v.ownBlock = some j
        · exact .inr ⟨(H.out.row.lt j hjv).1, own_blk_is H.out.row.1 hjv⟩
        · have e' : (Value.slice A2 m2.ws.length c2).ownBlock = some j := by rw [HM2.out]; exact e
          obtain ⟨cs, hcs⟩ := own_blk_is HAF.out.1.row.1 e'
          exact .inr ⟨(HAF.out.1.row.lt j e').1, cs, (O11.same j hj (fun e => e.elim hjb hjv)).symm.trans hcs⟩
  | false =>
    rw [hs] at c2
    obtain ⟨m1, hm1⟩ : ∃ m1, m.begun n = m1 := ⟨_, rfl⟩
    have HM1 := Lib.hid (show m1.ws = m.ws ∧ m1.size = S ∧ m1 = m.begun n from ⟨by rw [← hm1, begun_ws], by rw [← hm1, begun_size, HSI.out], hm1.symm⟩)
    have HB0 := Lib.hid (show Bfr ((w3.setCell ⟨b, 2, none⟩ (.bool true)).setCell ⟨b, 3, none⟩ (.int .u64 (((n + 18446744073709551615) % 18446744073709551616 : Nat) : Int))) b m1 v us B from by rw [← hm1]; exact hB3.out.put_begun n hs)
    have ff2 := hB3.out.is.free 2
    have ff3 := hB3.out.is.free 3
    obtain ⟨nl, hnl⟩ : ∃ nl, (n + 18446744073709551615) % 18446744073709551616 = nl := ⟨_, rfl⟩
    rw [hnl] at hwr HB0
    generalize hlst : m.last = lst at c3
    have HPB := Lib.hid (show pb ≠ b from fun e => I3.out.apart hB3.out.is (by decide) e)
    clear hlst hs hm1 hB3 hnl
    go_upto_region 8 with (fail)
    generalize hw8 : World.setCell (World.setCell _ _ _) _ _ = w8
    have hO8 : Only (fun k => k = b) w w8 := by rw [← hw8]; exact Only.set (S := fun k => k = b) (p := ⟨b, 3, none⟩) (Only.set (S := fun k => k = b) (p := ⟨b, 2, none⟩) (O3.out.mono (fun _ _ e => e.elim)) (fun _ => rfl) _) (fun _ => rfl) _
    have hI8 : Is w8 pb 42 (p.cls vc ve vp) := by rw [← hw8]; exact (I3.out.far HPB.out _).far HPB.out _
    have hB8 : Bfr w8 b m1 v us B := by rw [← hw8]; exact HB0.out
    clear hw8 ff2 ff3 c2 c3 hwr HB0

    have HB8 := Lib.hid hB8
    have HI8 := Lib.hid hI8
    have O8 := Lib.hid hO8
    clear hB8 hI8 hO8
    refine ri8 b pb B n now k p vc ve vp m1 v us w8 HB8.out HI8.out (by rw [HM1.out.1, HLN.out]; exact hk) (by rw [HM1.out.1, HLN.out]; have := HLE.out; omega) (Nat.le_trans HBS.out O8.out.size) (fun wx ho => HCP.out wx (O8.out.trans ho (fun _ _ e => e.elim))) _ _ _ _ _ _ _ _ _ _ _ _ _ _ _ _ _ _ _ _ _ _ _ _ _ _ _ _ _ _ _ _ _ _ _ _ _ _ _ _ _ _ _ _ _ _ _ _ _ _ _ _ _ _ _ _ _ _ _ _ _ _ _ _ _ _ _ _ _ _ _ _ w8 rfl ?_
    rintro y49 y50 y51 y52 y53 y54 y55 y56 y57 y58 y59 y60 y61 y62 y63 w9 ⟨u, w10, v2, ⟨hS, hO, hOn⟩, rfl⟩
    have HAF := Lib.hid (after_ri8 HB8.out (fun a ha j hj => Nat.lt_of_lt_of_le (HLOW.out a ha j hj) O8.out.size) (Nat.le_trans HBS.out O8.out.size) hS hO hOn (by rw [HM1.out.1, HLN.out]; exact hk))
    generalize hw11 : World.setCell _ _ _ = w11
    rw [hw11] at HAF
    obtain ⟨m2, hm2⟩ : ∃ m2, ({ m1 with ws := insAt m1.ws k ⟨n, now, p⟩ } : Bf) = m2 := ⟨_, rfl⟩
    rw [hm2] at HAF
    have HM2 := Lib.hid (show m2 = m.ins ⟨n, now, p⟩ from by rw [← hm2, HM1.out.1, HM1.out.2.2, HK.out]; rfl)
    have hlen2 : m2.ws.length = L + 1 := by rw [← hm2]; show (insAt m1.ws k _).length = _; rw [insAt_length _ _ _ (by rw [HM1.out.1, HLN.out]; exact hk), HM1.out.1, HLN.out]
    have hsz2 : m2.size = S := by rw [← hm2]; exact HM1.out.2.1
    have HOK := Lib.hid (show m2.Ok from by rw [HM2.out]; exact HOKI.out)
    have HL2 := Lib.hid (fun (w12 : World) (ho : Only (fun _ => False) w11 w12) (must : Int) => leave_is b B must m2 v2 (insAt us k u) w12 (HAF.out.1.pure ho) HOK.out)
    obtain ⟨A2, c2, hv2, hc2⟩ := HAF.out.1.slice
    subst hv2
    have c4 := HAF.out.1.list
    have c0 := HAF.out.1.size
    rw [hlen2] at c4 hc2
    rw [hsz2] at c0
    have e3 : IntKind.i64.wrap (((L + 1 : Nat) : Int) - (S : Int)) = (L : Int) + 1 - S := by rw [IntKind.wrap_i64]; have := HLE.out; omega
    have e4 : IntKind.i64.wrap ((L : Int) + 1 - (S : Int)) = (L : Int) + 1 - S := by rw [IntKind.wrap_i64]; have := HLE.out; omega
    clear hS hO hOn hw11 hm2 hlen2 hsz2 hk
    go_wp2_with fail
    go_still_tail 11, (by kernel_rfl)
    go_wp2_with fail
    refine (HL2.out _ ((Only.refl _ w11).drewN 1) _).mono ?_
    rintro e w13 ⟨vo, rfl, hLo, hLg, hLp, hLn⟩
    have HEN := Lib.hid (And.intro hLo (And.intro hLg (And.intro hLp hLn)))
    clear hLo hLg hLp hLn e3 e4 c0 c4
    go_wp2
    go_ret2
    obtain ⟨q1, q2, q3, q4⟩ := HEN.out
    rw [HM2.out] at q1 q2 q3 q4
    have O11 : Only (fun k => k = b ∨ v.ownBlock = some k) w w11 := (O8.out.mono (fun _ _ e => .inl e)).trans HAF.out.2.2 (fun _ _ e => e)
    have HFR := HAF.out.2.1
    rw [HK.out] at q1 q2 q3
    rw [← HSI.out, ← HLN.out] at q1 q2
    refine ⟨vo, u, rfl, fun j hj => Nat.le_trans O8.out.size (HFR j hj), _, rfl, ⟨owned_low q1.1 O11.size, q1.2⟩, q2, q3, ?_⟩
    refine ((O11.drewN 1).mono (fun j hj e => e.elim .inl (fun e => .inr ⟨(H.out.row.lt j e).1, own_blk_is H.out.row.1 e⟩))).trans q4 (fun j hj e => ?_)
    rcases e with e | e
    · exact .inl e
    · by_cases hjb : j = b
      · exact .inl hjb
      · by_cases hjv : v.ownBlock = some j
        · exact .inr ⟨(H.out.row.lt j hjv).1, own_blk_is H.out.row.1 hjv⟩
        · have e' : (Value.slice A2 m2.ws.length c2).ownBlock = some j := by rw [HM2.out]; exact e
          obtain ⟨cs, hcs⟩ := own_blk_is HAF.out.1.row.1 e'
          exact .inr ⟨(HAF.out.1.row.lt j e').1, cs, (O11.same j hj (fun e => e.elim hjb hjv)).symm.trans hcs⟩
end Go.Proofs.Ytdcclighccejhaa
