/- roster: the regions of Join that draw their order. Conditions: as each says. -/
import Derived.Test.YtglgmhdajmncjaaRyF
set_option linter.unusedVariables false
set_option linter.unusedSimpArgs false
namespace Go.Proofs.Ytglgmhdajmncjaa
open Go Go.RowKit

/-- Amid Join: the roster, the new member's block. -/
structure Gj (cs : Array Value) (gc : List Value) (b gb : Nat) (vg : Value) (w0 wx : World) : Prop where
  io : Is wx b 109 cs
  ig : Is wx gb 58 gc.toArray
  sz : w0.heap.size ≤ wx.heap.size
  only : Only (fun k => vg.ownBlock = some k) w0 wx
theorem Gj.go {cs : Array Value} {gc : List Value} {b gb : Nat} {vg : Value} {w0 wx wy : World} (h : Gj cs gc b gb vg w0 wx) (ho : Only (fun _ => False) wx wy) : Gj cs gc b gb vg w0 wy :=
  ⟨h.io.only ho (by simp), h.ig.only ho (by simp), Nat.le_trans h.sz ho.size, h.only.trans ho (fun _ _ e => e.elim)⟩
def rj11_A : List (List Nat) := ([] :: [] :: [1] :: [2, 1] :: [3, 2, 1] :: [] :: [5] :: [4, 6, 3, 2, 1, 5] :: (0 :: 1 :: 2 :: 3 :: 4 :: 5 :: 6 :: 7 :: []) :: (8 :: 0 :: 1 :: 2 :: 3 :: 4 :: 5 :: 6 :: 7 :: []) :: (9 :: 7 :: 0 :: 1 :: 2 :: 3 :: 4 :: 5 :: 6 :: 8 :: []) :: [])
def rj11_kill : List (List Nat) := ([] :: [] :: [] :: [] :: [] :: [] :: [] :: [6, 11] :: [] :: [] :: [6, 7, 11] :: [])
def rj11_uses : List (List Nat) := ([] :: [] :: [] :: [] :: [] :: [] :: [] :: [6, 11] :: [] :: [] :: [7] :: [])
noncomputable def rj11_code : Code := ((Try.f23.body.bind (codeRegion 11)).getD .skip)
set_option maxRecDepth 100000 in
set_option maxHeartbeats 4000000 in
theorem rj11_in (cs : Array Value) (mm : Mb) (b gb k c B : Nat) (Ao : Option Addr) (xss : List (List Value)) (w0 : World) (hcf : cs[1]? = some (.slice Ao k c)) (hl : xss.length = k) (hk : k ≤ 100000) (hB : B ≤ w0.heap.size) (hgb : Value.ownBlock (.slice Ao k c) ≠ some gb)  (u1 u2 u4 u5 u6 u7 u8 u9 u10 u11 u12 u13 u14 u15 u16 u17 u18 u19 u20 u21 u22 u23 u24 u25 u26 u27 u28 u29 u30 u31 u32 u33 u34 u35 u36 u37 u38 u39 u40 u41 u42 u43 u44 u45 u46 u47 u48 u49 u50 u51 u52 u53 u54 u55 u56 u57 u58 u59 u60 u61 u62 u63 u64 u65 u66 u67 u68 u69 : Value) (w : World) (hG : Gj cs [Value.int .i64 mm.id, Value.int .u32 (mm.co : Int), Value.int .u32 (mm.ca : Int), Value.bool mm.mo] b gb (.slice Ao k c) w0 w) (hown : OwnS w B 58 4 (.slice Ao k c) xss) :
    Code.wp Try.prog rj11_code (fun e a w' => ∃ y40 y41 y42 y43 y44 y45 y46 y47 y48 y49 : Value, a = ⟨(List.toArray (.pointer (some ⟨b, 0, none⟩) :: u1 :: u2 :: .pointer (some ⟨gb, 0, none⟩) :: u4 :: u5 :: u6 :: u7 :: u8 :: u9 :: u10 :: u11 :: u12 :: u13 :: u14 :: u15 :: u16 :: u17 :: u18 :: u19 :: u20 :: u21 :: u22 :: u23 :: u24 :: u25 :: u26 :: u27 :: u28 :: u29 :: u30 :: u31 :: u32 :: u33 :: u34 :: u35 :: u36 :: u37 :: u38 :: u39 :: y40 :: y41 :: y42 :: y43 :: y44 :: y45 :: y46 :: y47 :: y48 :: y49 :: u50 :: u51 :: u52 :: u53 :: u54 :: u55 :: u56 :: u57 :: u58 :: u59 :: u60 :: u61 :: u62 :: u63 :: u64 :: u65 :: u66 :: u67 :: u68 :: u69 :: [])), []⟩ ∧ e = .normal ∧ (∃ A' c' w2, w' = w2.setCell ⟨b, 1, none⟩ (.slice A' (k + 1) c') ∧ OwnS w2 B 58 4 (.slice A' (k + 1) c') (xss ++ [[Value.int .i64 mm.id, Value.int .u32 (mm.co : Int), Value.int .u32 (mm.ca : Int), Value.bool mm.mo]]) ∧ Gj cs [Value.int .i64 mm.id, Value.int .u32 (mm.co : Int), Value.int .u32 (mm.ca : Int), Value.bool mm.mo] b gb (.slice Ao k c) w0 w2 ∧ ∀ k1, Value.ownBlock (.slice A' (k + 1) c') = some k1 → Value.ownBlock (.slice Ao k c) = some k1 ∨ w0.heap.size ≤ k1)) ⟨(List.toArray (.pointer (some ⟨b, 0, none⟩) :: u1 :: u2 :: .pointer (some ⟨gb, 0, none⟩) :: u4 :: u5 :: u6 :: u7 :: u8 :: u9 :: u10 :: u11 :: u12 :: u13 :: u14 :: u15 :: u16 :: u17 :: u18 :: u19 :: u20 :: u21 :: u22 :: u23 :: u24 :: u25 :: u26 :: u27 :: u28 :: u29 :: u30 :: u31 :: u32 :: u33 :: u34 :: u35 :: u36 :: u37 :: u38 :: u39 :: u40 :: u41 :: u42 :: u43 :: u44 :: u45 :: u46 :: u47 :: u48 :: u49 :: u50 :: u51 :: u52 :: u53 :: u54 :: u55 :: u56 :: u57 :: u58 :: u59 :: u60 :: u61 :: u62 :: u63 :: u64 :: u65 :: u66 :: u67 :: u68 :: u69 :: [])), []⟩ w := by
  conv => arg 2; whnf
  have HCF := Lib.hid hcf
  have hgo := Lib.hid hgb
  clear hcf hgb
  refine wp_region_posts rj11_A [6, 7, 10] [6, 7, 10, 11] rj11_kill rj11_uses [10] [10] [] [11]
      (some ?v0 :: some ?v1 :: some ?v2 :: some ?v3 :: some ?v4 :: some ((.agg [Value.int .i64 mm.id, Value.int .u32 (mm.co : Int), Value.int .u32 (mm.ca : Int), Value.bool mm.mo].toArray)) :: none :: none :: some ?v8 :: some ?v9 :: none :: [])
      ?T (fun wx => Gj cs [Value.int .i64 mm.id, Value.int .u32 (mm.co : Int), Value.int .u32 (mm.ca : Int), Value.bool mm.mo] b gb (.slice Ao k c) w0 wx) ?W ?E (by kernel_rfl) (by kernel_rfl) (by kernel_rfl) (fun x => ?hT) ?hF ?hini (Reg.all_ops ?runs) ?pres ?fin
  case W => exact fun j x w' => match j with | 6 => ∃ g, x 6 = .slice (some ⟨g, 0, none⟩) 1 1 ∧ Is w' g 58 [Value.int .i64 mm.id, Value.int .u32 (mm.co : Int), Value.int .u32 (mm.ca : Int), Value.bool mm.mo].toArray | 7 => ∃ A' c', x 7 = (.slice A' (k + 1) c') ∧ OwnS w' B 58 4 (.slice A' (k + 1) c') (xss ++ [[Value.int .i64 mm.id, Value.int .u32 (mm.co : Int), Value.int .u32 (mm.ca : Int), Value.bool mm.mo]]) ∧ Gj cs [Value.int .i64 mm.id, Value.int .u32 (mm.co : Int), Value.int .u32 (mm.ca : Int), Value.bool mm.mo] b gb (.slice Ao k c) w0 w' ∧ ∀ k1, Value.ownBlock (.slice A' (k + 1) c') = some k1 → Value.ownBlock (.slice Ao k c) = some k1 ∨ w0.heap.size ≤ k1 | 10 => ∃ A' c' w2, w' = w2.setCell ⟨b, 1, none⟩ (.slice A' (k + 1) c') ∧ OwnS w2 B 58 4 (.slice A' (k + 1) c') (xss ++ [[Value.int .i64 mm.id, Value.int .u32 (mm.co : Int), Value.int .u32 (mm.ca : Int), Value.bool mm.mo]]) ∧ Gj cs [Value.int .i64 mm.id, Value.int .u32 (mm.co : Int), Value.int .u32 (mm.ca : Int), Value.bool mm.mo] b gb (.slice Ao k c) w0 w2 ∧ ∀ k1, Value.ownBlock (.slice A' (k + 1) c') = some k1 → Value.ownBlock (.slice Ao k c) = some k1 ∨ w0.heap.size ≤ k1 | 11 => OwnS w' B 58 4 (.slice Ao k c) xss | _ => True
  case E => exact fun i w' w'' => match i with | 6 => Only (fun _ => False) w' w'' | _ => True
  case hT =>
    simp only [Reg.fillV, Act.put, List.setIfInBounds_toArray, List.set_cons_zero, List.set_cons_succ]
    rfl
  case runs =>
    refine And.intro ?_ ?_
    · refine Reg.ob_pure (fun _ => rfl) rfl rfl rfl rfl (fun x w1 hF => ?_)
      have cf : w1.cell? ⟨b, 1, none⟩ = some (.slice Ao k c) := (hF.io.cell 1).trans HCF.out
      go_simp
      with_reducible rfl
    refine And.intro ?_ ?_
    · refine Reg.ob_pure (fun _ => rfl) rfl rfl rfl rfl (fun x w1 hF => ?_)
      have cf : w1.cell? ⟨b, 1, none⟩ = some (.slice Ao k c) := (hF.io.cell 1).trans HCF.out
      go_simp
      with_reducible rfl
    refine And.intro ?_ ?_
    · refine Reg.ob_pure (fun _ => rfl) rfl rfl rfl rfl (fun x w1 hF => ?_)
      have cf : w1.cell? ⟨b, 1, none⟩ = some (.slice Ao k c) := (hF.io.cell 1).trans HCF.out
      go_simp
      with_reducible rfl
    refine And.intro ?_ ?_
    · refine Reg.ob_pure (fun _ => rfl) rfl rfl rfl rfl (fun x w1 hF => ?_)
      have cf : w1.cell? ⟨b, 1, none⟩ = some (.slice Ao k c) := (hF.io.cell 1).trans HCF.out
      go_simp
      with_reducible rfl
    refine And.intro ?_ ?_
    · refine Reg.ob_pure (fun _ => rfl) rfl rfl rfl rfl (fun x w1 hF => ?_)
      have cf : w1.cell? ⟨b, 1, none⟩ = some (.slice Ao k c) := (hF.io.cell 1).trans HCF.out
      go_simp
      with_reducible rfl
    refine And.intro ?_ ?_
    · refine Reg.ob_pure (fun _ => rfl) rfl rfl rfl rfl (fun x w1 hF => ?_)
      exact run_load_at 58 _ (by rfl) gb (by rfl) 58 _ _ hF.ig Try.underlying58 rfl Try.sizeMb
    refine And.intro ?_ ?_
    · refine Reg.ob_some (fun _ => rfl) rfl (fun x w1 hF hU K hK => ?_)
      replace hF := hF rfl
      go_simp
      exact hK _ _ (fun _ _ _ => hF.go ((Only.refl _ _).alloc _)) ((Only.refl _ _).alloc _) ⟨_, rfl, Is.made _ _ _⟩
    refine And.intro ?_ ?_
    · refine Reg.ob_some (fun _ => rfl) rfl (fun x w1 hF hU K hK => ?_)
      replace hF := hF rfl
      obtain ⟨⟨g, hx, hI⟩, hO, -⟩ := hU
      have hx : x 6 = .slice (some ⟨g, 0, none⟩) 1 1 := hx
      have hO : OwnS w1 B 58 4 (.slice Ao k c) xss := hO
      refine append_runN w1 _ _ sty_mb rfl B (.slice Ao k c) xss rfl hO g [Value.int .i64 mm.id, Value.int .u32 (mm.co : Int), Value.int .u32 (mm.ca : Int), Value.bool mm.mo] (by simpa [Act.eval] using hx) hI rfl (by simp [Value.oneCell']) (by omega) (by decide) (Nat.le_trans hB hF.sz) ?_
      intro v' w' hown ho hn
      obtain ⟨A', c', rfl, -⟩ := OwnS.slice hown
      have e : (xss ++ [[Value.int .i64 mm.id, Value.int .u32 (mm.co : Int), Value.int .u32 (mm.ca : Int), Value.bool mm.mo]]).length = k + 1 := by rw [List.length_append, hl]; rfl
      rw [e] at hown hn
      rw [e]
      have hG' : Gj cs [Value.int .i64 mm.id, Value.int .u32 (mm.co : Int), Value.int .u32 (mm.ca : Int), Value.bool mm.mo] b gb (.slice Ao k c) w0 w' := ⟨hF.io.only ho (owned_off hO.1 hF.io (by decide)), hF.ig.only ho (hgo.out), Nat.le_trans hF.sz ho.size, hF.only.trans ho (fun _ _ e => e)⟩
      exact hK _ w' (fun _ _ _ => hG') trivial ⟨A', c', rfl, hown, hG', fun k1 h1 => (hn k1 h1).imp id (fun h => Nat.le_trans hF.sz h)⟩
    refine And.intro ?_ ?_
    · refine Reg.ob_pure (fun _ => rfl) rfl rfl rfl rfl (fun x w1 hF => ?_)
      have cf : w1.cell? ⟨b, 1, none⟩ = some (.slice Ao k c) := (hF.io.cell 1).trans HCF.out
      go_simp
      with_reducible rfl
    refine And.intro ?_ ?_
    · refine Reg.ob_pure (fun _ => rfl) rfl rfl rfl rfl (fun x w1 hF => ?_)
      have cf : w1.cell? ⟨b, 1, none⟩ = some (.slice Ao k c) := (hF.io.cell 1).trans HCF.out
      go_simp
      with_reducible rfl
    refine And.intro ?_ ?_
    · refine Reg.ob_some (fun _ => rfl) rfl (fun x w1 hF hU K hK => ?_)
      replace hF := hF rfl
      obtain ⟨⟨A', c', hx, hO, hG', hn⟩, -⟩ := hU
      have hx : x 7 = .slice A' (k + 1) c' := hx
      have ff := hF.io.free 1
      have cf : w1.cell? ⟨b, 1, none⟩ = some (.slice Ao k c) := (hF.io.cell 1).trans HCF.out
      revert hK
      simp only [Nat.reduceAdd, hx]
      intro hK
      go_simp
      exact hK undef _ (fun _ h _ => by cases h) trivial ⟨A', c', _, rfl, hO, hG', hn⟩
    exact trivial
  case hF =>
    exact hG.go ((Only.refl _ _).drewN 1)
  case hini =>
    exact ⟨fun x => OwnS.only hown ((Only.refl (fun _ => False) w).drewN 1) (by simp), trivial⟩
  case pres =>
    intro i hi j hj hc x wx wy hF hE hW
    simp only [List.mem_cons, List.mem_nil_iff, or_false] at hi hj
    rcases hi with rfl | rfl | rfl <;> rcases hj with rfl | rfl | rfl | rfl
    all_goals first
      | (exfalso; revert hc; decide)
      | (obtain ⟨g, h1, h3⟩ := hW; exact ⟨g, h1, h3.only hE (by simp)⟩)
      | exact OwnS.only hW hE (by simp)
  case fin =>
    rintro x w9 hF hU
    obtain ⟨hQ, -⟩ := hU
    repeat apply Exists.intro
    exact ⟨rfl, rfl, hQ⟩

set_option maxRecDepth 100000 in
set_option maxHeartbeats 4000000 in
theorem rj11 (cs : Array Value) (mm : Mb) (b gb k c B : Nat) (Ao : Option Addr) (xss : List (List Value)) (w0 : World) (hcf : cs[1]? = some (.slice Ao k c)) (hl : xss.length = k) (hk : k ≤ 100000) (hB : B ≤ w0.heap.size) (hgb : Value.ownBlock (.slice Ao k c) ≠ some gb)  (u1 u2 u4 u5 u6 u7 u8 u9 u10 u11 u12 u13 u14 u15 u16 u17 u18 u19 u20 u21 u22 u23 u24 u25 u26 u27 u28 u29 u30 u31 u32 u33 u34 u35 u36 u37 u38 u39 u40 u41 u42 u43 u44 u45 u46 u47 u48 u49 u50 u51 u52 u53 u54 u55 u56 u57 u58 u59 u60 u61 u62 u63 u64 u65 u66 u67 u68 u69 : Value) (Q : Exit → Act → World → Prop) (w : World) (hG : Gj cs [Value.int .i64 mm.id, Value.int .u32 (mm.co : Int), Value.int .u32 (mm.ca : Int), Value.bool mm.mo] b gb (.slice Ao k c) w0 w) (hown : OwnS w B 58 4 (.slice Ao k c) xss)
    (hend : ∀ (y40 y41 y42 y43 y44 y45 y46 y47 y48 y49 : Value) (w' : World), (∃ A' c' w2, w' = w2.setCell ⟨b, 1, none⟩ (.slice A' (k + 1) c') ∧ OwnS w2 B 58 4 (.slice A' (k + 1) c') (xss ++ [[Value.int .i64 mm.id, Value.int .u32 (mm.co : Int), Value.int .u32 (mm.ca : Int), Value.bool mm.mo]]) ∧ Gj cs [Value.int .i64 mm.id, Value.int .u32 (mm.co : Int), Value.int .u32 (mm.ca : Int), Value.bool mm.mo] b gb (.slice Ao k c) w0 w2 ∧ ∀ k1, Value.ownBlock (.slice A' (k + 1) c') = some k1 → Value.ownBlock (.slice Ao k c) = some k1 ∨ w0.heap.size ≤ k1) → Q .normal ⟨(List.toArray (.pointer (some ⟨b, 0, none⟩) :: u1 :: u2 :: .pointer (some ⟨gb, 0, none⟩) :: u4 :: u5 :: u6 :: u7 :: u8 :: u9 :: u10 :: u11 :: u12 :: u13 :: u14 :: u15 :: u16 :: u17 :: u18 :: u19 :: u20 :: u21 :: u22 :: u23 :: u24 :: u25 :: u26 :: u27 :: u28 :: u29 :: u30 :: u31 :: u32 :: u33 :: u34 :: u35 :: u36 :: u37 :: u38 :: u39 :: y40 :: y41 :: y42 :: y43 :: y44 :: y45 :: y46 :: y47 :: y48 :: y49 :: u50 :: u51 :: u52 :: u53 :: u54 :: u55 :: u56 :: u57 :: u58 :: u59 :: u60 :: u61 :: u62 :: u63 :: u64 :: u65 :: u66 :: u67 :: u68 :: u69 :: [])), []⟩ w') :
    Code.wp Try.prog rj11_code Q ⟨(List.toArray (.pointer (some ⟨b, 0, none⟩) :: u1 :: u2 :: .pointer (some ⟨gb, 0, none⟩) :: u4 :: u5 :: u6 :: u7 :: u8 :: u9 :: u10 :: u11 :: u12 :: u13 :: u14 :: u15 :: u16 :: u17 :: u18 :: u19 :: u20 :: u21 :: u22 :: u23 :: u24 :: u25 :: u26 :: u27 :: u28 :: u29 :: u30 :: u31 :: u32 :: u33 :: u34 :: u35 :: u36 :: u37 :: u38 :: u39 :: u40 :: u41 :: u42 :: u43 :: u44 :: u45 :: u46 :: u47 :: u48 :: u49 :: u50 :: u51 :: u52 :: u53 :: u54 :: u55 :: u56 :: u57 :: u58 :: u59 :: u60 :: u61 :: u62 :: u63 :: u64 :: u65 :: u66 :: u67 :: u68 :: u69 :: [])), []⟩ w := by
  refine wp_mono (rj11_in cs mm b gb k c B Ao xss w0 hcf hl hk hB hgb _ _ _ _ _ _ _ _ _ _ _ _ _ _ _ _ _ _ _ _ _ _ _ _ _ _ _ _ _ _ _ _ _ _ _ _ _ _ _ _ _ _ _ _ _ _ _ _ _ _ _ _ _ _ _ _ _ _ _ _ _ _ _ _ _ _ _ _ w hG hown) ?_
  rintro e a w' h
  obtain ⟨y40, h⟩ := h
  obtain ⟨y41, h⟩ := h
  obtain ⟨y42, h⟩ := h
  obtain ⟨y43, h⟩ := h
  obtain ⟨y44, h⟩ := h
  obtain ⟨y45, h⟩ := h
  obtain ⟨y46, h⟩ := h
  obtain ⟨y47, h⟩ := h
  obtain ⟨y48, h⟩ := h
  obtain ⟨y49, h⟩ := h
  obtain ⟨h, rfl, hq⟩ := h
  subst h
  exact hend y40 y41 y42 y43 y44 y45 y46 y47 y48 y49 w' hq
/-- Amid Join's end: the roster, the new member's block; the map alone is written. -/
structure Jn (cs : Array Value) (mm : Mb) (b gb mb : Nat) (w0 wx : World) : Prop where
  io : Is wx b 109 cs
  ig : Is wx gb 58 #[.int .i64 mm.id, .int .u32 (mm.co : Int), .int .u32 (mm.ca : Int), .bool mm.mo]
  only : Only (fun k => k = mb) w0 wx
theorem Jn.go {cs : Array Value} {mm : Mb} {b gb mb : Nat} {w0 wx wy : World} {S : Nat → Prop} (h : Jn cs mm b gb mb w0 wx) (ho : Only S wx wy) (h1 : b ≠ mb) (h2 : gb ≠ mb) (hS : ∀ k, S k → k = mb := by intro k hk; first | exact hk | exact hk.elim) : Jn cs mm b gb mb w0 wy :=
  ⟨h.io.only ho (fun e => h1 (hS b e)), h.ig.only ho (fun e => h2 (hS gb e)), h.only.trans ho (fun k _ e => hS k e)⟩
def rj12_A : List (List Nat) := ([] :: [0] :: [1, 0] :: [2, 1, 0] :: [] :: [4] :: [] :: [6] :: [7, 6] :: [8, 7, 6] :: [] :: [10] :: [] :: [12] :: [] :: [14] :: (3 :: 5 :: 9 :: 2 :: 1 :: 0 :: 4 :: 8 :: 7 :: 6 :: []) :: (16 :: 3 :: 5 :: 9 :: 2 :: 1 :: 0 :: 4 :: 8 :: 7 :: 6 :: []) :: (3 :: 17 :: 13 :: 16 :: 0 :: 1 :: 2 :: 4 :: 5 :: 9 :: 12 :: 8 :: 7 :: 6 :: []) :: (9 :: 11 :: 18 :: 0 :: 1 :: 2 :: 3 :: 4 :: 5 :: 12 :: 13 :: 16 :: 17 :: 8 :: 7 :: 6 :: 10 :: []) :: (19 :: 9 :: 11 :: 18 :: 0 :: 1 :: 2 :: 3 :: 4 :: 5 :: 12 :: 13 :: 16 :: 17 :: 8 :: 7 :: 6 :: 10 :: []) :: (9 :: 20 :: 15 :: 19 :: 0 :: 1 :: 2 :: 3 :: 4 :: 5 :: 6 :: 7 :: 8 :: 10 :: 11 :: 12 :: 13 :: 14 :: 16 :: 17 :: 18 :: []) :: [])
def rj12_kill : List (List Nat) := ([] :: [] :: [] :: [] :: [] :: [] :: [] :: [] :: [] :: [] :: [] :: [] :: [] :: [] :: [] :: [] :: [22] :: [] :: [16, 17, 22] :: [16, 17, 18, 22] :: [] :: [16, 17, 18, 19, 20, 22] :: [])
def rj12_uses : List (List Nat) := ([] :: [] :: [] :: [] :: [] :: [] :: [] :: [] :: [] :: [] :: [] :: [] :: [] :: [] :: [] :: [] :: [22] :: [16] :: [17] :: [18] :: [19] :: [20] :: [])
noncomputable def rj12_code : Code := ((Try.f23.body.bind (codeRegion 12)).getD .skip)
set_option maxRecDepth 100000 in
set_option maxHeartbeats 4000000 in
theorem rj12_in (cs : Array Value) (mm : Mb) (b gb mb : Nat) (ms : List (Nat × Value)) (w0 : World) (hcf : cs[2]? = some (.map (some mb))) (hne1 : b ≠ mb) (hne2 : gb ≠ mb) (q1 : mm.co < 4294967296) (q2 : mm.ca < 4294967296) (n1 : mget ms mm.co = none) (n2 : mget (ms ++ [(mm.co, .int .i64 mm.id)]) mm.ca = none)  (u1 u2 u4 u5 u6 u7 u8 u9 u10 u11 u12 u13 u14 u15 u16 u17 u18 u19 u20 u21 u22 u23 u24 u25 u26 u27 u28 u29 u30 u31 u32 u33 u34 u35 u36 u37 u38 u39 u40 u41 u42 u43 u44 u45 u46 u47 u48 u49 u50 u51 u52 u53 u54 u55 u56 u57 u58 u59 u60 u61 u62 u63 u64 u65 u66 u67 u68 u69 : Value) (w : World) (hG : Jn cs mm b gb mb w0 w) (hmp : MapAt w mb .u32 ms) :
    Code.wp Try.prog rj12_code (fun e a w' => ∃ y50 y51 y52 y53 y54 y55 y56 y57 y58 y59 y60 y61 y62 y63 y64 y65 y66 y67 y68 y69 : Value, a = ⟨(List.toArray (.pointer (some ⟨b, 0, none⟩) :: u1 :: u2 :: .pointer (some ⟨gb, 0, none⟩) :: u4 :: u5 :: u6 :: u7 :: u8 :: u9 :: u10 :: u11 :: u12 :: u13 :: u14 :: u15 :: u16 :: u17 :: u18 :: u19 :: u20 :: u21 :: u22 :: u23 :: u24 :: u25 :: u26 :: u27 :: u28 :: u29 :: u30 :: u31 :: u32 :: u33 :: u34 :: u35 :: u36 :: u37 :: u38 :: u39 :: u40 :: u41 :: u42 :: u43 :: u44 :: u45 :: u46 :: u47 :: u48 :: u49 :: y50 :: y51 :: y52 :: y53 :: y54 :: y55 :: y56 :: y57 :: y58 :: y59 :: y60 :: y61 :: y62 :: y63 :: y64 :: y65 :: y66 :: y67 :: y68 :: y69 :: [])), []⟩ ∧ e = .normal ∧ (MapAt w' mb .u32 ((ms ++ [(mm.co, .int .i64 mm.id)]) ++ [(mm.ca, .int .i64 mm.id)]) ∧ Jn cs mm b gb mb w0 w')) ⟨(List.toArray (.pointer (some ⟨b, 0, none⟩) :: u1 :: u2 :: .pointer (some ⟨gb, 0, none⟩) :: u4 :: u5 :: u6 :: u7 :: u8 :: u9 :: u10 :: u11 :: u12 :: u13 :: u14 :: u15 :: u16 :: u17 :: u18 :: u19 :: u20 :: u21 :: u22 :: u23 :: u24 :: u25 :: u26 :: u27 :: u28 :: u29 :: u30 :: u31 :: u32 :: u33 :: u34 :: u35 :: u36 :: u37 :: u38 :: u39 :: u40 :: u41 :: u42 :: u43 :: u44 :: u45 :: u46 :: u47 :: u48 :: u49 :: u50 :: u51 :: u52 :: u53 :: u54 :: u55 :: u56 :: u57 :: u58 :: u59 :: u60 :: u61 :: u62 :: u63 :: u64 :: u65 :: u66 :: u67 :: u68 :: u69 :: [])), []⟩ w := by
  conv => arg 2; whnf
  have HCF := Lib.hid hcf
  have h1 := Lib.hid (wfU32 q1)
  have h2 := Lib.hid (wfU32 q2)
  have hno1 := Lib.hid n1
  have hno2 := Lib.hid n2
  clear hcf q1 q2 n1 n2
  refine wp_region_posts rj12_A [16, 18, 19, 21] [16, 17, 18, 19, 20, 21, 22] rj12_kill rj12_uses [21] [] [] [22]
      (some ?v0 :: some ?v1 :: some ?v2 :: some ?v3 :: some ?v4 :: some ?v5 :: some ?v6 :: some ?v7 :: some ?v8 :: some ?v9 :: some ?v10 :: some ?v11 :: some ?v12 :: some ?v13 :: some ?v14 :: some ?v15 :: none :: none :: none :: none :: none :: none :: [])
      ?T (fun wx => Jn cs mm b gb mb w0 wx) ?W ?E (by kernel_rfl) (by kernel_rfl) (by kernel_rfl) (fun x => ?hT) ?hF ?hini (Reg.all_ops ?runs) ?pres ?fin
  case W => exact fun j x w' => match j with | 16 => ∃ st : Nat, x 16 = .tuple #[.int .i64 0, goInt st] ∧ MapNew w' mb .u32 ms mm.co st | 17 => ∃ st : Nat, x 17 = goInt st ∧ MapNew w' mb .u32 ms mm.co st | 18 => MapAt w' mb .u32 (ms ++ [(mm.co, .int .i64 mm.id)]) | 19 => ∃ st : Nat, x 19 = .tuple #[.int .i64 0, goInt st] ∧ MapNew w' mb .u32 (ms ++ [(mm.co, .int .i64 mm.id)]) mm.ca st | 20 => ∃ st : Nat, x 20 = goInt st ∧ MapNew w' mb .u32 (ms ++ [(mm.co, .int .i64 mm.id)]) mm.ca st | 21 => MapAt w' mb .u32 ((ms ++ [(mm.co, .int .i64 mm.id)]) ++ [(mm.ca, .int .i64 mm.id)]) | 22 => MapAt w' mb .u32 ms | _ => True
  case E => exact fun i w' w'' => True
  case hT =>
    simp only [Reg.fillV, Act.put, List.setIfInBounds_toArray, List.set_cons_zero, List.set_cons_succ]
    rfl
  case runs =>
    refine And.intro ?_ ?_
    · refine Reg.ob_pure (fun _ => rfl) rfl rfl rfl rfl (fun x w1 hF => ?_)
      have cf : w1.cell? ⟨b, 2, none⟩ = some (.map (some mb)) := (hF.io.cell 2).trans HCF.out
      have g0 : w1.cell? ⟨gb, 0, none⟩ = some (.int .i64 mm.id) := hF.ig.cell 0
      have g1 : w1.cell? ⟨gb, 1, none⟩ = some (.int .u32 (mm.co : Int)) := hF.ig.cell 1
      have g2 : w1.cell? ⟨gb, 2, none⟩ = some (.int .u32 (mm.ca : Int)) := hF.ig.cell 2
      go_simp
      with_reducible rfl
    refine And.intro ?_ ?_
    · refine Reg.ob_pure (fun _ => rfl) rfl rfl rfl rfl (fun x w1 hF => ?_)
      have cf : w1.cell? ⟨b, 2, none⟩ = some (.map (some mb)) := (hF.io.cell 2).trans HCF.out
      have g0 : w1.cell? ⟨gb, 0, none⟩ = some (.int .i64 mm.id) := hF.ig.cell 0
      have g1 : w1.cell? ⟨gb, 1, none⟩ = some (.int .u32 (mm.co : Int)) := hF.ig.cell 1
      have g2 : w1.cell? ⟨gb, 2, none⟩ = some (.int .u32 (mm.ca : Int)) := hF.ig.cell 2
      go_simp
      with_reducible rfl
    refine And.intro ?_ ?_
    · refine Reg.ob_pure (fun _ => rfl) rfl rfl rfl rfl (fun x w1 hF => ?_)
      have cf : w1.cell? ⟨b, 2, none⟩ = some (.map (some mb)) := (hF.io.cell 2).trans HCF.out
      have g0 : w1.cell? ⟨gb, 0, none⟩ = some (.int .i64 mm.id) := hF.ig.cell 0
      have g1 : w1.cell? ⟨gb, 1, none⟩ = some (.int .u32 (mm.co : Int)) := hF.ig.cell 1
      have g2 : w1.cell? ⟨gb, 2, none⟩ = some (.int .u32 (mm.ca : Int)) := hF.ig.cell 2
      go_simp
      with_reducible rfl
    refine And.intro ?_ ?_
    · refine Reg.ob_pure (fun _ => rfl) rfl rfl rfl rfl (fun x w1 hF => ?_)
      have cf : w1.cell? ⟨b, 2, none⟩ = some (.map (some mb)) := (hF.io.cell 2).trans HCF.out
      have g0 : w1.cell? ⟨gb, 0, none⟩ = some (.int .i64 mm.id) := hF.ig.cell 0
      have g1 : w1.cell? ⟨gb, 1, none⟩ = some (.int .u32 (mm.co : Int)) := hF.ig.cell 1
      have g2 : w1.cell? ⟨gb, 2, none⟩ = some (.int .u32 (mm.ca : Int)) := hF.ig.cell 2
      go_simp
      with_reducible rfl
    refine And.intro ?_ ?_
    · refine Reg.ob_pure (fun _ => rfl) rfl rfl rfl rfl (fun x w1 hF => ?_)
      have cf : w1.cell? ⟨b, 2, none⟩ = some (.map (some mb)) := (hF.io.cell 2).trans HCF.out
      have g0 : w1.cell? ⟨gb, 0, none⟩ = some (.int .i64 mm.id) := hF.ig.cell 0
      have g1 : w1.cell? ⟨gb, 1, none⟩ = some (.int .u32 (mm.co : Int)) := hF.ig.cell 1
      have g2 : w1.cell? ⟨gb, 2, none⟩ = some (.int .u32 (mm.ca : Int)) := hF.ig.cell 2
      go_simp
      with_reducible rfl
    refine And.intro ?_ ?_
    · refine Reg.ob_pure (fun _ => rfl) rfl rfl rfl rfl (fun x w1 hF => ?_)
      have cf : w1.cell? ⟨b, 2, none⟩ = some (.map (some mb)) := (hF.io.cell 2).trans HCF.out
      have g0 : w1.cell? ⟨gb, 0, none⟩ = some (.int .i64 mm.id) := hF.ig.cell 0
      have g1 : w1.cell? ⟨gb, 1, none⟩ = some (.int .u32 (mm.co : Int)) := hF.ig.cell 1
      have g2 : w1.cell? ⟨gb, 2, none⟩ = some (.int .u32 (mm.ca : Int)) := hF.ig.cell 2
      go_simp
      with_reducible rfl
    refine And.intro ?_ ?_
    · refine Reg.ob_pure (fun _ => rfl) rfl rfl rfl rfl (fun x w1 hF => ?_)
      have cf : w1.cell? ⟨b, 2, none⟩ = some (.map (some mb)) := (hF.io.cell 2).trans HCF.out
      have g0 : w1.cell? ⟨gb, 0, none⟩ = some (.int .i64 mm.id) := hF.ig.cell 0
      have g1 : w1.cell? ⟨gb, 1, none⟩ = some (.int .u32 (mm.co : Int)) := hF.ig.cell 1
      have g2 : w1.cell? ⟨gb, 2, none⟩ = some (.int .u32 (mm.ca : Int)) := hF.ig.cell 2
      go_simp
      with_reducible rfl
    refine And.intro ?_ ?_
    · refine Reg.ob_pure (fun _ => rfl) rfl rfl rfl rfl (fun x w1 hF => ?_)
      have cf : w1.cell? ⟨b, 2, none⟩ = some (.map (some mb)) := (hF.io.cell 2).trans HCF.out
      have g0 : w1.cell? ⟨gb, 0, none⟩ = some (.int .i64 mm.id) := hF.ig.cell 0
      have g1 : w1.cell? ⟨gb, 1, none⟩ = some (.int .u32 (mm.co : Int)) := hF.ig.cell 1
      have g2 : w1.cell? ⟨gb, 2, none⟩ = some (.int .u32 (mm.ca : Int)) := hF.ig.cell 2
      go_simp
      with_reducible rfl
    refine And.intro ?_ ?_
    · refine Reg.ob_pure (fun _ => rfl) rfl rfl rfl rfl (fun x w1 hF => ?_)
      have cf : w1.cell? ⟨b, 2, none⟩ = some (.map (some mb)) := (hF.io.cell 2).trans HCF.out
      have g0 : w1.cell? ⟨gb, 0, none⟩ = some (.int .i64 mm.id) := hF.ig.cell 0
      have g1 : w1.cell? ⟨gb, 1, none⟩ = some (.int .u32 (mm.co : Int)) := hF.ig.cell 1
      have g2 : w1.cell? ⟨gb, 2, none⟩ = some (.int .u32 (mm.ca : Int)) := hF.ig.cell 2
      go_simp
      with_reducible rfl
    refine And.intro ?_ ?_
    · refine Reg.ob_pure (fun _ => rfl) rfl rfl rfl rfl (fun x w1 hF => ?_)
      have cf : w1.cell? ⟨b, 2, none⟩ = some (.map (some mb)) := (hF.io.cell 2).trans HCF.out
      have g0 : w1.cell? ⟨gb, 0, none⟩ = some (.int .i64 mm.id) := hF.ig.cell 0
      have g1 : w1.cell? ⟨gb, 1, none⟩ = some (.int .u32 (mm.co : Int)) := hF.ig.cell 1
      have g2 : w1.cell? ⟨gb, 2, none⟩ = some (.int .u32 (mm.ca : Int)) := hF.ig.cell 2
      go_simp
      with_reducible rfl
    refine And.intro ?_ ?_
    · refine Reg.ob_pure (fun _ => rfl) rfl rfl rfl rfl (fun x w1 hF => ?_)
      have cf : w1.cell? ⟨b, 2, none⟩ = some (.map (some mb)) := (hF.io.cell 2).trans HCF.out
      have g0 : w1.cell? ⟨gb, 0, none⟩ = some (.int .i64 mm.id) := hF.ig.cell 0
      have g1 : w1.cell? ⟨gb, 1, none⟩ = some (.int .u32 (mm.co : Int)) := hF.ig.cell 1
      have g2 : w1.cell? ⟨gb, 2, none⟩ = some (.int .u32 (mm.ca : Int)) := hF.ig.cell 2
      go_simp
      with_reducible rfl
    refine And.intro ?_ ?_
    · refine Reg.ob_pure (fun _ => rfl) rfl rfl rfl rfl (fun x w1 hF => ?_)
      have cf : w1.cell? ⟨b, 2, none⟩ = some (.map (some mb)) := (hF.io.cell 2).trans HCF.out
      have g0 : w1.cell? ⟨gb, 0, none⟩ = some (.int .i64 mm.id) := hF.ig.cell 0
      have g1 : w1.cell? ⟨gb, 1, none⟩ = some (.int .u32 (mm.co : Int)) := hF.ig.cell 1
      have g2 : w1.cell? ⟨gb, 2, none⟩ = some (.int .u32 (mm.ca : Int)) := hF.ig.cell 2
      go_simp
      with_reducible rfl
    refine And.intro ?_ ?_
    · refine Reg.ob_pure (fun _ => rfl) rfl rfl rfl rfl (fun x w1 hF => ?_)
      have cf : w1.cell? ⟨b, 2, none⟩ = some (.map (some mb)) := (hF.io.cell 2).trans HCF.out
      have g0 : w1.cell? ⟨gb, 0, none⟩ = some (.int .i64 mm.id) := hF.ig.cell 0
      have g1 : w1.cell? ⟨gb, 1, none⟩ = some (.int .u32 (mm.co : Int)) := hF.ig.cell 1
      have g2 : w1.cell? ⟨gb, 2, none⟩ = some (.int .u32 (mm.ca : Int)) := hF.ig.cell 2
      go_simp
      with_reducible rfl
    refine And.intro ?_ ?_
    · refine Reg.ob_pure (fun _ => rfl) rfl rfl rfl rfl (fun x w1 hF => ?_)
      have cf : w1.cell? ⟨b, 2, none⟩ = some (.map (some mb)) := (hF.io.cell 2).trans HCF.out
      have g0 : w1.cell? ⟨gb, 0, none⟩ = some (.int .i64 mm.id) := hF.ig.cell 0
      have g1 : w1.cell? ⟨gb, 1, none⟩ = some (.int .u32 (mm.co : Int)) := hF.ig.cell 1
      have g2 : w1.cell? ⟨gb, 2, none⟩ = some (.int .u32 (mm.ca : Int)) := hF.ig.cell 2
      go_simp
      with_reducible rfl
    refine And.intro ?_ ?_
    · refine Reg.ob_pure (fun _ => rfl) rfl rfl rfl rfl (fun x w1 hF => ?_)
      have cf : w1.cell? ⟨b, 2, none⟩ = some (.map (some mb)) := (hF.io.cell 2).trans HCF.out
      have g0 : w1.cell? ⟨gb, 0, none⟩ = some (.int .i64 mm.id) := hF.ig.cell 0
      have g1 : w1.cell? ⟨gb, 1, none⟩ = some (.int .u32 (mm.co : Int)) := hF.ig.cell 1
      have g2 : w1.cell? ⟨gb, 2, none⟩ = some (.int .u32 (mm.ca : Int)) := hF.ig.cell 2
      go_simp
      with_reducible rfl
    refine And.intro ?_ ?_
    · refine Reg.ob_pure (fun _ => rfl) rfl rfl rfl rfl (fun x w1 hF => ?_)
      have cf : w1.cell? ⟨b, 2, none⟩ = some (.map (some mb)) := (hF.io.cell 2).trans HCF.out
      have g0 : w1.cell? ⟨gb, 0, none⟩ = some (.int .i64 mm.id) := hF.ig.cell 0
      have g1 : w1.cell? ⟨gb, 1, none⟩ = some (.int .u32 (mm.co : Int)) := hF.ig.cell 1
      have g2 : w1.cell? ⟨gb, 2, none⟩ = some (.int .u32 (mm.ca : Int)) := hF.ig.cell 2
      go_simp
      with_reducible rfl
    refine And.intro ?_ ?_
    · refine Reg.ob_some (fun _ => rfl) rfl (fun x w1 hF hU K hK => ?_)
      replace hF := hF rfl
      obtain ⟨hA, -⟩ := hU
      have hA : MapAt w1 mb .u32 ms := hA
      refine wp_mentry _ _ 107 rfl 30 3 Try.underlying107 Try.underlying30 (zero_int _) rfl hA rfl h1.out hno1.out ?_
      intro st w' hN ho
      exact hK _ w' (fun _ _ _ => hF.go ho hne1 hne2) trivial ⟨st, rfl, hN⟩
    refine And.intro ?_ ?_
    · refine Reg.ob_some (fun _ => rfl) rfl (fun x w1 hF hU K hK => ?_)
      replace hF := hF rfl
      obtain ⟨⟨st, hx, hN⟩, -⟩ := hU
      have hx : x 16 = .tuple #[.int .i64 0, goInt st] := hx
      revert hK
      simp only [Nat.reduceAdd, hx]
      intro hK
      go_simp
      exact hK _ w1 (fun _ _ _ => hF) rfl ⟨st, rfl, hN⟩
    refine And.intro ?_ ?_
    · refine Reg.ob_some (fun _ => rfl) rfl (fun x w1 hF hU K hK => ?_)
      replace hF := hF rfl
      obtain ⟨⟨st, hx, hN⟩, -⟩ := hU
      have hx : x 17 = goInt st := hx
      refine wp_mstore (b := mb) (n := mm.co) (q := .u32) (ms := ms) _ _ _ 107 rfl rfl (by simpa [Act.eval] using hx) (.int .i64 mm.id) rfl hN ?_
      intro w' hA ho
      exact hK _ w' (fun _ _ _ => hF.go ho hne1 hne2) trivial hA
    refine And.intro ?_ ?_
    · refine Reg.ob_some (fun _ => rfl) rfl (fun x w1 hF hU K hK => ?_)
      replace hF := hF rfl
      obtain ⟨hA, -⟩ := hU
      have hA : MapAt w1 mb .u32 (ms ++ [(mm.co, .int .i64 mm.id)]) := hA
      refine wp_mentry _ _ 107 rfl 30 3 Try.underlying107 Try.underlying30 (zero_int _) rfl hA rfl h2.out hno2.out ?_
      intro st w' hN ho
      exact hK _ w' (fun _ _ _ => hF.go ho hne1 hne2) trivial ⟨st, rfl, hN⟩
    refine And.intro ?_ ?_
    · refine Reg.ob_some (fun _ => rfl) rfl (fun x w1 hF hU K hK => ?_)
      replace hF := hF rfl
      obtain ⟨⟨st, hx, hN⟩, -⟩ := hU
      have hx : x 19 = .tuple #[.int .i64 0, goInt st] := hx
      revert hK
      simp only [Nat.reduceAdd, hx]
      intro hK
      go_simp
      exact hK _ w1 (fun _ _ _ => hF) rfl ⟨st, rfl, hN⟩
    refine And.intro ?_ ?_
    · refine Reg.ob_some (fun _ => rfl) rfl (fun x w1 hF hU K hK => ?_)
      replace hF := hF rfl
      obtain ⟨⟨st, hx, hN⟩, -⟩ := hU
      have hx : x 20 = goInt st := hx
      refine wp_mstore (b := mb) (n := mm.ca) (q := .u32) (ms := (ms ++ [(mm.co, .int .i64 mm.id)])) _ _ _ 107 rfl rfl (by simpa [Act.eval] using hx) (.int .i64 mm.id) rfl hN ?_
      intro w' hA ho
      exact hK _ w' (fun _ _ _ => hF.go ho hne1 hne2) trivial hA
    exact trivial
  case hF =>
    exact hG.go ((Only.refl _ _).drewN 1) hne1 hne2
  case hini =>
    exact ⟨fun x => hmp.only ((Only.refl (fun _ => False) w).drewN 1) (by simp), trivial⟩
  case pres =>
    intro i hi j hj hc x wx wy hF hE hW
    simp only [List.mem_cons, List.mem_nil_iff, or_false] at hi hj
    rcases hi with rfl | rfl | rfl | rfl <;> rcases hj with rfl | rfl | rfl | rfl | rfl | rfl | rfl
    all_goals (exfalso; revert hc; decide)
  case fin =>
    rintro x w9 hF hU
    obtain ⟨hQ, -⟩ := hU
    repeat apply Exists.intro
    exact ⟨rfl, rfl, hQ, hF rfl⟩

set_option maxRecDepth 100000 in
set_option maxHeartbeats 4000000 in
theorem rj12 (cs : Array Value) (mm : Mb) (b gb mb : Nat) (ms : List (Nat × Value)) (w0 : World) (hcf : cs[2]? = some (.map (some mb))) (hne1 : b ≠ mb) (hne2 : gb ≠ mb) (q1 : mm.co < 4294967296) (q2 : mm.ca < 4294967296) (n1 : mget ms mm.co = none) (n2 : mget (ms ++ [(mm.co, .int .i64 mm.id)]) mm.ca = none)  (u1 u2 u4 u5 u6 u7 u8 u9 u10 u11 u12 u13 u14 u15 u16 u17 u18 u19 u20 u21 u22 u23 u24 u25 u26 u27 u28 u29 u30 u31 u32 u33 u34 u35 u36 u37 u38 u39 u40 u41 u42 u43 u44 u45 u46 u47 u48 u49 u50 u51 u52 u53 u54 u55 u56 u57 u58 u59 u60 u61 u62 u63 u64 u65 u66 u67 u68 u69 : Value) (Q : Exit → Act → World → Prop) (w : World) (hG : Jn cs mm b gb mb w0 w) (hmp : MapAt w mb .u32 ms)
    (hend : ∀ (y50 y51 y52 y53 y54 y55 y56 y57 y58 y59 y60 y61 y62 y63 y64 y65 y66 y67 y68 y69 : Value) (w' : World), (MapAt w' mb .u32 ((ms ++ [(mm.co, .int .i64 mm.id)]) ++ [(mm.ca, .int .i64 mm.id)]) ∧ Jn cs mm b gb mb w0 w') → Q .normal ⟨(List.toArray (.pointer (some ⟨b, 0, none⟩) :: u1 :: u2 :: .pointer (some ⟨gb, 0, none⟩) :: u4 :: u5 :: u6 :: u7 :: u8 :: u9 :: u10 :: u11 :: u12 :: u13 :: u14 :: u15 :: u16 :: u17 :: u18 :: u19 :: u20 :: u21 :: u22 :: u23 :: u24 :: u25 :: u26 :: u27 :: u28 :: u29 :: u30 :: u31 :: u32 :: u33 :: u34 :: u35 :: u36 :: u37 :: u38 :: u39 :: u40 :: u41 :: u42 :: u43 :: u44 :: u45 :: u46 :: u47 :: u48 :: u49 :: y50 :: y51 :: y52 :: y53 :: y54 :: y55 :: y56 :: y57 :: y58 :: y59 :: y60 :: y61 :: y62 :: y63 :: y64 :: y65 :: y66 :: y67 :: y68 :: y69 :: [])), []⟩ w') :
    Code.wp Try.prog rj12_code Q ⟨(List.toArray (.pointer (some ⟨b, 0, none⟩) :: u1 :: u2 :: .pointer (some ⟨gb, 0, none⟩) :: u4 :: u5 :: u6 :: u7 :: u8 :: u9 :: u10 :: u11 :: u12 :: u13 :: u14 :: u15 :: u16 :: u17 :: u18 :: u19 :: u20 :: u21 :: u22 :: u23 :: u24 :: u25 :: u26 :: u27 :: u28 :: u29 :: u30 :: u31 :: u32 :: u33 :: u34 :: u35 :: u36 :: u37 :: u38 :: u39 :: u40 :: u41 :: u42 :: u43 :: u44 :: u45 :: u46 :: u47 :: u48 :: u49 :: u50 :: u51 :: u52 :: u53 :: u54 :: u55 :: u56 :: u57 :: u58 :: u59 :: u60 :: u61 :: u62 :: u63 :: u64 :: u65 :: u66 :: u67 :: u68 :: u69 :: [])), []⟩ w := by
  refine wp_mono (rj12_in cs mm b gb mb ms w0 hcf hne1 hne2 q1 q2 n1 n2 _ _ _ _ _ _ _ _ _ _ _ _ _ _ _ _ _ _ _ _ _ _ _ _ _ _ _ _ _ _ _ _ _ _ _ _ _ _ _ _ _ _ _ _ _ _ _ _ _ _ _ _ _ _ _ _ _ _ _ _ _ _ _ _ _ _ _ _ w hG hmp) ?_
  rintro e a w' h
  obtain ⟨y50, h⟩ := h
  obtain ⟨y51, h⟩ := h
  obtain ⟨y52, h⟩ := h
  obtain ⟨y53, h⟩ := h
  obtain ⟨y54, h⟩ := h
  obtain ⟨y55, h⟩ := h
  obtain ⟨y56, h⟩ := h
  obtain ⟨y57, h⟩ := h
  obtain ⟨y58, h⟩ := h
  obtain ⟨y59, h⟩ := h
  obtain ⟨y60, h⟩ := h
  obtain ⟨y61, h⟩ := h
  obtain ⟨y62, h⟩ := h
  obtain ⟨y63, h⟩ := h
  obtain ⟨y64, h⟩ := h
  obtain ⟨y65, h⟩ := h
  obtain ⟨y66, h⟩ := h
  obtain ⟨y67, h⟩ := h
  obtain ⟨y68, h⟩ := h
  obtain ⟨y69, h⟩ := h
  obtain ⟨h, rfl, hq⟩ := h
  subst h
  exact hend y50 y51 y52 y53 y54 y55 y56 y57 y58 y59 y60 y61 y62 y63 y64 y65 y66 y67 y68 y69 w' hq
end Go.Proofs.Ytglgmhdajmncjaa
