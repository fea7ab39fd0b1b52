/- roster: the reference's Join. Conditions: as each says. -/
import Derived.Test.YtglgmhdajmncjaaRyN
set_option linter.unusedVariables false
set_option linter.unusedSimpArgs false
namespace Go.Proofs.Ytglgmhdajmncjaa
open Go Go.RowKit

theorem getV_form (o : Option Mb) : ∃ x : Mb, getV o = .tuple #[mbV x, .bool o.isSome] := by
  cases o with
  | none => exact ⟨mb0, rfl⟩
  | some m => exact ⟨m, rfl⟩
theorem srcV_form (o : Option Mb) (s : Nat) : ∃ (x : Mb) (b : Bool), srcV o s = .tuple #[mbV x, .bool b, .bool o.isSome] := by
  cases o with
  | none => exact ⟨mb0, false, rfl⟩
  | some m => exact ⟨m, _, rfl⟩
/-- Amid Join's end: what is read; nothing that was there is written. -/
structure Gq (most : Int) (v : Value) (mm : Mb) (sb gb : Nat) (w0 wx : World) : Prop where
  io : Is wx sb 54 #[.int .i64 most, v]
  ig : Is wx gb 65 #[.int .i64 mm.id, .int .u32 (mm.co : Int), .int .u32 (mm.ca : Int), .bool mm.mo]
  only : Only (fun _ => False) w0 wx
theorem Gq.go {most : Int} {v : Value} {mm : Mb} {sb gb : Nat} {w0 wx wy : World} (h : Gq most v mm sb gb w0 wx) (ho : Only (fun _ => False) wx wy) : Gq most v mm sb gb w0 wy :=
  ⟨h.io.only ho (by simp), h.ig.only ho (by simp), h.only.trans ho (fun _ _ e => e)⟩
def rj14_A : List (List Nat) := ([] :: [0] :: [] :: [] :: [3] :: [2, 4, 3] :: [1, 5, 0, 2, 4, 3] :: [6, 5, 0, 1, 2, 3, 4] :: (7 :: 0 :: 1 :: 2 :: 3 :: 4 :: 5 :: 6 :: []) :: [])
def rj14_kill : List (List Nat) := ([] :: [] :: [] :: [] :: [] :: [4, 9] :: [] :: [4, 5, 6, 9, 10] :: [] :: [])
def rj14_uses : List (List Nat) := ([] :: [] :: [] :: [] :: [] :: [4, 9] :: [5] :: [6, 10] :: [] :: [])
noncomputable def rj14_code : Code := ((Try.f24.body.bind (codeRegion 14)).getD .skip)
set_option maxRecDepth 100000 in
set_option maxHeartbeats 4000000 in
theorem rj14_in (most : Int) (v : Value) (mm : Mb) (sb gb rb k c : Nat) (Ao : Option Addr) (xss : List (List Value)) (w0 : World) (hl : xss.length = k) (hk : k ≤ 100000) (hne1 : sb ≠ rb) (hne2 : gb ≠ rb) (hrb : w0.heap.size ≤ rb) (hgb : Value.ownBlock (.slice Ao k c) ≠ some gb) (hgr : Value.ownBlock (.slice Ao k c) ≠ some rb)  (u0 u1 u5 u6 u7 u8 u9 u10 u11 u12 u13 u15 u16 u17 u18 u19 u20 u21 u22 u23 u24 u25 u26 u27 u28 u29 u30 u31 u32 u33 u34 u35 u36 u37 u38 u39 u40 u41 u42 u43 u44 u45 u46 u47 u48 u49 u50 u51 u52 u53 u54 u55 u56 u57 u58 u59 u60 u61 u62 u63 u64 u65 u66 u67 u68 u69 u70 u71 u72 u73 u74 u75 u76 u77 u78 u79 u80 u81 u82 u83 : Value) (w : World) (hG : Gq most v mm sb gb w0 w) (hown : OwnS w w0.heap.size 65 4 (.slice Ao k c) xss) (hz : Is w rb 54 zeroRo) :
    Code.wp Try.prog rj14_code (fun e a w' => ∃ y77 y78 y79 y80 y81 y82 y83 : Value, a = ⟨(List.toArray (u0 :: u1 :: .pointer (some ⟨sb, 0, none⟩) :: .pointer (some ⟨gb, 0, none⟩) :: .pointer (some ⟨rb, 0, none⟩) :: .int .i64 0 :: u6 :: u7 :: u8 :: u9 :: u10 :: u11 :: u12 :: u13 :: (.slice Ao k c) :: u15 :: u16 :: u17 :: u18 :: u19 :: u20 :: u21 :: u22 :: u23 :: u24 :: u25 :: u26 :: u27 :: u28 :: u29 :: u30 :: u31 :: u32 :: u33 :: u34 :: u35 :: u36 :: u37 :: u38 :: u39 :: u40 :: u41 :: u42 :: u43 :: u44 :: u45 :: u46 :: u47 :: u48 :: u49 :: u50 :: u51 :: u52 :: u53 :: u54 :: u55 :: u56 :: u57 :: u58 :: u59 :: u60 :: u61 :: u62 :: u63 :: u64 :: u65 :: u66 :: u67 :: u68 :: u69 :: u70 :: u71 :: u72 :: u73 :: u74 :: u75 :: u76 :: y77 :: y78 :: y79 :: y80 :: y81 :: y82 :: y83 :: [])), []⟩ ∧ e = .normal ∧ (∃ A' c', Is w' rb 54 #[.int .i64 most, (.slice A' (k + 1) c')] ∧ OwnS w' w0.heap.size 65 4 (.slice A' (k + 1) c') (xss ++ [[Value.int .i64 mm.id, Value.int .u32 (mm.co : Int), Value.int .u32 (mm.ca : Int), Value.bool mm.mo]]) ∧ Only (fun _ => False) w0 w')) ⟨(List.toArray (u0 :: u1 :: .pointer (some ⟨sb, 0, none⟩) :: .pointer (some ⟨gb, 0, none⟩) :: .pointer (some ⟨rb, 0, none⟩) :: u5 :: u6 :: u7 :: u8 :: u9 :: u10 :: u11 :: u12 :: u13 :: (.slice Ao k c) :: u15 :: u16 :: u17 :: u18 :: u19 :: u20 :: u21 :: u22 :: u23 :: u24 :: u25 :: u26 :: u27 :: u28 :: u29 :: u30 :: u31 :: u32 :: u33 :: u34 :: u35 :: u36 :: u37 :: u38 :: u39 :: u40 :: u41 :: u42 :: u43 :: u44 :: u45 :: u46 :: u47 :: u48 :: u49 :: u50 :: u51 :: u52 :: u53 :: u54 :: u55 :: u56 :: u57 :: u58 :: u59 :: u60 :: u61 :: u62 :: u63 :: u64 :: u65 :: u66 :: u67 :: u68 :: u69 :: u70 :: u71 :: u72 :: u73 :: u74 :: u75 :: u76 :: u77 :: u78 :: u79 :: u80 :: u81 :: u82 :: u83 :: [])), []⟩ w := by
  conv => arg 2; whnf
  have hgo := Lib.hid hgb
  clear hgb
  refine wp_region_posts rj14_A [4, 5, 7] [4, 5, 6, 7, 9, 10] rj14_kill rj14_uses [7] [] [] [9, 10]
      (some ?v0 :: some ?v1 :: some ?v2 :: some (.agg #[Value.int .i64 mm.id, Value.int .u32 (mm.co : Int), Value.int .u32 (mm.ca : Int), Value.bool mm.mo]) :: none :: none :: none :: none :: some ?v8 :: [])
      ?T (fun wx => Gq most v mm sb gb w0 wx) ?W ?E (by kernel_rfl) (by kernel_rfl) (by kernel_rfl) (fun x => ?hT) ?hF ?hini (Reg.all_ops ?runs) ?pres ?fin
  case W => exact fun j x w' => match j with | 4 => ∃ g, x 4 = .slice (some ⟨g, 0, none⟩) 1 1 ∧ Is w' g 65 #[Value.int .i64 mm.id, Value.int .u32 (mm.co : Int), Value.int .u32 (mm.ca : Int), Value.bool mm.mo] | 5 => ∃ A' c', x 5 = (.slice A' (k + 1) c') ∧ OwnS w' w0.heap.size 65 4 (.slice A' (k + 1) c') (xss ++ [[Value.int .i64 mm.id, Value.int .u32 (mm.co : Int), Value.int .u32 (mm.ca : Int), Value.bool mm.mo]]) | 6 => ∃ A' c', x 6 = .agg #[.int .i64 most, (.slice A' (k + 1) c')] ∧ OwnS w' w0.heap.size 65 4 (.slice A' (k + 1) c') (xss ++ [[Value.int .i64 mm.id, Value.int .u32 (mm.co : Int), Value.int .u32 (mm.ca : Int), Value.bool mm.mo]]) | 7 => ∃ A' c', Is w' rb 54 #[.int .i64 most, (.slice A' (k + 1) c')] ∧ OwnS w' w0.heap.size 65 4 (.slice A' (k + 1) c') (xss ++ [[Value.int .i64 mm.id, Value.int .u32 (mm.co : Int), Value.int .u32 (mm.ca : Int), Value.bool mm.mo]]) | 9 => OwnS w' w0.heap.size 65 4 (.slice Ao k c) xss | 10 => Is w' rb 54 zeroRo | _ => True
  case E => exact fun i w' w'' => match i with | 4 => Only (fun _ => False) w' w'' | 5 => Only (fun k1 => Value.ownBlock (.slice Ao k c) = some k1) w' w'' | _ => True
  case hT =>
    simp only [Reg.fillV, Act.put, List.setIfInBounds_toArray, List.set_cons_zero, List.set_cons_succ]
    rfl
  case runs =>
    refine And.intro ?_ ?_
    · refine Reg.ob_pure (fun _ => rfl) rfl rfl rfl rfl (fun x w1 hF => ?_)
      have c0 : w1.cell? ⟨sb, 0, none⟩ = some (.int .i64 most) := hF.io.cell 0
      go_simp
      with_reducible rfl
    refine And.intro ?_ ?_
    · refine Reg.ob_pure (fun _ => rfl) rfl rfl rfl rfl (fun x w1 hF => ?_)
      have c0 : w1.cell? ⟨sb, 0, none⟩ = some (.int .i64 most) := hF.io.cell 0
      go_simp
      with_reducible rfl
    refine And.intro ?_ ?_
    · refine Reg.ob_pure (fun _ => rfl) rfl rfl rfl rfl (fun x w1 hF => ?_)
      have c0 : w1.cell? ⟨sb, 0, none⟩ = some (.int .i64 most) := hF.io.cell 0
      go_simp
      with_reducible rfl
    refine And.intro ?_ ?_
    · refine Reg.ob_pure (fun _ => rfl) rfl rfl rfl rfl (fun x w1 hF => ?_)
      exact run_load_at 65 _ (by rfl) gb (by rfl) 65 _ _ hF.ig Try.underlying65 rfl Try.sizeRm
    refine And.intro ?_ ?_
    · refine Reg.ob_some (fun _ => rfl) rfl (fun x w1 hF hU K hK => ?_)
      replace hF := hF rfl
      go_simp
      exact hK _ _ (fun _ _ _ => hF.go ((Only.refl _ _).alloc _)) ((Only.refl _ _).alloc _) ⟨_, rfl, Is.made _ _ _⟩
    refine And.intro ?_ ?_
    · refine Reg.ob_some (fun _ => rfl) rfl (fun x w1 hF hU K hK => ?_)
      replace hF := hF rfl
      obtain ⟨⟨g, hx, hI⟩, hO, -⟩ := hU
      have hx : x 4 = .slice (some ⟨g, 0, none⟩) 1 1 := hx
      have hO : OwnS w1 w0.heap.size 65 4 (.slice Ao k c) xss := hO
      refine append_runN w1 _ _ sty_rm rfl w0.heap.size (.slice Ao k c) xss rfl hO g [Value.int .i64 mm.id, Value.int .u32 (mm.co : Int), Value.int .u32 (mm.ca : Int), Value.bool mm.mo] (by simpa [Act.eval] using hx) hI rfl (by simp [Value.oneCell']) (by omega) (by decide) hF.only.size ?_
      intro v' w' hown ho hn
      obtain ⟨A', c', rfl, -⟩ := OwnS.slice hown
      have e : (xss ++ [[Value.int .i64 mm.id, Value.int .u32 (mm.co : Int), Value.int .u32 (mm.ca : Int), Value.bool mm.mo]]).length = k + 1 := by rw [List.length_append, hl]; rfl
      rw [e] at hown hn
      rw [e]
      have hG' : Gq most v mm sb gb w0 w' := ⟨hF.io.only ho (owned_off hO.1 hF.io (by decide)), hF.ig.only ho (hgo.out), hF.only.trans ho (fun i hi e => by have := (hO.lt i e).1; omega)⟩
      exact hK _ w' (fun _ _ _ => hG') ho ⟨A', c', rfl, hown⟩
    refine And.intro ?_ ?_
    · refine Reg.ob_some (fun _ => rfl) rfl (fun x w1 hF hU K hK => ?_)
      replace hF := hF rfl
      obtain ⟨⟨A', c', hx, hO⟩, -⟩ := hU
      have hx : x 5 = .slice A' (k + 1) c' := hx
      revert hK
      simp only [Nat.reduceAdd, hx]
      intro hK
      go_simp
      exact hK _ w1 (fun _ _ _ => hF) rfl ⟨A', c', rfl, hO⟩
    refine And.intro ?_ ?_
    · refine Reg.ob_some (fun _ => rfl) rfl (fun x w1 hF hU K hK => ?_)
      replace hF := hF rfl
      obtain ⟨⟨A', c', hx, hO⟩, hZ, -⟩ := hU
      have hx : x 6 = .agg #[.int .i64 most, .slice A' (k + 1) c'] := hx
      have hZ : Is w1 rb 54 zeroRo := hZ
      refine wp_store_is 54 _ _ rfl rb #[.int .i64 most, .slice A' (k + 1) c'] rfl (by simpa [Act.eval] using hx) _ _ hZ Try.sizeRo rfl (by simp [Value.oneCell']) ?_
      intro w' hI ho
      exact hK _ w' (fun _ _ _ => ⟨hF.io.only ho (fun e => hne1 e), hF.ig.only ho (fun e => hne2 e), hF.only.trans ho (fun i hi e => by omega)⟩) trivial ⟨A', c', hI, OwnS.only hO ho (fun j hj e => owned_off hO.1 hZ (by decide) (by rw [hj, e]))⟩
    refine And.intro ?_ ?_
    · refine Reg.ob_pure (fun _ => rfl) rfl rfl rfl rfl (fun x w1 hF => ?_)
      have c0 : w1.cell? ⟨sb, 0, none⟩ = some (.int .i64 most) := hF.io.cell 0
      go_simp
      with_reducible rfl
    exact trivial
  case hF =>
    exact hG.go ((Only.refl _ _).drewN 1)
  case hini =>
    exact ⟨fun x => OwnS.only hown ((Only.refl (fun _ => False) w).drewN 1) (by simp), fun x => hz.only ((Only.refl (fun _ => False) w).drewN 1) (by simp), trivial⟩
  case pres =>
    intro i hi j hj hc x wx wy hF hE hW
    simp only [List.mem_cons, List.mem_nil_iff, or_false] at hi hj
    rcases hi with rfl | rfl | rfl <;> rcases hj with rfl | rfl | rfl | rfl | rfl | rfl
    all_goals first
      | (exfalso; revert hc; decide)
      | (obtain ⟨g, h1, h3⟩ := hW; exact ⟨g, h1, h3.only hE (by simp)⟩)
      | exact OwnS.only hW hE (by simp)
      | exact Is.only hW hE (by simp)
      | exact Is.only hW hE hgr
  case fin =>
    rintro x w9 hF hU
    obtain ⟨⟨A', c', hQ1, hQ2⟩, -⟩ := hU
    repeat apply Exists.intro
    exact ⟨rfl, rfl, A', c', hQ1, hQ2, (hF rfl).only⟩

set_option maxRecDepth 100000 in
set_option maxHeartbeats 4000000 in
theorem rj14 (most : Int) (v : Value) (mm : Mb) (sb gb rb k c : Nat) (Ao : Option Addr) (xss : List (List Value)) (w0 : World) (hl : xss.length = k) (hk : k ≤ 100000) (hne1 : sb ≠ rb) (hne2 : gb ≠ rb) (hrb : w0.heap.size ≤ rb) (hgb : Value.ownBlock (.slice Ao k c) ≠ some gb) (hgr : Value.ownBlock (.slice Ao k c) ≠ some rb)  (u0 u1 u5 u6 u7 u8 u9 u10 u11 u12 u13 u15 u16 u17 u18 u19 u20 u21 u22 u23 u24 u25 u26 u27 u28 u29 u30 u31 u32 u33 u34 u35 u36 u37 u38 u39 u40 u41 u42 u43 u44 u45 u46 u47 u48 u49 u50 u51 u52 u53 u54 u55 u56 u57 u58 u59 u60 u61 u62 u63 u64 u65 u66 u67 u68 u69 u70 u71 u72 u73 u74 u75 u76 u77 u78 u79 u80 u81 u82 u83 : Value) (Q : Exit → Act → World → Prop) (w : World) (hG : Gq most v mm sb gb w0 w) (hown : OwnS w w0.heap.size 65 4 (.slice Ao k c) xss) (hz : Is w rb 54 zeroRo)
    (hend : ∀ (y77 y78 y79 y80 y81 y82 y83 : Value) (w' : World), (∃ A' c', Is w' rb 54 #[.int .i64 most, (.slice A' (k + 1) c')] ∧ OwnS w' w0.heap.size 65 4 (.slice A' (k + 1) c') (xss ++ [[Value.int .i64 mm.id, Value.int .u32 (mm.co : Int), Value.int .u32 (mm.ca : Int), Value.bool mm.mo]]) ∧ Only (fun _ => False) w0 w') → Q .normal ⟨(List.toArray (u0 :: u1 :: .pointer (some ⟨sb, 0, none⟩) :: .pointer (some ⟨gb, 0, none⟩) :: .pointer (some ⟨rb, 0, none⟩) :: .int .i64 0 :: u6 :: u7 :: u8 :: u9 :: u10 :: u11 :: u12 :: u13 :: (.slice Ao k c) :: u15 :: u16 :: u17 :: u18 :: u19 :: u20 :: u21 :: u22 :: u23 :: u24 :: u25 :: u26 :: u27 :: u28 :: u29 :: u30 :: u31 :: u32 :: u33 :: u34 :: u35 :: u36 :: u37 :: u38 :: u39 :: u40 :: u41 :: u42 :: u43 :: u44 :: u45 :: u46 :: u47 :: u48 :: u49 :: u50 :: u51 :: u52 :: u53 :: u54 :: u55 :: u56 :: u57 :: u58 :: u59 :: u60 :: u61 :: u62 :: u63 :: u64 :: u65 :: u66 :: u67 :: u68 :: u69 :: u70 :: u71 :: u72 :: u73 :: u74 :: u75 :: u76 :: y77 :: y78 :: y79 :: y80 :: y81 :: y82 :: y83 :: [])), []⟩ w') :
    Code.wp Try.prog rj14_code Q ⟨(List.toArray (u0 :: u1 :: .pointer (some ⟨sb, 0, none⟩) :: .pointer (some ⟨gb, 0, none⟩) :: .pointer (some ⟨rb, 0, none⟩) :: u5 :: u6 :: u7 :: u8 :: u9 :: u10 :: u11 :: u12 :: u13 :: (.slice Ao k c) :: u15 :: u16 :: u17 :: u18 :: u19 :: u20 :: u21 :: u22 :: u23 :: u24 :: u25 :: u26 :: u27 :: u28 :: u29 :: u30 :: u31 :: u32 :: u33 :: u34 :: u35 :: u36 :: u37 :: u38 :: u39 :: u40 :: u41 :: u42 :: u43 :: u44 :: u45 :: u46 :: u47 :: u48 :: u49 :: u50 :: u51 :: u52 :: u53 :: u54 :: u55 :: u56 :: u57 :: u58 :: u59 :: u60 :: u61 :: u62 :: u63 :: u64 :: u65 :: u66 :: u67 :: u68 :: u69 :: u70 :: u71 :: u72 :: u73 :: u74 :: u75 :: u76 :: u77 :: u78 :: u79 :: u80 :: u81 :: u82 :: u83 :: [])), []⟩ w := by
  refine wp_mono (rj14_in most v mm sb gb rb k c Ao xss w0 hl hk hne1 hne2 hrb hgb hgr _ _ _ _ _ _ _ _ _ _ _ _ _ _ _ _ _ _ _ _ _ _ _ _ _ _ _ _ _ _ _ _ _ _ _ _ _ _ _ _ _ _ _ _ _ _ _ _ _ _ _ _ _ _ _ _ _ _ _ _ _ _ _ _ _ _ _ _ _ _ _ _ _ _ _ _ _ _ _ _ w hG hown hz) ?_
  rintro e a w' h
  obtain ⟨y77, h⟩ := h
  obtain ⟨y78, h⟩ := h
  obtain ⟨y79, h⟩ := h
  obtain ⟨y80, h⟩ := h
  obtain ⟨y81, h⟩ := h
  obtain ⟨y82, h⟩ := h
  obtain ⟨y83, h⟩ := h
  obtain ⟨h, rfl, hq⟩ := h
  subst h
  exact hend y77 y78 y79 y80 y81 y82 y83 w' hq
set_option maxRecDepth 100000 in
set_option maxHeartbeats 16000000 in
theorem rjoin14_is (B : Nat) (m : Mb) (r : Ro) (v : Value) (w : World) (h : OwnS w B 65 4 v (mbRows r.l)) (hl : r.l.length ≤ 1000) (hB : B ≤ w.heap.size) :
    Calls Try.prog 24 #[rrV (r.most : Int) v, mbV m] w (RAns B (r.most : Int) (r.join m).2 (r.join m).1.l v w) := by
  have hr : r.join m = if m.right = false then (r, 2) else if (getM r.l m.id).isSome then (r, 132) else if (ownM r.l m.co).isSome || (ownM r.l m.ca).isSome then (r, 140) else if r.most ≤ r.l.length then (r, 131) else ({ r with l := r.l ++ [m] }, 0) := rfl
  generalize r.join m = q at *
  have HQ := Lib.hid hr
  obtain ⟨L, hL⟩ : ∃ L, r.l = L := ⟨_, rfl⟩
  have HL := Lib.hid hL
  obtain ⟨most, hmost⟩ : ∃ most : Int, (r.most : Int) = most := ⟨_, rfl⟩
  have HMO := Lib.hid hmost
  rw [hL] at h hl
  rw [hmost]
  have HV := Lib.hid h
  obtain ⟨A, c, rfl, hc⟩ := h.slice
  rw [mbRows_length] at HV h hc ⊢
  obtain ⟨N, hN⟩ : ∃ N, L.length = N := ⟨_, rfl⟩
  have HN := Lib.hid hN
  rw [hN] at hl hc h HV ⊢
  have HLL := Lib.hid (show L.length ≤ 1000 by rw [hN]; exact hl)
  clear hN h hr hL hmost
  go_enter Try.func24, Try.ntmps24
  go_upto_region 1 with (fail)
  have HB := Lib.hid (Is.made w 54 #[.int .i64 most, .slice A N c])
  have HO := Lib.hid ((Only.refl (fun _ => False) w).alloc (.cells #[.int .i64 most, .slice A N c] 54))
  obtain ⟨sb, hsb⟩ : ∃ sb, w.heap.size = sb := ⟨_, rfl⟩
  have HSB := Lib.hid hsb
  have e1 : (w.alloc (.cells #[.int .i64 most, .slice A N c] 54)).heap.size = sb + 1 := by simp [hsb]
  show Code.wp _ _ _ _ (((w.alloc (.cells #[.int .i64 most, .slice A N c] 54)).alloc (.cells #[.int .i64 m.id, .int .u32 (m.co : Int), .int .u32 (m.ca : Int), .bool m.mo] 65)).alloc (.cells zeroRo 54))
  generalize w.alloc (.cells #[.int .i64 most, .slice A N c] 54) = w1 at *
  have HG := Lib.hid (Is.made w1 65 #[.int .i64 m.id, .int .u32 (m.co : Int), .int .u32 (m.ca : Int), .bool m.mo])
  have ha := (Only.refl (fun _ => False) w1).alloc (.cells #[.int .i64 m.id, .int .u32 (m.co : Int), .int .u32 (m.ca : Int), .bool m.mo] 65)
  replace HB := Lib.hid (HB.out.only ha (by simp))
  replace HO := Lib.hid (HO.out.trans ha (fun _ _ e => e))
  have e2 : (w1.alloc (.cells #[.int .i64 m.id, .int .u32 (m.co : Int), .int .u32 (m.ca : Int), .bool m.mo] 65)).heap.size = sb + 1 + 1 := by simp [e1]
  rw [e1] at HG
  generalize w1.alloc (.cells #[.int .i64 m.id, .int .u32 (m.co : Int), .int .u32 (m.ca : Int), .bool m.mo] 65) = w2 at *
  clear ha
  have HR := Lib.hid (Is.made w2 54 zeroRo)
  have ha := (Only.refl (fun _ => False) w2).alloc (.cells zeroRo 54)
  replace HB := Lib.hid (HB.out.only ha (by simp))
  replace HG := Lib.hid (HG.out.only ha (by simp))
  replace HO := Lib.hid (HO.out.trans ha (fun _ _ e => e))
  rw [e2] at HR
  generalize w2.alloc (.cells zeroRo 54) = w3 at *
  clear ha e1 e2
  rw [hsb] at HB ⊢
  obtain ⟨gb, hgb⟩ : ∃ gb, sb + 1 = gb := ⟨_, rfl⟩
  have HGB := Lib.hid (show w.heap.size < gb by omega)
  have hsg : sb ≠ gb := by omega
  rw [hgb] at HG HR ⊢
  obtain ⟨rb, hrb⟩ : ∃ rb, gb + 1 = rb := ⟨_, rfl⟩
  have HRB := Lib.hid (show w.heap.size < rb by omega)
  have hne1 : sb ≠ rb := by omega
  have hne2 : gb ≠ rb := by omega
  rw [hrb] at HR ⊢
  clear hsb hgb hrb
  have c0 : w3.cell? ⟨gb, 0, none⟩ = some (.int .i64 m.id) := HG.out.cell 0
  have c1 : w3.cell? ⟨gb, 1, none⟩ = some (.int .u32 (m.co : Int)) := HG.out.cell 1
  have c2 : w3.cell? ⟨gb, 2, none⟩ = some (.int .u32 (m.ca : Int)) := HG.out.cell 2
  have HRT := Lib.hid (show m.right = (decide (0 ≤ m.id) && decide (m.co ≠ 0) && decide (m.ca ≠ 0) && decide (m.co ≠ m.ca)) from rfl)
  by_cases a1 : m.id < 0
  · have HE := Lib.hid (show q = (r, 2) from by rw [HQ.out, HRT.out, if_pos (by simp; omega)])
    go_upto_region 2 with (fail)
    go_wp2_with (first
      | (refine wpList_load_row (o := ⟨some 35, _, _, _, _, _⟩) rfl _ _ rfl sb rfl _ _ _ _ HB.out Try.underlying54 rfl Try.sizeRo ?_)
      | (refine wpList_store_is rfl 54 _ _ rfl rb #[.int .i64 most, .slice A N c] rfl rfl _ _ HR.out Try.sizeRo rfl (by simp [Value.oneCell']) ?_; intro w9 hI9 hO9; replace hI9 := Lib.hid hI9; replace hO9 := Lib.hid hO9))
    refine bodyPost_ret (results_is Try.results24 _ w9 rb 54 _ _ (.int .i64 2) rfl rfl hI9.out Try.underlying54 rfl Try.sizeRo) rfl ?_
    have hO6 : Only (fun _ => False) w w9 := HO.out.trans hO9.out (fun i hi e => by have := HRB.out; omega)
    rw [HE.out]
    exact ⟨_, rfl, by rw [HL.out]; exact HV.out.only hO6 (by simp), hO6, fun j hj => .inl hj⟩
  have b1 := Lib.hid (beq_nat'' m.co 0)
  have b2 := Lib.hid (beq_nat'' m.ca 0)
  by_cases a2 : m.co = 0
  · have HE := Lib.hid (show q = (r, 2) from by rw [HQ.out, HRT.out, if_pos (by simp; omega)])
    have d1 : ((m.co : Int) == 0) = true := by simp [a2]
    clear a2
    go_upto_region 2 with (fail)
    go_wp2_with (first
      | (refine wpList_load_row (o := ⟨some 35, _, _, _, _, _⟩) rfl _ _ rfl sb rfl _ _ _ _ HB.out Try.underlying54 rfl Try.sizeRo ?_)
      | (refine wpList_store_is rfl 54 _ _ rfl rb #[.int .i64 most, .slice A N c] rfl rfl _ _ HR.out Try.sizeRo rfl (by simp [Value.oneCell']) ?_; intro w9 hI9 hO9; replace hI9 := Lib.hid hI9; replace hO9 := Lib.hid hO9))
    refine bodyPost_ret (results_is Try.results24 _ w9 rb 54 _ _ (.int .i64 2) rfl rfl hI9.out Try.underlying54 rfl Try.sizeRo) rfl ?_
    have hO6 : Only (fun _ => False) w w9 := HO.out.trans hO9.out (fun i hi e => by have := HRB.out; omega)
    rw [HE.out]
    exact ⟨_, rfl, by rw [HL.out]; exact HV.out.only hO6 (by simp), hO6, fun j hj => .inl hj⟩
  have d1 : ((m.co : Int) == 0) = false := by simp; omega
  by_cases a3 : m.ca = 0
  · have HE := Lib.hid (show q = (r, 2) from by rw [HQ.out, HRT.out, if_pos (by simp; omega)])
    have d2 : ((m.ca : Int) == 0) = true := by simp [a3]
    clear a2 a3
    go_upto_region 2 with (fail)
    go_wp2_with (first
      | (refine wpList_load_row (o := ⟨some 35, _, _, _, _, _⟩) rfl _ _ rfl sb rfl _ _ _ _ HB.out Try.underlying54 rfl Try.sizeRo ?_)
      | (refine wpList_store_is rfl 54 _ _ rfl rb #[.int .i64 most, .slice A N c] rfl rfl _ _ HR.out Try.sizeRo rfl (by simp [Value.oneCell']) ?_; intro w9 hI9 hO9; replace hI9 := Lib.hid hI9; replace hO9 := Lib.hid hO9))
    refine bodyPost_ret (results_is Try.results24 _ w9 rb 54 _ _ (.int .i64 2) rfl rfl hI9.out Try.underlying54 rfl Try.sizeRo) rfl ?_
    have hO6 : Only (fun _ => False) w w9 := HO.out.trans hO9.out (fun i hi e => by have := HRB.out; omega)
    rw [HE.out]
    exact ⟨_, rfl, by rw [HL.out]; exact HV.out.only hO6 (by simp), hO6, fun j hj => .inl hj⟩
  have d2 : ((m.ca : Int) == 0) = false := by simp; omega
  by_cases a4 : m.co = m.ca
  · have HE := Lib.hid (show q = (r, 2) from by rw [HQ.out, HRT.out, if_pos (by simp; omega)])
    have d3 : ((m.co : Int) == (m.ca : Int)) = true := by simp [a4]
    clear a2 a3 a4
    go_upto_region 2 with (fail)
    go_wp2_with (first
      | (refine wpList_load_row (o := ⟨some 35, _, _, _, _, _⟩) rfl _ _ rfl sb rfl _ _ _ _ HB.out Try.underlying54 rfl Try.sizeRo ?_)
      | (refine wpList_store_is rfl 54 _ _ rfl rb #[.int .i64 most, .slice A N c] rfl rfl _ _ HR.out Try.sizeRo rfl (by simp [Value.oneCell']) ?_; intro w9 hI9 hO9; replace hI9 := Lib.hid hI9; replace hO9 := Lib.hid hO9))
    refine bodyPost_ret (results_is Try.results24 _ w9 rb 54 _ _ (.int .i64 2) rfl rfl hI9.out Try.underlying54 rfl Try.sizeRo) rfl ?_
    have hO6 : Only (fun _ => False) w w9 := HO.out.trans hO9.out (fun i hi e => by have := HRB.out; omega)
    rw [HE.out]
    exact ⟨_, rfl, by rw [HL.out]; exact HV.out.only hO6 (by simp), hO6, fun j hj => .inl hj⟩
  have d3 : ((m.co : Int) == (m.ca : Int)) = false := by simp; omega
  have HQ1 := Lib.hid (show q = if (getM L m.id).isSome then (r, 132) else if (ownM L m.co).isSome || (ownM L m.ca).isSome then (r, 140) else if r.most ≤ N then (r, 131) else ({ r with l := L ++ [m] }, 0) from by
    rw [HQ.out, HRT.out, if_neg (by simp; omega), HL.out, HN.out])
  clear a2 a3 a4 HQ
  go_upto_region 3 with (fail)
  clear d1 d2 d3 a1 b1 b2 HRT
  obtain ⟨gx, hgx⟩ := getV_form (getM L m.id)
  have HC := Lib.hid (fun (wx : World) (ho : Only (fun _ => False) w wx) => hgx ▸ rget_is B most m.id L (.slice A N c) wx (HV.out.only ho (by simp)) HLL.out)
  clear hgx
  go_wp2_with (refine wpList_load_row (o := ⟨some 37, _, _, _, _, _⟩) rfl _ _ rfl sb rfl _ _ _ _ HB.out Try.underlying54 rfl Try.sizeRo ?_)
  refine (HC.out w3 HO.out).mono ?_
  rintro e w4 ⟨rfl, ho⟩
  have HO4 := Lib.hid (HO.out.trans ho (fun _ _ e => e))
  have HB4 := Lib.hid (HB.out.only ho (by simp))
  have HG4 := Lib.hid (HG.out.only ho (by simp))
  have HR4 := Lib.hid (HR.out.only ho (by simp))
  clear ho HC HO HB HG HR c0 c1 c2
  go_upto_region 4 with (fail)
  have ha := (Only.refl (fun _ => False) w4).alloc (.cells #[.int .i64 gx.id, .int .u32 (gx.co : Int), .int .u32 (gx.ca : Int), .bool gx.mo] 65)
  have HO5 := Lib.hid (HO4.out.trans ha (fun _ _ e => e))
  have HB5 := Lib.hid (HB4.out.only ha (by simp))
  have HG5 := Lib.hid (HG4.out.only ha (by simp))
  have HR5 := Lib.hid (HR4.out.only ha (by simp))
  generalize w4.alloc (.cells #[.int .i64 gx.id, .int .u32 (gx.co : Int), .int .u32 (gx.ca : Int), .bool gx.mo] 65) = w5 at *
  clear ha HO4 HB4 HG4 HR4
  cases hs : (getM L m.id).isSome with
  | true =>
    have HE := Lib.hid (show q = (r, 132) from by rw [HQ1.out, if_pos hs])
    clear hs
    go_upto_region 5 with (fail)
    go_wp2_with (first
      | (refine wpList_load_row (o := ⟨some 44, _, _, _, _, _⟩) rfl _ _ rfl sb rfl _ _ _ _ HB5.out Try.underlying54 rfl Try.sizeRo ?_)
      | (refine wpList_store_is rfl 54 _ _ rfl rb #[.int .i64 most, .slice A N c] rfl rfl _ _ HR5.out Try.sizeRo rfl (by simp [Value.oneCell']) ?_; intro w9 hI9 hO9; replace hI9 := Lib.hid hI9; replace hO9 := Lib.hid hO9))
    refine bodyPost_ret (results_is Try.results24 _ w9 rb 54 _ _ (.int .i64 132) rfl rfl hI9.out Try.underlying54 rfl Try.sizeRo) rfl ?_
    have hO6 : Only (fun _ => False) w w9 := HO5.out.trans hO9.out (fun i hi e => by have := HRB.out; omega)
    rw [HE.out]
    exact ⟨_, rfl, by rw [HL.out]; exact HV.out.only hO6 (by simp), hO6, fun j hj => .inl hj⟩
  | false =>
  have HQ2 := Lib.hid (show q = if (ownM L m.co).isSome || (ownM L m.ca).isSome then (r, 140) else if r.most ≤ N then (r, 131) else ({ r with l := L ++ [m] }, 0) from by rw [HQ1.out, if_neg (by rw [hs]; decide)])
  clear hs HQ1
  have c1 : w5.cell? ⟨gb, 1, none⟩ = some (.int .u32 (m.co : Int)) := HG5.out.cell 1
  obtain ⟨g1, o1, hg1⟩ := srcV_form (ownM L m.co) m.co
  have HC := Lib.hid (fun (wx : World) (ho : Only (fun _ => False) w wx) => hg1 ▸ rsource_is B most m.co L (.slice A N c) wx (HV.out.only ho (by simp)) HLL.out)
  clear hg1
  go_wp2_with (refine wpList_load_row (o := ⟨some 46, _, _, _, _, _⟩) rfl _ _ rfl sb rfl _ _ _ _ HB5.out Try.underlying54 rfl Try.sizeRo ?_)
  refine (HC.out w5 HO5.out).mono ?_
  rintro e w6 ⟨rfl, ho⟩
  have HO6 := Lib.hid (HO5.out.trans ho (fun _ _ e => e))
  have HB6 := Lib.hid (HB5.out.only ho (by simp))
  have HG6 := Lib.hid (HG5.out.only ho (by simp))
  have HR6 := Lib.hid (HR5.out.only ho (by simp))
  clear ho HC HO5 HB5 HG5 HR5 c1
  go_upto_region 7 with (fail)
  have ha := (Only.refl (fun _ => False) w6).alloc (.cells #[.int .i64 g1.id, .int .u32 (g1.co : Int), .int .u32 (g1.ca : Int), .bool g1.mo] 65)
  have HO7 := Lib.hid (HO6.out.trans ha (fun _ _ e => e))
  have HB7 := Lib.hid (HB6.out.only ha (by simp))
  have HG7 := Lib.hid (HG6.out.only ha (by simp))
  have HR7 := Lib.hid (HR6.out.only ha (by simp))
  generalize w6.alloc (.cells #[.int .i64 g1.id, .int .u32 (g1.co : Int), .int .u32 (g1.ca : Int), .bool g1.mo] 65) = w7 at *
  clear ha HO6 HB6 HG6 HR6
  have c2 : w7.cell? ⟨gb, 2, none⟩ = some (.int .u32 (m.ca : Int)) := HG7.out.cell 2
  obtain ⟨g2, o2, hg2⟩ := srcV_form (ownM L m.ca) m.ca
  have HC := Lib.hid (fun (wx : World) (ho : Only (fun _ => False) w wx) => hg2 ▸ rsource_is B most m.ca L (.slice A N c) wx (HV.out.only ho (by simp)) HLL.out)
  clear hg2
  go_wp2_with (refine wpList_load_row (o := ⟨some 54, _, _, _, _, _⟩) rfl _ _ rfl sb rfl _ _ _ _ HB7.out Try.underlying54 rfl Try.sizeRo ?_)
  refine (HC.out w7 HO7.out).mono ?_
  rintro e w8 ⟨rfl, ho⟩
  have HO8 := Lib.hid (HO7.out.trans ho (fun _ _ e => e))
  have HB8 := Lib.hid (HB7.out.only ho (by simp))
  have HG8 := Lib.hid (HG7.out.only ho (by simp))
  have HR8 := Lib.hid (HR7.out.only ho (by simp))
  clear ho HC HO7 HB7 HG7 HR7 c2
  go_upto_region 8 with (fail)
  have ha := (Only.refl (fun _ => False) w8).alloc (.cells #[.int .i64 g2.id, .int .u32 (g2.co : Int), .int .u32 (g2.ca : Int), .bool g2.mo] 65)
  have HOa := Lib.hid (HO8.out.trans ha (fun _ _ e => e))
  have HBa := Lib.hid (HB8.out.only ha (by simp))
  have HGa := Lib.hid (HG8.out.only ha (by simp))
  have HRa := Lib.hid (HR8.out.only ha (by simp))
  generalize w8.alloc (.cells #[.int .i64 g2.id, .int .u32 (g2.co : Int), .int .u32 (g2.ca : Int), .bool g2.mo] 65) = wa at *
  clear ha HO8 HB8 HG8 HR8
  cases hs1 : (ownM L m.co).isSome with
  | true =>
    have HE := Lib.hid (show q = (r, 140) from by rw [HQ2.out, hs1]; rfl)
    clear hs1
    go_upto_region 9 with (fail)
    go_wp2_with (first
      | (refine wpList_load_row (o := ⟨some 65, _, _, _, _, _⟩) rfl _ _ rfl sb rfl _ _ _ _ HBa.out Try.underlying54 rfl Try.sizeRo ?_)
      | (refine wpList_store_is rfl 54 _ _ rfl rb #[.int .i64 most, .slice A N c] rfl rfl _ _ HRa.out Try.sizeRo rfl (by simp [Value.oneCell']) ?_; intro w9 hI9 hO9; replace hI9 := Lib.hid hI9; replace hO9 := Lib.hid hO9))
    refine bodyPost_ret (results_is Try.results24 _ w9 rb 54 _ _ (.int .i64 140) rfl rfl hI9.out Try.underlying54 rfl Try.sizeRo) rfl ?_
    have hO6 : Only (fun _ => False) w w9 := HOa.out.trans hO9.out (fun i hi e => by have := HRB.out; omega)
    rw [HE.out]
    exact ⟨_, rfl, by rw [HL.out]; exact HV.out.only hO6 (by simp), hO6, fun j hj => .inl hj⟩
  | false =>
  cases hs2 : (ownM L m.ca).isSome with
  | true =>
    have HE := Lib.hid (show q = (r, 140) from by rw [HQ2.out, hs1, hs2]; rfl)
    clear hs1 hs2
    go_upto_region 9 with (fail)
    go_wp2_with (first
      | (refine wpList_load_row (o := ⟨some 65, _, _, _, _, _⟩) rfl _ _ rfl sb rfl _ _ _ _ HBa.out Try.underlying54 rfl Try.sizeRo ?_)
      | (refine wpList_store_is rfl 54 _ _ rfl rb #[.int .i64 most, .slice A N c] rfl rfl _ _ HRa.out Try.sizeRo rfl (by simp [Value.oneCell']) ?_; intro w9 hI9 hO9; replace hI9 := Lib.hid hI9; replace hO9 := Lib.hid hO9))
    refine bodyPost_ret (results_is Try.results24 _ w9 rb 54 _ _ (.int .i64 140) rfl rfl hI9.out Try.underlying54 rfl Try.sizeRo) rfl ?_
    have hO6 : Only (fun _ => False) w w9 := HOa.out.trans hO9.out (fun i hi e => by have := HRB.out; omega)
    rw [HE.out]
    exact ⟨_, rfl, by rw [HL.out]; exact HV.out.only hO6 (by simp), hO6, fun j hj => .inl hj⟩
  | false =>
  have HQ3 := Lib.hid (show q = if r.most ≤ N then (r, 131) else ({ r with l := L ++ [m] }, 0) from by rw [HQ2.out, hs1, hs2]; rfl)
  clear hs1 hs2 HQ2
  have c1 : wa.cell? ⟨sb, 1, none⟩ = some (.slice A N c) := HBa.out.cell 1
  have c0 : wa.cell? ⟨sb, 0, none⟩ = some (.int .i64 most) := HBa.out.cell 0
  by_cases hfull : r.most ≤ N
  · have HE := Lib.hid (show q = (r, 131) from by rw [HQ3.out, if_pos hfull])
    have hf : (N : Int) ≥ most := by have := HMO.out; omega
    go_upto_region 11 with (fail)
    go_wp2_with (first
      | (refine wpList_load_row (o := ⟨some 72, _, _, _, _, _⟩) rfl _ _ rfl sb rfl _ _ _ _ HBa.out Try.underlying54 rfl Try.sizeRo ?_)
      | (refine wpList_store_is rfl 54 _ _ rfl rb #[.int .i64 most, .slice A N c] rfl rfl _ _ HRa.out Try.sizeRo rfl (by simp [Value.oneCell']) ?_; intro w9 hI9 hO9; replace hI9 := Lib.hid hI9; replace hO9 := Lib.hid hO9))
    refine bodyPost_ret (results_is Try.results24 _ w9 rb 54 _ _ (.int .i64 131) rfl rfl hI9.out Try.underlying54 rfl Try.sizeRo) rfl ?_
    have hO6 : Only (fun _ => False) w w9 := HOa.out.trans hO9.out (fun i hi e => by have := HRB.out; omega)
    rw [HE.out]
    exact ⟨_, rfl, by rw [HL.out]; exact HV.out.only hO6 (by simp), hO6, fun j hj => .inl hj⟩
  · have HE := Lib.hid (show q = ({ r with l := L ++ [m] }, 0) from by rw [HQ3.out, if_neg hfull])
    have hf : ¬ (N : Int) ≥ most := by have := HMO.out; omega
    have HLR := Lib.hid (show (mbRows L).length ≤ 100000 by rw [mbRows_length, HN.out]; omega)
    have HLC := Lib.hid (show ∀ ys ∈ mbRows L, ∀ u ∈ ys, u.oneCell' = true from fun ys hy u hu => mbRows_cells L u (List.mem_flatten.2 ⟨ys, hy, hu⟩))
    go_upto_region 14 with (at_builtin; refine wpList_append_rowsT _ rfl _ _ sty_rm rfl wa.heap.size (.slice none 0 0) [] rfl (OwnS.nil _ _ _ _) B (.slice A N c) (mbRows L) rfl (HV.out.only HOa.out (by simp)) HLC.out (by simpa using HLR.out) (by decide) (Nat.le_refl _) ?_; intro vb wb hown ho; replace hown := Lib.hid hown; replace ho := Lib.hid ho)
    have hob : Only (fun _ => False) wa wb := ho.out.mono (fun k _ e => by simp [Value.ownBlock] at e)
    have hownb : OwnS wb wa.heap.size 65 4 vb (mbRows L) := by simpa using hown.out
    obtain ⟨Ab, cb, rfl, -⟩ := OwnS.slice hownb
    rw [mbRows_length, HN.out] at hownb
    have hgo : Value.ownBlock (.slice Ab N cb) ≠ some gb := fun e => by
      have := (hownb.lt _ e).1
      have := HGa.out.lt
      omega
    have hgr : Value.ownBlock (.slice Ab N cb) ≠ some rb := fun e => by
      have := (hownb.lt _ e).1
      have := HRa.out.lt
      omega
    have hownc : OwnS wb w.heap.size 65 4 (.slice Ab N cb) (mbRows L) := ⟨owned_low hownb.1 HOa.out.size, hownb.2⟩
    rw [mbRows_length, HN.out]
    refine rj14 most (.slice A N c) m sb gb rb N cb Ab (mbRows L) w (by rw [mbRows_length, HN.out]) (by omega) hne1 hne2 (by have := HRB.out; omega) hgo hgr _ _ _ _ _ _ _ _ _ _ _ _ _ _ _ _ _ _ _ _ _ _ _ _ _ _ _ _ _ _ _ _ _ _ _ _ _ _ _ _ _ _ _ _ _ _ _ _ _ _ _ _ _ _ _ _ _ _ _ _ _ _ _ _ _ _ _ _ _ _ _ _ _ _ _ _ _ _ _ _ _ wb ⟨HBa.out.only hob (by simp), HGa.out.only hob (by simp), HOa.out.trans hob (fun _ _ e => e)⟩ hownc (HRa.out.only hob (by simp)) ?_
    rintro y77 y78 y79 y80 y81 y82 y83 w9 ⟨A', c', hI9, hO9, hP9⟩
    have HI9 := Lib.hid hI9
    have HO9 := Lib.hid hO9
    have HP9 := Lib.hid hP9
    clear hI9 hO9 hP9 hob hownb hgo
    go_wp2
    refine bodyPost_ret (results_is Try.results24 _ w9 rb 54 _ _ (.int .i64 0) rfl rfl HI9.out Try.underlying54 rfl Try.sizeRo) rfl ?_
    rw [HE.out]
    refine ⟨_, rfl, ⟨owned_low (?_ : OwnS w9 w.heap.size 65 4 (.slice A' (N + 1) c') (mbRows (L ++ [m]))).1 hB, fun xs hx => mbRows_one _ xs hx⟩, HP9.out, fun j hj => .inr (HO9.out.lt j hj).1⟩
    rw [mbRows_snoc]
    exact HO9.out
end Go.Proofs.Ytglgmhdajmncjaa
