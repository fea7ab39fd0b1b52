/- roster: the regions of RosterPlays that draw their order. Conditions: as each says. -/
import Derived.Test.YtglgmhdajmncjaaRyQ
import Derived.Test.YtglgmhdajmncjaaRegB
set_option linter.unusedVariables false
set_option linter.unusedSimpArgs false
namespace Go.Proofs.Ytglgmhdajmncjaa
open Go Go.RowKit

theorem all_rr (most : Int) {v : Value} (h : v.oneCell' = true) : (#[.int .i64 most, v] : Array Value).all (·.oneCell') = true := by
  rw [← Array.all_toList]
  show (Value.oneCell' (.int .i64 most) && (v.oneCell' && true)) = true
  rw [h]
  rfl
/-- A call, plainly. -/
structure A14 where
  lv : Bool
  m : Mb
def A14.cells (x : A14) : List Value := [.bool x.lv, .int .i64 x.m.id, .int .u32 (x.m.co : Int), .int .u32 (x.m.ca : Int), .bool x.m.mo]
theorem act_tail {w : World} {g o : Nat} {x : A14} (h : w.rangeAt g o x.cells) : w.rangeAt g (o + 1) (mbA x.m).toList := fun j u hj => by
  have := h (j + 1) u (by rw [← hj]; rfl)
  rw [show o + 1 + j = o + (j + 1) by omega]
  exact this
/-- A call that is read, and lies still. -/
structure Ga (g o : Nat) (x : A14) (wx : World) : Prop where
  rg : wx.rangeAt g o x.cells
  lt : g < wx.heap.size
theorem Ga.go {g o : Nat} {x : A14} {wx wy : World} {S : Nat → Prop} (h : Ga g o x wx) (ho : Only S wx wy) (hn : ¬ S g) : Ga g o x wy := ⟨range_only h.rg h.lt ho hn, Nat.lt_of_lt_of_le h.lt ho.size⟩
theorem Ga.c1 {g o : Nat} {x : A14} {w : World} (h : Ga g o x w) : w.cell? ⟨g, o + 1, none⟩ = some (.int .i64 x.m.id) := range_cell (j := 1) h.rg rfl
theorem Ga.c2 {g o : Nat} {x : A14} {w : World} (h : Ga g o x w) : w.cell? ⟨g, o + 1 + 1, none⟩ = some (.int .u32 (x.m.co : Int)) := range_cell (j := 2) h.rg rfl
theorem Ga.c3 {g o : Nat} {x : A14} {w : World} (h : Ga g o x w) : w.cell? ⟨g, o + 1 + 2, none⟩ = some (.int .u32 (x.m.ca : Int)) := range_cell (j := 3) h.rg rfl
def rp13_A : List (List Nat) := ([] :: [] :: [] :: [1, 2] :: [3, 1, 2] :: [4, 3, 1, 2] :: [5, 4, 3, 1, 2] :: [0, 6, 5, 4, 3, 1, 2] :: (7 :: 0 :: 6 :: 5 :: 4 :: 3 :: 1 :: 2 :: []) :: (8 :: 7 :: 0 :: 6 :: 5 :: 4 :: 3 :: 1 :: 2 :: []) :: (8 :: 7 :: 0 :: 6 :: 5 :: 4 :: 3 :: 1 :: 2 :: []) :: (9 :: 7 :: 0 :: 1 :: 2 :: 3 :: 4 :: 5 :: 6 :: 8 :: []) :: (10 :: 11 :: 0 :: 1 :: 2 :: 3 :: 4 :: 5 :: 6 :: 7 :: 8 :: 9 :: []) :: [])
def rp13_kill : List (List Nat) := ([] :: [] :: [] :: [] :: [] :: [] :: [] :: [] :: [] :: [] :: [] :: [13] :: [] :: [])
def rp13_uses : List (List Nat) := ([13] :: [] :: [] :: [] :: [] :: [] :: [] :: [13] :: [] :: [7, 8] :: [7, 8] :: [7, 9, 13] :: [] :: [])
noncomputable def rp13_code : Code := ((Try.f5.body.bind (codeRegion 13)).getD .skip)
set_option maxRecDepth 100000 in
set_option maxHeartbeats 4000000 in
theorem rp13_in (most : Int) (vx : Value) (g o k L c xb code : Nat) (xa : A14) (Res : Value → World → Prop) (w : World) (hkI : (k : Int) < (L : Int)) (hne : ¬ g = xb) (hin : ∀ w1, Only (fun _ => False) w w1 → Calls Try.prog 22 #[rrV most vx, .int .i64 xa.m.id] w1 (fun e w2 => ∃ v', e = .returned (.tuple #[rrV most v', .int .i64 (code : Int)]) ∧ Res v' w2 ∧ Only (fun _ => False) w1 w2)) (hrs : ∀ v' wz, Res v' wz → v'.oneCell' = true ∧ True) (p1 : ∀ v' x y, Res v' x → Only (fun _ => False) x y → Res v' y) (p2 : ∀ v' x y, Res v' x → (∃ ds, Is x xb 54 ds) → Only (fun j => j = xb) x y → Res v' y)  (u0 u2 u3 u4 u5 u6 u7 u8 u9 u10 u12 u14 u15 u16 u17 u18 u19 u20 u21 u22 u23 u24 u25 u26 u27 u28 u29 u30 u31 u32 u33 u34 u35 u36 u37 u38 u39 u40 u41 u42 u43 u44 u45 u46 u47 u48 u49 u50 u51 u52 u53 u54 u55 u56 u57 u58 u59 u60 u61 u62 u63 u64 u65 u66 u67 u68 u69 u70 u71 u72 u73 u74 u75 u76 u77 u78 u79 u80 u81 u82 u83 u84 u85 u86 u87 u88 u89 u90 u91 u92 u93 u94 u95 u96 u97 u98 u99 u100 u101 u102 u103 u104 u105 u106 u107 u108 u109 u110 u111 u112 u113 u114 u115 u116 u117 u118 u119 u120 u121 u122 u123 u124 u125 u126 u127 u128 u129 u130 u131 u132 u133 u134 : Value) (w0 : World) (hw0 : Only (fun _ => False) w w0) (h4 : Is w0 xb 54 #[.int .i64 most, vx]) (hA : Ga g (o + k * 5) xa w0) :
    Code.wp Try.prog rp13_code (fun e a w' => ∃ y63 y64 y65 y66 y67 y68 y69 y70 y71 y72 y73 : Value, a = ⟨(List.toArray (u0 :: .slice (some ⟨g, o, none⟩) L c :: u2 :: u3 :: u4 :: u5 :: u6 :: u7 :: u8 :: u9 :: u10 :: .pointer (some ⟨xb, 0, none⟩) :: u12 :: .int .i64 (k : Int) :: u14 :: (.int .i64 (code : Int)) :: u16 :: u17 :: u18 :: u19 :: u20 :: u21 :: u22 :: u23 :: u24 :: u25 :: u26 :: u27 :: u28 :: u29 :: u30 :: u31 :: u32 :: u33 :: u34 :: u35 :: u36 :: u37 :: u38 :: u39 :: u40 :: u41 :: u42 :: u43 :: u44 :: u45 :: u46 :: u47 :: u48 :: u49 :: u50 :: u51 :: u52 :: u53 :: u54 :: u55 :: u56 :: u57 :: u58 :: u59 :: u60 :: u61 :: u62 :: y63 :: y64 :: y65 :: y66 :: y67 :: y68 :: y69 :: y70 :: y71 :: y72 :: y73 :: u74 :: u75 :: u76 :: u77 :: u78 :: u79 :: u80 :: u81 :: u82 :: u83 :: u84 :: u85 :: u86 :: u87 :: u88 :: u89 :: u90 :: u91 :: u92 :: u93 :: u94 :: u95 :: u96 :: u97 :: u98 :: u99 :: u100 :: u101 :: u102 :: u103 :: u104 :: u105 :: u106 :: u107 :: u108 :: u109 :: u110 :: u111 :: u112 :: u113 :: u114 :: u115 :: u116 :: u117 :: u118 :: u119 :: u120 :: u121 :: u122 :: u123 :: u124 :: u125 :: u126 :: u127 :: u128 :: u129 :: u130 :: u131 :: u132 :: u133 :: u134 :: [])), []⟩ ∧ e = .normal ∧ (∃ v', Is w' xb 54 #[.int .i64 most, v'] ∧ Res v' w' ∧ Only (fun j => j = xb) w w')) ⟨(List.toArray (u0 :: .slice (some ⟨g, o, none⟩) L c :: u2 :: u3 :: u4 :: u5 :: u6 :: u7 :: u8 :: u9 :: u10 :: .pointer (some ⟨xb, 0, none⟩) :: u12 :: .int .i64 (k : Int) :: u14 :: u15 :: u16 :: u17 :: u18 :: u19 :: u20 :: u21 :: u22 :: u23 :: u24 :: u25 :: u26 :: u27 :: u28 :: u29 :: u30 :: u31 :: u32 :: u33 :: u34 :: u35 :: u36 :: u37 :: u38 :: u39 :: u40 :: u41 :: u42 :: u43 :: u44 :: u45 :: u46 :: u47 :: u48 :: u49 :: u50 :: u51 :: u52 :: u53 :: u54 :: u55 :: u56 :: u57 :: u58 :: u59 :: u60 :: u61 :: u62 :: u63 :: u64 :: u65 :: u66 :: u67 :: u68 :: u69 :: u70 :: u71 :: u72 :: u73 :: u74 :: u75 :: u76 :: u77 :: u78 :: u79 :: u80 :: u81 :: u82 :: u83 :: u84 :: u85 :: u86 :: u87 :: u88 :: u89 :: u90 :: u91 :: u92 :: u93 :: u94 :: u95 :: u96 :: u97 :: u98 :: u99 :: u100 :: u101 :: u102 :: u103 :: u104 :: u105 :: u106 :: u107 :: u108 :: u109 :: u110 :: u111 :: u112 :: u113 :: u114 :: u115 :: u116 :: u117 :: u118 :: u119 :: u120 :: u121 :: u122 :: u123 :: u124 :: u125 :: u126 :: u127 :: u128 :: u129 :: u130 :: u131 :: u132 :: u133 :: u134 :: [])), []⟩ w0 := by
  conv => arg 2; whnf
  have HIN := Lib.hid hin
  clear hin
  refine wp_region_posts rp13_A [7, 11] [7, 8, 9, 11, 13] rp13_kill rp13_uses [11] [] [] [13]
      (some ((rrV most vx)) :: some ?v1 :: some ?v2 :: some ?v3 :: some ?v4 :: some ?v5 :: some ?v6 :: none :: none :: none :: some ((.int .i64 (code : Int))) :: none :: some ?v12 :: [])
      ?T (fun wx => Ga g (o + k * 5) xa wx ∧ Only (fun j => j = xb) w wx) ?W ?E (by kernel_rfl) (by kernel_rfl) (by kernel_rfl) (fun x => ?hT) ?hF ?hini (Reg.all_ops ?runs) ?pres ?fin
  case W => exact fun j x wz => match j with | 7 => ∃ v', x 7 = .tuple #[rrV most v', .int .i64 (code : Int)] ∧ Res v' wz | 8 => x 8 = x 7 | 9 => ∃ v', x 7 = .tuple #[rrV most v', .int .i64 (code : Int)] ∧ x 9 = rrV most v' | 11 => ∃ v', Is wz xb 54 #[.int .i64 most, v'] ∧ Res v' wz | 13 => Is wz xb 54 #[.int .i64 most, vx] ∧ Only (fun _ => False) w wz | _ => True
  case E => exact fun i wx wy => match i with | 6 => Only (fun _ => False) wx wy | 7 => Only (fun _ => False) wx wy | 11 => (∃ ds, Is wx xb 54 ds) ∧ Only (fun j => j = xb) wx wy | _ => True
  case hT =>
    simp only [Reg.fillV, Act.put, List.setIfInBounds_toArray, List.set_cons_zero, List.set_cons_succ]
    rfl
  case runs =>
    refine And.intro ?_ ?_
    · refine Reg.ob_known (fun _ => rfl) rfl rfl (fun x w1 hF hU K hK => ?_)
      obtain ⟨⟨h4, -⟩, -⟩ := hU
      have h4 : Is w1 xb 54 #[.int .i64 most, vx] := h4
      refine wp_load_mid 54 _ rfl xb 0 rfl [.int .i64 most, vx] _ (World.rangeAt_of_block h4 0 2) Try.underlying54 rfl Try.sizeRo ?_
      exact hK w1 (fun h _ _ => absurd h (by decide)) rfl
    refine And.intro ?_ ?_
    · refine Reg.ob_pure (fun _ => rfl) rfl rfl rfl rfl (fun x w1 hF => ?_)
      obtain ⟨hA, hO⟩ := hF
      have a1 := hA.c1
      clear hA hO
      go_simp
      with_reducible rfl
    refine And.intro ?_ ?_
    · refine Reg.ob_pure (fun _ => rfl) rfl rfl rfl rfl (fun x w1 hF => ?_)
      obtain ⟨hA, hO⟩ := hF
      have a1 := hA.c1
      clear hA hO
      go_simp
      with_reducible rfl
    refine And.intro ?_ ?_
    · refine Reg.ob_pure (fun _ => rfl) rfl rfl rfl rfl (fun x w1 hF => ?_)
      obtain ⟨hA, hO⟩ := hF
      have a1 := hA.c1
      clear hA hO
      go_simp
      with_reducible rfl
    refine And.intro ?_ ?_
    · refine Reg.ob_pure (fun _ => rfl) rfl rfl rfl rfl (fun x w1 hF => ?_)
      obtain ⟨hA, hO⟩ := hF
      have a1 := hA.c1
      clear hA hO
      go_simp
      with_reducible rfl
    refine And.intro ?_ ?_
    · refine Reg.ob_pure (fun _ => rfl) rfl rfl rfl rfl (fun x w1 hF => ?_)
      obtain ⟨hA, hO⟩ := hF
      have a1 := hA.c1
      clear hA hO
      go_simp
      with_reducible rfl
    refine And.intro ?_ ?_
    · refine Reg.ob_pure (fun _ => rfl) rfl rfl rfl rfl (fun x w1 hF => ?_)
      obtain ⟨hA, hO⟩ := hF
      have a1 := hA.c1
      clear hA hO
      go_simp
      with_reducible rfl
    refine And.intro ?_ ?_
    · refine Reg.ob_some (fun _ => rfl) rfl (fun x w1 hF hU K hK => ?_)
      obtain ⟨hA, hO⟩ := hF rfl
      obtain ⟨⟨-, ho1⟩, -⟩ := hU
      go_simp
      refine (HIN.out w1 ho1).mono ?_
      rintro e w5 ⟨v', rfl, hres, ho⟩
      exact hK _ w5 (fun _ _ _ => ⟨hA.go ho (by simp), hO.trans ho (fun _ _ e => e.elim)⟩) ho ⟨v', rfl, hres⟩
    refine And.intro ?_ ?_
    · refine Reg.ob_some (fun _ => rfl) rfl (fun x w1 hF hU K hK => ?_)
      go_simp
      exact hK _ _ (fun h => by cases h) rfl rfl
    refine And.intro ?_ ?_
    · refine Reg.ob_some (fun _ => rfl) rfl (fun x w1 hF hU K hK => ?_)
      obtain ⟨⟨v', h7, hres⟩, h8, -⟩ := hU
      have h8 : x 8 = x 7 := h8
      have h7 : x 7 = .tuple #[rrV most v', .int .i64 (code : Int)] := h7
      revert hK
      simp only [Nat.reduceAdd, h8, h7]
      intro hK
      go_simp
      exact hK _ _ (fun h => by cases h) rfl ⟨v', h7, rfl⟩
    refine And.intro ?_ ?_
    · refine Reg.ob_told (fun _ => rfl) rfl (fun x w1 hF hU K hK => ?_)
      obtain ⟨⟨v', h7, hres⟩, h8, -⟩ := hU
      have h8 : x 8 = x 7 := h8
      have h7 : x 7 = .tuple #[rrV most v', .int .i64 (code : Int)] := h7
      revert hK
      simp only [Nat.reduceAdd, h8, h7]
      intro hK
      go_simp
      exact hK _ (fun h => by cases h) rfl trivial
    refine And.intro ?_ ?_
    · refine Reg.ob_some (fun _ => rfl) rfl (fun x w1 hF hU K hK => ?_)
      obtain ⟨hA, hO⟩ := hF rfl
      obtain ⟨⟨v', h7, hres⟩, ⟨v2, h7', h9⟩, ⟨h4, -⟩, -⟩ := hU
      have h7 : x 7 = .tuple #[rrV most v', .int .i64 (code : Int)] := h7
      have h7' : x 7 = .tuple #[rrV most v2, .int .i64 (code : Int)] := h7'
      obtain rfl : v' = v2 := by rw [h7] at h7'; simpa using h7'
      have h9 : x 9 = rrV most v' := h9
      have h4 : Is w1 xb 54 #[.int .i64 most, vx] := h4
      obtain ⟨hz1, hz2⟩ := hrs _ _ hres
      refine wp_store_is 54 _ _ rfl xb #[.int .i64 most, v'] rfl (by simpa [Act.eval] using h9) _ _ h4 Try.sizeRo rfl (all_rr most hz1) ?_
      intro w' hI ho
      exact hK _ w' (fun _ _ _ => ⟨hA.go ho hne, hO.trans ho (fun _ _ e => e)⟩) ⟨⟨_, h4⟩, ho⟩ ⟨v', hI, p2 _ _ _ hres ⟨_, h4⟩ ho⟩
    refine And.intro ?_ ?_
    · refine Reg.ob_pure (fun _ => rfl) rfl rfl rfl rfl (fun x w1 hF => ?_)
      obtain ⟨hA, hO⟩ := hF
      have a1 := hA.c1
      clear hA hO
      go_simp
      with_reducible rfl
    exact trivial
  case hF =>
    exact ⟨hA.go (S := fun _ => False) ((Only.refl _ w0).drewN 1) (by simp), (hw0.drewN 1).mono (fun _ _ e => e.elim)⟩
  case hini =>
    exact ⟨fun x => ⟨h4.only ((Only.refl (fun _ => False) w0).drewN 1) (by simp), hw0.drewN 1⟩, trivial⟩
  case pres =>
    intro i hi j hj hc x wx wy hF hE hW
    simp only [List.mem_cons, List.mem_nil_iff, or_false] at hi hj
    rcases hi with rfl | rfl <;> rcases hj with rfl | rfl | rfl | rfl | rfl
    all_goals first | (exfalso; revert hc; decide) | skip
    all_goals first
      | exact hW
      | (obtain ⟨v', h1, h2⟩ := hW; exact ⟨v', h1, p1 _ _ _ h2 hE⟩)
      | (obtain ⟨v', h1, h2⟩ := hW; exact ⟨v', h1, p2 _ _ _ h2 hE.1 hE.2⟩)
      | exact ⟨hW.1.only hE (by simp), hW.2.trans hE (fun _ _ e => e)⟩
  case fin =>
    rintro x w9 hF hU
    obtain ⟨⟨v', hQ1, hQ2⟩, -⟩ := hU
    repeat apply Exists.intro
    exact ⟨rfl, rfl, v', hQ1, hQ2, (hF rfl).2⟩

set_option maxRecDepth 100000 in
set_option maxHeartbeats 4000000 in
theorem rp13 (most : Int) (vx : Value) (g o k L c xb code : Nat) (xa : A14) (Res : Value → World → Prop) (w : World) (hkI : (k : Int) < (L : Int)) (hne : ¬ g = xb) (hin : ∀ w1, Only (fun _ => False) w w1 → Calls Try.prog 22 #[rrV most vx, .int .i64 xa.m.id] w1 (fun e w2 => ∃ v', e = .returned (.tuple #[rrV most v', .int .i64 (code : Int)]) ∧ Res v' w2 ∧ Only (fun _ => False) w1 w2)) (hrs : ∀ v' wz, Res v' wz → v'.oneCell' = true ∧ True) (p1 : ∀ v' x y, Res v' x → Only (fun _ => False) x y → Res v' y) (p2 : ∀ v' x y, Res v' x → (∃ ds, Is x xb 54 ds) → Only (fun j => j = xb) x y → Res v' y)  (u0 u2 u3 u4 u5 u6 u7 u8 u9 u10 u12 u14 u15 u16 u17 u18 u19 u20 u21 u22 u23 u24 u25 u26 u27 u28 u29 u30 u31 u32 u33 u34 u35 u36 u37 u38 u39 u40 u41 u42 u43 u44 u45 u46 u47 u48 u49 u50 u51 u52 u53 u54 u55 u56 u57 u58 u59 u60 u61 u62 u63 u64 u65 u66 u67 u68 u69 u70 u71 u72 u73 u74 u75 u76 u77 u78 u79 u80 u81 u82 u83 u84 u85 u86 u87 u88 u89 u90 u91 u92 u93 u94 u95 u96 u97 u98 u99 u100 u101 u102 u103 u104 u105 u106 u107 u108 u109 u110 u111 u112 u113 u114 u115 u116 u117 u118 u119 u120 u121 u122 u123 u124 u125 u126 u127 u128 u129 u130 u131 u132 u133 u134 : Value) (Q : Exit → Act → World → Prop) (w0 : World) (hw0 : Only (fun _ => False) w w0) (h4 : Is w0 xb 54 #[.int .i64 most, vx]) (hA : Ga g (o + k * 5) xa w0)
    (hend : ∀ (y63 y64 y65 y66 y67 y68 y69 y70 y71 y72 y73 : Value) (w' : World), (∃ v', Is w' xb 54 #[.int .i64 most, v'] ∧ Res v' w' ∧ Only (fun j => j = xb) w w') → Q .normal ⟨(List.toArray (u0 :: .slice (some ⟨g, o, none⟩) L c :: u2 :: u3 :: u4 :: u5 :: u6 :: u7 :: u8 :: u9 :: u10 :: .pointer (some ⟨xb, 0, none⟩) :: u12 :: .int .i64 (k : Int) :: u14 :: (.int .i64 (code : Int)) :: u16 :: u17 :: u18 :: u19 :: u20 :: u21 :: u22 :: u23 :: u24 :: u25 :: u26 :: u27 :: u28 :: u29 :: u30 :: u31 :: u32 :: u33 :: u34 :: u35 :: u36 :: u37 :: u38 :: u39 :: u40 :: u41 :: u42 :: u43 :: u44 :: u45 :: u46 :: u47 :: u48 :: u49 :: u50 :: u51 :: u52 :: u53 :: u54 :: u55 :: u56 :: u57 :: u58 :: u59 :: u60 :: u61 :: u62 :: y63 :: y64 :: y65 :: y66 :: y67 :: y68 :: y69 :: y70 :: y71 :: y72 :: y73 :: u74 :: u75 :: u76 :: u77 :: u78 :: u79 :: u80 :: u81 :: u82 :: u83 :: u84 :: u85 :: u86 :: u87 :: u88 :: u89 :: u90 :: u91 :: u92 :: u93 :: u94 :: u95 :: u96 :: u97 :: u98 :: u99 :: u100 :: u101 :: u102 :: u103 :: u104 :: u105 :: u106 :: u107 :: u108 :: u109 :: u110 :: u111 :: u112 :: u113 :: u114 :: u115 :: u116 :: u117 :: u118 :: u119 :: u120 :: u121 :: u122 :: u123 :: u124 :: u125 :: u126 :: u127 :: u128 :: u129 :: u130 :: u131 :: u132 :: u133 :: u134 :: [])), []⟩ w') :
    Code.wp Try.prog rp13_code Q ⟨(List.toArray (u0 :: .slice (some ⟨g, o, none⟩) L c :: u2 :: u3 :: u4 :: u5 :: u6 :: u7 :: u8 :: u9 :: u10 :: .pointer (some ⟨xb, 0, none⟩) :: u12 :: .int .i64 (k : Int) :: u14 :: u15 :: u16 :: u17 :: u18 :: u19 :: u20 :: u21 :: u22 :: u23 :: u24 :: u25 :: u26 :: u27 :: u28 :: u29 :: u30 :: u31 :: u32 :: u33 :: u34 :: u35 :: u36 :: u37 :: u38 :: u39 :: u40 :: u41 :: u42 :: u43 :: u44 :: u45 :: u46 :: u47 :: u48 :: u49 :: u50 :: u51 :: u52 :: u53 :: u54 :: u55 :: u56 :: u57 :: u58 :: u59 :: u60 :: u61 :: u62 :: u63 :: u64 :: u65 :: u66 :: u67 :: u68 :: u69 :: u70 :: u71 :: u72 :: u73 :: u74 :: u75 :: u76 :: u77 :: u78 :: u79 :: u80 :: u81 :: u82 :: u83 :: u84 :: u85 :: u86 :: u87 :: u88 :: u89 :: u90 :: u91 :: u92 :: u93 :: u94 :: u95 :: u96 :: u97 :: u98 :: u99 :: u100 :: u101 :: u102 :: u103 :: u104 :: u105 :: u106 :: u107 :: u108 :: u109 :: u110 :: u111 :: u112 :: u113 :: u114 :: u115 :: u116 :: u117 :: u118 :: u119 :: u120 :: u121 :: u122 :: u123 :: u124 :: u125 :: u126 :: u127 :: u128 :: u129 :: u130 :: u131 :: u132 :: u133 :: u134 :: [])), []⟩ w0 := by
  refine wp_mono (rp13_in most vx g o k L c xb code xa Res w hkI hne hin hrs p1 p2 _ _ _ _ _ _ _ _ _ _ _ _ _ _ _ _ _ _ _ _ _ _ _ _ _ _ _ _ _ _ _ _ _ _ _ _ _ _ _ _ _ _ _ _ _ _ _ _ _ _ _ _ _ _ _ _ _ _ _ _ _ _ _ _ _ _ _ _ _ _ _ _ _ _ _ _ _ _ _ _ _ _ _ _ _ _ _ _ _ _ _ _ _ _ _ _ _ _ _ _ _ _ _ _ _ _ _ _ _ _ _ _ _ _ _ _ _ _ _ _ _ _ _ _ _ _ _ _ _ _ _ _ w0 hw0 h4 hA) ?_
  rintro e a w' h
  obtain ⟨y63, h⟩ := h
  obtain ⟨y64, h⟩ := h
  obtain ⟨y65, h⟩ := h
  obtain ⟨y66, h⟩ := h
  obtain ⟨y67, h⟩ := h
  obtain ⟨y68, h⟩ := h
  obtain ⟨y69, h⟩ := h
  obtain ⟨y70, h⟩ := h
  obtain ⟨y71, h⟩ := h
  obtain ⟨y72, h⟩ := h
  obtain ⟨y73, h⟩ := h
  obtain ⟨h, rfl, hq⟩ := h
  subst h
  exact hend y63 y64 y65 y66 y67 y68 y69 y70 y71 y72 y73 w' hq
def rp15_A : List (List Nat) := ([] :: [] :: [] :: [1, 2] :: [3, 1, 2] :: [4, 3, 1, 2] :: [5, 4, 3, 1, 2] :: [0, 6, 5, 4, 3, 1, 2] :: (7 :: 0 :: 6 :: 5 :: 4 :: 3 :: 1 :: 2 :: []) :: (8 :: 7 :: 0 :: 6 :: 5 :: 4 :: 3 :: 1 :: 2 :: []) :: (8 :: 7 :: 0 :: 6 :: 5 :: 4 :: 3 :: 1 :: 2 :: []) :: (9 :: 7 :: 0 :: 1 :: 2 :: 3 :: 4 :: 5 :: 6 :: 8 :: []) :: (10 :: 11 :: 0 :: 1 :: 2 :: 3 :: 4 :: 5 :: 6 :: 7 :: 8 :: 9 :: []) :: [])
def rp15_kill : List (List Nat) := ([] :: [] :: [] :: [] :: [] :: [] :: [] :: [] :: [] :: [] :: [] :: [13] :: [] :: [])
def rp15_uses : List (List Nat) := ([13] :: [] :: [] :: [] :: [] :: [] :: [] :: [13] :: [] :: [7, 8] :: [7, 8] :: [7, 9, 13] :: [] :: [])
noncomputable def rp15_code : Code := ((Try.f5.body.bind (codeRegion 15)).getD .skip)
set_option maxRecDepth 100000 in
set_option maxHeartbeats 4000000 in
theorem rp15_in (most : Int) (vx : Value) (g o k L c xb code : Nat) (xa : A14) (Res : Value → World → Prop) (w : World) (hkI : (k : Int) < (L : Int)) (hne : ¬ g = xb) (hin : ∀ w1, Only (fun _ => False) w w1 → Calls Try.prog 24 #[rrV most vx, mbV xa.m] w1 (fun e w2 => ∃ v', e = .returned (.tuple #[rrV most v', .int .i64 (code : Int)]) ∧ Res v' w2 ∧ Only (fun _ => False) w1 w2)) (hrs : ∀ v' wz, Res v' wz → v'.oneCell' = true ∧ True) (p1 : ∀ v' x y, Res v' x → Only (fun _ => False) x y → Res v' y) (p2 : ∀ v' x y, Res v' x → (∃ ds, Is x xb 54 ds) → Only (fun j => j = xb) x y → Res v' y)  (u0 u2 u3 u4 u5 u6 u7 u8 u9 u10 u12 u14 u15 u16 u17 u18 u19 u20 u21 u22 u23 u24 u25 u26 u27 u28 u29 u30 u31 u32 u33 u34 u35 u36 u37 u38 u39 u40 u41 u42 u43 u44 u45 u46 u47 u48 u49 u50 u51 u52 u53 u54 u55 u56 u57 u58 u59 u60 u61 u62 u63 u64 u65 u66 u67 u68 u69 u70 u71 u72 u73 u74 u75 u76 u77 u78 u79 u80 u81 u82 u83 u84 u85 u86 u87 u88 u89 u90 u91 u92 u93 u94 u95 u96 u97 u98 u99 u100 u101 u102 u103 u104 u105 u106 u107 u108 u109 u110 u111 u112 u113 u114 u115 u116 u117 u118 u119 u120 u121 u122 u123 u124 u125 u126 u127 u128 u129 u130 u131 u132 u133 u134 : Value) (w0 : World) (hw0 : Only (fun _ => False) w w0) (h4 : Is w0 xb 54 #[.int .i64 most, vx]) (hA : Ga g (o + k * 5) xa w0) :
    Code.wp Try.prog rp15_code (fun e a w' => ∃ y81 y82 y83 y84 y85 y86 y87 y88 y89 y90 y91 : Value, a = ⟨(List.toArray (u0 :: .slice (some ⟨g, o, none⟩) L c :: u2 :: u3 :: u4 :: u5 :: u6 :: u7 :: u8 :: u9 :: u10 :: .pointer (some ⟨xb, 0, none⟩) :: u12 :: .int .i64 (k : Int) :: u14 :: (.int .i64 (code : Int)) :: u16 :: u17 :: u18 :: u19 :: u20 :: u21 :: u22 :: u23 :: u24 :: u25 :: u26 :: u27 :: u28 :: u29 :: u30 :: u31 :: u32 :: u33 :: u34 :: u35 :: u36 :: u37 :: u38 :: u39 :: u40 :: u41 :: u42 :: u43 :: u44 :: u45 :: u46 :: u47 :: u48 :: u49 :: u50 :: u51 :: u52 :: u53 :: u54 :: u55 :: u56 :: u57 :: u58 :: u59 :: u60 :: u61 :: u62 :: u63 :: u64 :: u65 :: u66 :: u67 :: u68 :: u69 :: u70 :: u71 :: u72 :: u73 :: u74 :: u75 :: u76 :: u77 :: u78 :: u79 :: u80 :: y81 :: y82 :: y83 :: y84 :: y85 :: y86 :: y87 :: y88 :: y89 :: y90 :: y91 :: u92 :: u93 :: u94 :: u95 :: u96 :: u97 :: u98 :: u99 :: u100 :: u101 :: u102 :: u103 :: u104 :: u105 :: u106 :: u107 :: u108 :: u109 :: u110 :: u111 :: u112 :: u113 :: u114 :: u115 :: u116 :: u117 :: u118 :: u119 :: u120 :: u121 :: u122 :: u123 :: u124 :: u125 :: u126 :: u127 :: u128 :: u129 :: u130 :: u131 :: u132 :: u133 :: u134 :: [])), []⟩ ∧ e = .normal ∧ (∃ v', Is w' xb 54 #[.int .i64 most, v'] ∧ Res v' w' ∧ Only (fun j => j = xb) w w')) ⟨(List.toArray (u0 :: .slice (some ⟨g, o, none⟩) L c :: u2 :: u3 :: u4 :: u5 :: u6 :: u7 :: u8 :: u9 :: u10 :: .pointer (some ⟨xb, 0, none⟩) :: u12 :: .int .i64 (k : Int) :: u14 :: u15 :: u16 :: u17 :: u18 :: u19 :: u20 :: u21 :: u22 :: u23 :: u24 :: u25 :: u26 :: u27 :: u28 :: u29 :: u30 :: u31 :: u32 :: u33 :: u34 :: u35 :: u36 :: u37 :: u38 :: u39 :: u40 :: u41 :: u42 :: u43 :: u44 :: u45 :: u46 :: u47 :: u48 :: u49 :: u50 :: u51 :: u52 :: u53 :: u54 :: u55 :: u56 :: u57 :: u58 :: u59 :: u60 :: u61 :: u62 :: u63 :: u64 :: u65 :: u66 :: u67 :: u68 :: u69 :: u70 :: u71 :: u72 :: u73 :: u74 :: u75 :: u76 :: u77 :: u78 :: u79 :: u80 :: u81 :: u82 :: u83 :: u84 :: u85 :: u86 :: u87 :: u88 :: u89 :: u90 :: u91 :: u92 :: u93 :: u94 :: u95 :: u96 :: u97 :: u98 :: u99 :: u100 :: u101 :: u102 :: u103 :: u104 :: u105 :: u106 :: u107 :: u108 :: u109 :: u110 :: u111 :: u112 :: u113 :: u114 :: u115 :: u116 :: u117 :: u118 :: u119 :: u120 :: u121 :: u122 :: u123 :: u124 :: u125 :: u126 :: u127 :: u128 :: u129 :: u130 :: u131 :: u132 :: u133 :: u134 :: [])), []⟩ w0 := by
  conv => arg 2; whnf
  have HIN := Lib.hid hin
  clear hin
  refine wp_region_posts rp15_A [6, 7, 11] [7, 8, 9, 11, 13] rp15_kill rp15_uses [11] [] [] [13]
      (some ((rrV most vx)) :: some ?v1 :: some ?v2 :: some ?v3 :: some ?v4 :: some ((mbV xa.m)) :: some ((mbV xa.m)) :: none :: none :: none :: some ((.int .i64 (code : Int))) :: none :: some ?v12 :: [])
      ?T (fun wx => Ga g (o + k * 5) xa wx ∧ Only (fun j => j = xb) w wx) ?W ?E (by kernel_rfl) (by kernel_rfl) (by kernel_rfl) (fun x => ?hT) ?hF ?hini (Reg.all_ops ?runs) ?pres ?fin
  case W => exact fun j x wz => match j with | 7 => ∃ v', x 7 = .tuple #[rrV most v', .int .i64 (code : Int)] ∧ Res v' wz | 8 => x 8 = x 7 | 9 => ∃ v', x 7 = .tuple #[rrV most v', .int .i64 (code : Int)] ∧ x 9 = rrV most v' | 11 => ∃ v', Is wz xb 54 #[.int .i64 most, v'] ∧ Res v' wz | 13 => Is wz xb 54 #[.int .i64 most, vx] ∧ Only (fun _ => False) w wz | _ => True
  case E => exact fun i wx wy => match i with | 6 => Only (fun _ => False) wx wy | 7 => Only (fun _ => False) wx wy | 11 => (∃ ds, Is wx xb 54 ds) ∧ Only (fun j => j = xb) wx wy | _ => True
  case hT =>
    simp only [Reg.fillV, Act.put, List.setIfInBounds_toArray, List.set_cons_zero, List.set_cons_succ]
    rfl
  case runs =>
    refine And.intro ?_ ?_
    · refine Reg.ob_known (fun _ => rfl) rfl rfl (fun x w1 hF hU K hK => ?_)
      obtain ⟨⟨h4, -⟩, -⟩ := hU
      have h4 : Is w1 xb 54 #[.int .i64 most, vx] := h4
      refine wp_load_mid 54 _ rfl xb 0 rfl [.int .i64 most, vx] _ (World.rangeAt_of_block h4 0 2) Try.underlying54 rfl Try.sizeRo ?_
      exact hK w1 (fun h _ _ => absurd h (by decide)) rfl
    refine And.intro ?_ ?_
    · refine Reg.ob_pure (fun _ => rfl) rfl rfl rfl rfl (fun x w1 hF => ?_)
      obtain ⟨hA, hO⟩ := hF
      have a1 := hA.c1
      clear hA hO
      go_simp
      with_reducible rfl
    refine And.intro ?_ ?_
    · refine Reg.ob_pure (fun _ => rfl) rfl rfl rfl rfl (fun x w1 hF => ?_)
      obtain ⟨hA, hO⟩ := hF
      have a1 := hA.c1
      clear hA hO
      go_simp
      with_reducible rfl
    refine And.intro ?_ ?_
    · refine Reg.ob_pure (fun _ => rfl) rfl rfl rfl rfl (fun x w1 hF => ?_)
      obtain ⟨hA, hO⟩ := hF
      have a1 := hA.c1
      clear hA hO
      go_simp
      with_reducible rfl
    refine And.intro ?_ ?_
    · refine Reg.ob_pure (fun _ => rfl) rfl rfl rfl rfl (fun x w1 hF => ?_)
      obtain ⟨hA, hO⟩ := hF
      have a1 := hA.c1
      clear hA hO
      go_simp
      with_reducible rfl
    refine And.intro ?_ ?_
    · refine Reg.ob_known (fun _ => rfl) rfl rfl (fun x w1 hF hU K hK => ?_)
      refine wp_load_mid 58 _ rfl g (o + k * 5 + 1) ?_ (mbA xa.m).toList _ (act_tail (hF rfl).1.rg) Try.underlying58 rfl Try.sizeMb ?_
      · go_simp
        try rfl
      · exact hK w1 (fun h _ _ => absurd h (by decide)) rfl
    refine And.intro ?_ ?_
    · refine Reg.ob_known (fun _ => rfl) rfl rfl (fun x w1 hF hU K hK => ?_)
      obtain ⟨hA, hO⟩ := hF rfl
      go_simp
      refine (ref_is xa.m w1).mono ?_
      rintro e w5 ⟨rfl, ho⟩
      exact hK w5 (fun _ _ _ => ⟨hA.go ho (by simp), hO.trans ho (fun _ _ e => e.elim)⟩) ho
    refine And.intro ?_ ?_
    · refine Reg.ob_some (fun _ => rfl) rfl (fun x w1 hF hU K hK => ?_)
      obtain ⟨hA, hO⟩ := hF rfl
      obtain ⟨⟨-, ho1⟩, -⟩ := hU
      go_simp
      refine (HIN.out w1 ho1).mono ?_
      rintro e w5 ⟨v', rfl, hres, ho⟩
      exact hK _ w5 (fun _ _ _ => ⟨hA.go ho (by simp), hO.trans ho (fun _ _ e => e.elim)⟩) ho ⟨v', rfl, hres⟩
    refine And.intro ?_ ?_
    · refine Reg.ob_some (fun _ => rfl) rfl (fun x w1 hF hU K hK => ?_)
      go_simp
      exact hK _ _ (fun h => by cases h) rfl rfl
    refine And.intro ?_ ?_
    · refine Reg.ob_some (fun _ => rfl) rfl (fun x w1 hF hU K hK => ?_)
      obtain ⟨⟨v', h7, hres⟩, h8, -⟩ := hU
      have h8 : x 8 = x 7 := h8
      have h7 : x 7 = .tuple #[rrV most v', .int .i64 (code : Int)] := h7
      revert hK
      simp only [Nat.reduceAdd, h8, h7]
      intro hK
      go_simp
      exact hK _ _ (fun h => by cases h) rfl ⟨v', h7, rfl⟩
    refine And.intro ?_ ?_
    · refine Reg.ob_told (fun _ => rfl) rfl (fun x w1 hF hU K hK => ?_)
      obtain ⟨⟨v', h7, hres⟩, h8, -⟩ := hU
      have h8 : x 8 = x 7 := h8
      have h7 : x 7 = .tuple #[rrV most v', .int .i64 (code : Int)] := h7
      revert hK
      simp only [Nat.reduceAdd, h8, h7]
      intro hK
      go_simp
      exact hK _ (fun h => by cases h) rfl trivial
    refine And.intro ?_ ?_
    · refine Reg.ob_some (fun _ => rfl) rfl (fun x w1 hF hU K hK => ?_)
      obtain ⟨hA, hO⟩ := hF rfl
      obtain ⟨⟨v', h7, hres⟩, ⟨v2, h7', h9⟩, ⟨h4, -⟩, -⟩ := hU
      have h7 : x 7 = .tuple #[rrV most v', .int .i64 (code : Int)] := h7
      have h7' : x 7 = .tuple #[rrV most v2, .int .i64 (code : Int)] := h7'
      obtain rfl : v' = v2 := by rw [h7] at h7'; simpa using h7'
      have h9 : x 9 = rrV most v' := h9
      have h4 : Is w1 xb 54 #[.int .i64 most, vx] := h4
      obtain ⟨hz1, hz2⟩ := hrs _ _ hres
      refine wp_store_is 54 _ _ rfl xb #[.int .i64 most, v'] rfl (by simpa [Act.eval] using h9) _ _ h4 Try.sizeRo rfl (all_rr most hz1) ?_
      intro w' hI ho
      exact hK _ w' (fun _ _ _ => ⟨hA.go ho hne, hO.trans ho (fun _ _ e => e)⟩) ⟨⟨_, h4⟩, ho⟩ ⟨v', hI, p2 _ _ _ hres ⟨_, h4⟩ ho⟩
    refine And.intro ?_ ?_
    · refine Reg.ob_pure (fun _ => rfl) rfl rfl rfl rfl (fun x w1 hF => ?_)
      obtain ⟨hA, hO⟩ := hF
      have a1 := hA.c1
      clear hA hO
      go_simp
      with_reducible rfl
    exact trivial
  case hF =>
    exact ⟨hA.go (S := fun _ => False) ((Only.refl _ w0).drewN 1) (by simp), (hw0.drewN 1).mono (fun _ _ e => e.elim)⟩
  case hini =>
    exact ⟨fun x => ⟨h4.only ((Only.refl (fun _ => False) w0).drewN 1) (by simp), hw0.drewN 1⟩, trivial⟩
  case pres =>
    intro i hi j hj hc x wx wy hF hE hW
    simp only [List.mem_cons, List.mem_nil_iff, or_false] at hi hj
    rcases hi with rfl | rfl | rfl <;> rcases hj with rfl | rfl | rfl | rfl | rfl
    all_goals first | (exfalso; revert hc; decide) | skip
    all_goals first
      | exact hW
      | (obtain ⟨v', h1, h2⟩ := hW; exact ⟨v', h1, p1 _ _ _ h2 hE⟩)
      | (obtain ⟨v', h1, h2⟩ := hW; exact ⟨v', h1, p2 _ _ _ h2 hE.1 hE.2⟩)
      | exact ⟨hW.1.only hE (by simp), hW.2.trans hE (fun _ _ e => e)⟩
  case fin =>
    rintro x w9 hF hU
    obtain ⟨⟨v', hQ1, hQ2⟩, -⟩ := hU
    repeat apply Exists.intro
    exact ⟨rfl, rfl, v', hQ1, hQ2, (hF rfl).2⟩

set_option maxRecDepth 100000 in
set_option maxHeartbeats 4000000 in
theorem rp15 (most : Int) (vx : Value) (g o k L c xb code : Nat) (xa : A14) (Res : Value → World → Prop) (w : World) (hkI : (k : Int) < (L : Int)) (hne : ¬ g = xb) (hin : ∀ w1, Only (fun _ => False) w w1 → Calls Try.prog 24 #[rrV most vx, mbV xa.m] w1 (fun e w2 => ∃ v', e = .returned (.tuple #[rrV most v', .int .i64 (code : Int)]) ∧ Res v' w2 ∧ Only (fun _ => False) w1 w2)) (hrs : ∀ v' wz, Res v' wz → v'.oneCell' = true ∧ True) (p1 : ∀ v' x y, Res v' x → Only (fun _ => False) x y → Res v' y) (p2 : ∀ v' x y, Res v' x → (∃ ds, Is x xb 54 ds) → Only (fun j => j = xb) x y → Res v' y)  (u0 u2 u3 u4 u5 u6 u7 u8 u9 u10 u12 u14 u15 u16 u17 u18 u19 u20 u21 u22 u23 u24 u25 u26 u27 u28 u29 u30 u31 u32 u33 u34 u35 u36 u37 u38 u39 u40 u41 u42 u43 u44 u45 u46 u47 u48 u49 u50 u51 u52 u53 u54 u55 u56 u57 u58 u59 u60 u61 u62 u63 u64 u65 u66 u67 u68 u69 u70 u71 u72 u73 u74 u75 u76 u77 u78 u79 u80 u81 u82 u83 u84 u85 u86 u87 u88 u89 u90 u91 u92 u93 u94 u95 u96 u97 u98 u99 u100 u101 u102 u103 u104 u105 u106 u107 u108 u109 u110 u111 u112 u113 u114 u115 u116 u117 u118 u119 u120 u121 u122 u123 u124 u125 u126 u127 u128 u129 u130 u131 u132 u133 u134 : Value) (Q : Exit → Act → World → Prop) (w0 : World) (hw0 : Only (fun _ => False) w w0) (h4 : Is w0 xb 54 #[.int .i64 most, vx]) (hA : Ga g (o + k * 5) xa w0)
    (hend : ∀ (y81 y82 y83 y84 y85 y86 y87 y88 y89 y90 y91 : Value) (w' : World), (∃ v', Is w' xb 54 #[.int .i64 most, v'] ∧ Res v' w' ∧ Only (fun j => j = xb) w w') → Q .normal ⟨(List.toArray (u0 :: .slice (some ⟨g, o, none⟩) L c :: u2 :: u3 :: u4 :: u5 :: u6 :: u7 :: u8 :: u9 :: u10 :: .pointer (some ⟨xb, 0, none⟩) :: u12 :: .int .i64 (k : Int) :: u14 :: (.int .i64 (code : Int)) :: u16 :: u17 :: u18 :: u19 :: u20 :: u21 :: u22 :: u23 :: u24 :: u25 :: u26 :: u27 :: u28 :: u29 :: u30 :: u31 :: u32 :: u33 :: u34 :: u35 :: u36 :: u37 :: u38 :: u39 :: u40 :: u41 :: u42 :: u43 :: u44 :: u45 :: u46 :: u47 :: u48 :: u49 :: u50 :: u51 :: u52 :: u53 :: u54 :: u55 :: u56 :: u57 :: u58 :: u59 :: u60 :: u61 :: u62 :: u63 :: u64 :: u65 :: u66 :: u67 :: u68 :: u69 :: u70 :: u71 :: u72 :: u73 :: u74 :: u75 :: u76 :: u77 :: u78 :: u79 :: u80 :: y81 :: y82 :: y83 :: y84 :: y85 :: y86 :: y87 :: y88 :: y89 :: y90 :: y91 :: u92 :: u93 :: u94 :: u95 :: u96 :: u97 :: u98 :: u99 :: u100 :: u101 :: u102 :: u103 :: u104 :: u105 :: u106 :: u107 :: u108 :: u109 :: u110 :: u111 :: u112 :: u113 :: u114 :: u115 :: u116 :: u117 :: u118 :: u119 :: u120 :: u121 :: u122 :: u123 :: u124 :: u125 :: u126 :: u127 :: u128 :: u129 :: u130 :: u131 :: u132 :: u133 :: u134 :: [])), []⟩ w') :
    Code.wp Try.prog rp15_code Q ⟨(List.toArray (u0 :: .slice (some ⟨g, o, none⟩) L c :: u2 :: u3 :: u4 :: u5 :: u6 :: u7 :: u8 :: u9 :: u10 :: .pointer (some ⟨xb, 0, none⟩) :: u12 :: .int .i64 (k : Int) :: u14 :: u15 :: u16 :: u17 :: u18 :: u19 :: u20 :: u21 :: u22 :: u23 :: u24 :: u25 :: u26 :: u27 :: u28 :: u29 :: u30 :: u31 :: u32 :: u33 :: u34 :: u35 :: u36 :: u37 :: u38 :: u39 :: u40 :: u41 :: u42 :: u43 :: u44 :: u45 :: u46 :: u47 :: u48 :: u49 :: u50 :: u51 :: u52 :: u53 :: u54 :: u55 :: u56 :: u57 :: u58 :: u59 :: u60 :: u61 :: u62 :: u63 :: u64 :: u65 :: u66 :: u67 :: u68 :: u69 :: u70 :: u71 :: u72 :: u73 :: u74 :: u75 :: u76 :: u77 :: u78 :: u79 :: u80 :: u81 :: u82 :: u83 :: u84 :: u85 :: u86 :: u87 :: u88 :: u89 :: u90 :: u91 :: u92 :: u93 :: u94 :: u95 :: u96 :: u97 :: u98 :: u99 :: u100 :: u101 :: u102 :: u103 :: u104 :: u105 :: u106 :: u107 :: u108 :: u109 :: u110 :: u111 :: u112 :: u113 :: u114 :: u115 :: u116 :: u117 :: u118 :: u119 :: u120 :: u121 :: u122 :: u123 :: u124 :: u125 :: u126 :: u127 :: u128 :: u129 :: u130 :: u131 :: u132 :: u133 :: u134 :: [])), []⟩ w0 := by
  refine wp_mono (rp15_in most vx g o k L c xb code xa Res w hkI hne hin hrs p1 p2 _ _ _ _ _ _ _ _ _ _ _ _ _ _ _ _ _ _ _ _ _ _ _ _ _ _ _ _ _ _ _ _ _ _ _ _ _ _ _ _ _ _ _ _ _ _ _ _ _ _ _ _ _ _ _ _ _ _ _ _ _ _ _ _ _ _ _ _ _ _ _ _ _ _ _ _ _ _ _ _ _ _ _ _ _ _ _ _ _ _ _ _ _ _ _ _ _ _ _ _ _ _ _ _ _ _ _ _ _ _ _ _ _ _ _ _ _ _ _ _ _ _ _ _ _ _ _ _ _ _ _ _ w0 hw0 h4 hA) ?_
  rintro e a w' h
  obtain ⟨y81, h⟩ := h
  obtain ⟨y82, h⟩ := h
  obtain ⟨y83, h⟩ := h
  obtain ⟨y84, h⟩ := h
  obtain ⟨y85, h⟩ := h
  obtain ⟨y86, h⟩ := h
  obtain ⟨y87, h⟩ := h
  obtain ⟨y88, h⟩ := h
  obtain ⟨y89, h⟩ := h
  obtain ⟨y90, h⟩ := h
  obtain ⟨y91, h⟩ := h
  obtain ⟨h, rfl, hq⟩ := h
  subst h
  exact hend y81 y82 y83 y84 y85 y86 y87 y88 y89 y90 y91 w' hq
def rp16_A : List (List Nat) := ([] :: [] :: [0, 1] :: [2, 0, 1] :: [3, 2, 0, 1] :: [3, 2, 0, 1] :: [3, 2, 0, 1] :: [3, 2, 0, 1] :: (4 :: 5 :: 6 :: 7 :: 3 :: 2 :: 0 :: 1 :: []) :: (8 :: 3 :: 4 :: 5 :: 6 :: 7 :: 2 :: 0 :: 1 :: []) :: (3 :: 9 :: 2 :: 0 :: 1 :: 8 :: 4 :: 5 :: 6 :: 7 :: []) :: (10 :: 8 :: 3 :: 9 :: 2 :: 0 :: 1 :: 4 :: 5 :: 6 :: 7 :: []) :: (11 :: 10 :: 8 :: 3 :: 9 :: 2 :: 0 :: 1 :: 4 :: 5 :: 6 :: 7 :: []) :: (11 :: 10 :: 8 :: 3 :: 9 :: 2 :: 0 :: 1 :: 4 :: 5 :: 6 :: 7 :: []) :: (11 :: 10 :: 8 :: 3 :: 9 :: 2 :: 0 :: 1 :: 4 :: 5 :: 6 :: 7 :: []) :: (11 :: 10 :: 8 :: 3 :: 9 :: 2 :: 0 :: 1 :: 4 :: 5 :: 6 :: 7 :: []) :: (14 :: 15 :: 11 :: 10 :: 8 :: 3 :: 9 :: 2 :: 0 :: 1 :: 4 :: 5 :: 6 :: 7 :: []) :: (16 :: 11 :: 14 :: 15 :: 10 :: 8 :: 3 :: 9 :: 2 :: 0 :: 1 :: 4 :: 5 :: 6 :: 7 :: []) :: (17 :: 11 :: 16 :: 14 :: 15 :: 10 :: 8 :: 3 :: 9 :: 2 :: 0 :: 1 :: 4 :: 5 :: 6 :: 7 :: []) :: (18 :: 11 :: 17 :: 16 :: 14 :: 15 :: 10 :: 8 :: 3 :: 9 :: 2 :: 0 :: 1 :: 4 :: 5 :: 6 :: 7 :: []) :: (11 :: 10 :: 8 :: 3 :: 9 :: 2 :: 0 :: 1 :: 4 :: 5 :: 6 :: 7 :: []) :: (11 :: 10 :: 8 :: 3 :: 9 :: 2 :: 0 :: 1 :: 4 :: 5 :: 6 :: 7 :: []) :: (20 :: 21 :: 11 :: 10 :: 8 :: 3 :: 9 :: 2 :: 0 :: 1 :: 4 :: 5 :: 6 :: 7 :: []) :: (22 :: 11 :: 20 :: 21 :: 10 :: 8 :: 3 :: 9 :: 2 :: 0 :: 1 :: 4 :: 5 :: 6 :: 7 :: []) :: (23 :: 11 :: 22 :: 20 :: 21 :: 10 :: 8 :: 3 :: 9 :: 2 :: 0 :: 1 :: 4 :: 5 :: 6 :: 7 :: []) :: (24 :: 11 :: 23 :: 22 :: 20 :: 21 :: 10 :: 8 :: 3 :: 9 :: 2 :: 0 :: 1 :: 4 :: 5 :: 6 :: 7 :: []) :: (12 :: 13 :: 19 :: 25 :: 11 :: 10 :: 8 :: 3 :: 9 :: 2 :: 0 :: 1 :: 4 :: 5 :: 6 :: 7 :: 18 :: 17 :: 16 :: 14 :: 15 :: 24 :: 23 :: 22 :: 20 :: 21 :: []) :: (26 :: 11 :: 12 :: 13 :: 19 :: 25 :: 10 :: 8 :: 3 :: 9 :: 2 :: 0 :: 1 :: 4 :: 5 :: 6 :: 7 :: 18 :: 17 :: 16 :: 14 :: 15 :: 24 :: 23 :: 22 :: 20 :: 21 :: []) :: (11 :: 27 :: 10 :: 8 :: 3 :: 9 :: 2 :: 0 :: 1 :: 4 :: 5 :: 6 :: 7 :: 26 :: 12 :: 13 :: 19 :: 25 :: 18 :: 17 :: 16 :: 14 :: 15 :: 24 :: 23 :: 22 :: 20 :: 21 :: []) :: (28 :: 26 :: 11 :: 27 :: 10 :: 8 :: 3 :: 9 :: 2 :: 0 :: 1 :: 4 :: 5 :: 6 :: 7 :: 12 :: 13 :: 19 :: 25 :: 18 :: 17 :: 16 :: 14 :: 15 :: 24 :: 23 :: 22 :: 20 :: 21 :: []) :: (29 :: 28 :: 26 :: 11 :: 27 :: 10 :: 8 :: 3 :: 9 :: 2 :: 0 :: 1 :: 4 :: 5 :: 6 :: 7 :: 12 :: 13 :: 19 :: 25 :: 18 :: 17 :: 16 :: 14 :: 15 :: 24 :: 23 :: 22 :: 20 :: 21 :: []) :: (29 :: 28 :: 26 :: 11 :: 27 :: 10 :: 8 :: 3 :: 9 :: 2 :: 0 :: 1 :: 4 :: 5 :: 6 :: 7 :: 12 :: 13 :: 19 :: 25 :: 18 :: 17 :: 16 :: 14 :: 15 :: 24 :: 23 :: 22 :: 20 :: 21 :: []) :: (29 :: 28 :: 26 :: 11 :: 27 :: 10 :: 8 :: 3 :: 9 :: 2 :: 0 :: 1 :: 4 :: 5 :: 6 :: 7 :: 12 :: 13 :: 19 :: 25 :: 18 :: 17 :: 16 :: 14 :: 15 :: 24 :: 23 :: 22 :: 20 :: 21 :: []) :: (29 :: 28 :: 26 :: 11 :: 27 :: 10 :: 8 :: 3 :: 9 :: 2 :: 0 :: 1 :: 4 :: 5 :: 6 :: 7 :: 12 :: 13 :: 19 :: 25 :: 18 :: 17 :: 16 :: 14 :: 15 :: 24 :: 23 :: 22 :: 20 :: 21 :: []) :: (29 :: 28 :: 26 :: 11 :: 27 :: 10 :: 8 :: 3 :: 9 :: 2 :: 0 :: 1 :: 4 :: 5 :: 6 :: 7 :: 12 :: 13 :: 19 :: 25 :: 18 :: 17 :: 16 :: 14 :: 15 :: 24 :: 23 :: 22 :: 20 :: 21 :: []) :: (33 :: 34 :: 29 :: 28 :: 26 :: 11 :: 27 :: 10 :: 8 :: 3 :: 9 :: 2 :: 0 :: 1 :: 4 :: 5 :: 6 :: 7 :: 12 :: 13 :: 19 :: 25 :: 18 :: 17 :: 16 :: 14 :: 15 :: 24 :: 23 :: 22 :: 20 :: 21 :: []) :: (35 :: 29 :: 33 :: 34 :: 28 :: 26 :: 11 :: 27 :: 10 :: 8 :: 3 :: 9 :: 2 :: 0 :: 1 :: 4 :: 5 :: 6 :: 7 :: 12 :: 13 :: 19 :: 25 :: 18 :: 17 :: 16 :: 14 :: 15 :: 24 :: 23 :: 22 :: 20 :: 21 :: []) :: (36 :: 29 :: 35 :: 33 :: 34 :: 28 :: 26 :: 11 :: 27 :: 10 :: 8 :: 3 :: 9 :: 2 :: 0 :: 1 :: 4 :: 5 :: 6 :: 7 :: 12 :: 13 :: 19 :: 25 :: 18 :: 17 :: 16 :: 14 :: 15 :: 24 :: 23 :: 22 :: 20 :: 21 :: []) :: (37 :: 29 :: 36 :: 35 :: 33 :: 34 :: 28 :: 26 :: 11 :: 27 :: 10 :: 8 :: 3 :: 9 :: 2 :: 0 :: 1 :: 4 :: 5 :: 6 :: 7 :: 12 :: 13 :: 19 :: 25 :: 18 :: 17 :: 16 :: 14 :: 15 :: 24 :: 23 :: 22 :: 20 :: 21 :: []) :: (30 :: 31 :: 32 :: 38 :: 29 :: 28 :: 26 :: 11 :: 27 :: 10 :: 8 :: 3 :: 9 :: 2 :: 0 :: 1 :: 4 :: 5 :: 6 :: 7 :: 12 :: 13 :: 19 :: 25 :: 18 :: 17 :: 16 :: 14 :: 15 :: 24 :: 23 :: 22 :: 20 :: 21 :: 37 :: 36 :: 35 :: 33 :: 34 :: []) :: (39 :: 29 :: 30 :: 31 :: 32 :: 38 :: 28 :: 26 :: 11 :: 27 :: 10 :: 8 :: 3 :: 9 :: 2 :: 0 :: 1 :: 4 :: 5 :: 6 :: 7 :: 12 :: 13 :: 19 :: 25 :: 18 :: 17 :: 16 :: 14 :: 15 :: 24 :: 23 :: 22 :: 20 :: 21 :: 37 :: 36 :: 35 :: 33 :: 34 :: []) :: (29 :: 40 :: 28 :: 26 :: 11 :: 27 :: 10 :: 8 :: 3 :: 9 :: 2 :: 0 :: 1 :: 4 :: 5 :: 6 :: 7 :: 12 :: 13 :: 19 :: 25 :: 18 :: 17 :: 16 :: 14 :: 15 :: 24 :: 23 :: 22 :: 20 :: 21 :: 39 :: 30 :: 31 :: 32 :: 38 :: 37 :: 36 :: 35 :: 33 :: 34 :: []) :: [])
def rp16_kill : List (List Nat) := ([] :: [] :: [] :: [] :: [] :: [] :: [] :: [] :: [] :: [] :: [] :: [] :: [] :: [] :: [] :: [] :: [] :: [] :: [] :: [] :: [] :: [] :: [] :: [] :: [] :: [] :: [] :: [] :: [] :: [] :: [] :: [] :: [] :: [] :: [] :: [] :: [] :: [] :: [] :: [] :: [] :: [] :: [])
def rp16_uses : List (List Nat) := ([] :: [] :: [] :: [] :: [] :: [] :: [] :: [] :: [] :: [] :: [] :: [] :: [] :: [] :: [] :: [] :: [] :: [] :: [] :: [] :: [] :: [] :: [] :: [] :: [] :: [] :: [] :: [] :: [] :: [] :: [] :: [] :: [] :: [] :: [] :: [] :: [] :: [] :: [] :: [] :: [] :: [] :: [])
noncomputable def rp16_code : Code := ((Try.f5.body.bind (codeRegion 16)).getD .skip)
set_option maxRecDepth 100000 in
set_option maxHeartbeats 4000000 in
theorem rp16_in (most id : Int) (vx : Value) (g o k L c b xb code s : Nat) (xa : A14) (Cd : World → Prop) (w : World) (hkI : (k : Int) < (L : Int)) (hs : s < 4294967296) (hco : xa.m.co < 4294967296) (hca : xa.m.ca < 4294967296) (hcd : ∀ x y, Cd x → Only (fun _ => False) x y → Cd y) (his : ∀ (w1 : World) (id : Int) (s : Nat), Cd w1 → s < 4294967296 → Calls Try.prog 26 #[ptr b, rrV most vx, .int .i64 id, .int .u32 (s : Int)] w1 (SaysR (.bool true) w1))  (u0 u4 u5 u6 u7 u8 u10 u12 u16 u17 u18 u19 u20 u21 u22 u23 u24 u25 u26 u27 u28 u29 u30 u31 u32 u33 u34 u35 u36 u37 u38 u39 u40 u41 u42 u43 u44 u45 u46 u47 u48 u49 u50 u51 u52 u53 u54 u55 u56 u57 u58 u59 u60 u61 u62 u63 u64 u65 u66 u67 u68 u69 u70 u71 u72 u73 u74 u75 u76 u77 u78 u79 u80 u81 u82 u83 u84 u85 u86 u87 u88 u89 u90 u91 u92 u93 u94 u95 u96 u97 u98 u99 u100 u101 u102 u103 u104 u105 u106 u107 u108 u109 u110 u111 u112 u113 u114 u115 u116 u117 u118 u119 u120 u121 u122 u123 u124 u125 u126 u127 u128 u129 u130 u131 u132 u133 u134 : Value) (w0 : World) (hw0 : Only (fun _ => False) w w0) (h4 : Is w0 xb 54 #[.int .i64 most, vx]) (hA : Ga g (o + k * 5) xa w0) (hCd : Cd w0) :
    Code.wp Try.prog rp16_code (fun e a w' => ∃ y92 y93 y94 y95 y96 y97 y98 y99 y100 y101 y102 y103 y104 y105 y106 y107 y108 y109 y110 y111 y112 y113 y114 y115 y116 y117 y118 y119 y120 y121 y122 y123 y124 y125 y126 y127 y128 y129 y130 y131 y132 : Value, a = ⟨(List.toArray (u0 :: .slice (some ⟨g, o, none⟩) L c :: .int .i64 id :: .int .u32 (s : Int) :: u4 :: u5 :: u6 :: u7 :: u8 :: .pointer (some ⟨b, 0, none⟩) :: u10 :: .pointer (some ⟨xb, 0, none⟩) :: u12 :: .int .i64 (k : Int) :: .int .i64 (code : Int) :: .int .i64 (code : Int) :: u16 :: u17 :: u18 :: u19 :: u20 :: u21 :: u22 :: u23 :: u24 :: u25 :: u26 :: u27 :: u28 :: u29 :: u30 :: u31 :: u32 :: u33 :: u34 :: u35 :: u36 :: u37 :: u38 :: u39 :: u40 :: u41 :: u42 :: u43 :: u44 :: u45 :: u46 :: u47 :: u48 :: u49 :: u50 :: u51 :: u52 :: u53 :: u54 :: u55 :: u56 :: u57 :: u58 :: u59 :: u60 :: u61 :: u62 :: u63 :: u64 :: u65 :: u66 :: u67 :: u68 :: u69 :: u70 :: u71 :: u72 :: u73 :: u74 :: u75 :: u76 :: u77 :: u78 :: u79 :: u80 :: u81 :: u82 :: u83 :: u84 :: u85 :: u86 :: u87 :: u88 :: u89 :: u90 :: u91 :: y92 :: y93 :: y94 :: y95 :: y96 :: y97 :: y98 :: y99 :: y100 :: y101 :: y102 :: y103 :: y104 :: y105 :: y106 :: y107 :: y108 :: y109 :: y110 :: y111 :: y112 :: y113 :: y114 :: y115 :: y116 :: y117 :: y118 :: y119 :: y120 :: y121 :: y122 :: y123 :: y124 :: y125 :: y126 :: y127 :: y128 :: y129 :: y130 :: y131 :: y132 :: .bool false :: u134 :: [])), []⟩ ∧ e = .normal ∧ (Is w' xb 54 #[.int .i64 most, vx] ∧ Cd w' ∧ Only (fun _ => False) w w')) ⟨(List.toArray (u0 :: .slice (some ⟨g, o, none⟩) L c :: .int .i64 id :: .int .u32 (s : Int) :: u4 :: u5 :: u6 :: u7 :: u8 :: .pointer (some ⟨b, 0, none⟩) :: u10 :: .pointer (some ⟨xb, 0, none⟩) :: u12 :: .int .i64 (k : Int) :: .int .i64 (code : Int) :: .int .i64 (code : Int) :: u16 :: u17 :: u18 :: u19 :: u20 :: u21 :: u22 :: u23 :: u24 :: u25 :: u26 :: u27 :: u28 :: u29 :: u30 :: u31 :: u32 :: u33 :: u34 :: u35 :: u36 :: u37 :: u38 :: u39 :: u40 :: u41 :: u42 :: u43 :: u44 :: u45 :: u46 :: u47 :: u48 :: u49 :: u50 :: u51 :: u52 :: u53 :: u54 :: u55 :: u56 :: u57 :: u58 :: u59 :: u60 :: u61 :: u62 :: u63 :: u64 :: u65 :: u66 :: u67 :: u68 :: u69 :: u70 :: u71 :: u72 :: u73 :: u74 :: u75 :: u76 :: u77 :: u78 :: u79 :: u80 :: u81 :: u82 :: u83 :: u84 :: u85 :: u86 :: u87 :: u88 :: u89 :: u90 :: u91 :: u92 :: u93 :: u94 :: u95 :: u96 :: u97 :: u98 :: u99 :: u100 :: u101 :: u102 :: u103 :: u104 :: u105 :: u106 :: u107 :: u108 :: u109 :: u110 :: u111 :: u112 :: u113 :: u114 :: u115 :: u116 :: u117 :: u118 :: u119 :: u120 :: u121 :: u122 :: u123 :: u124 :: u125 :: u126 :: u127 :: u128 :: u129 :: u130 :: u131 :: u132 :: u133 :: u134 :: [])), []⟩ w0 := by
  conv => arg 2; whnf
  have HIS := Lib.hid his
  clear his
  refine wp_region_posts rp16_A [8, 26, 39] [] rp16_kill rp16_uses [] [] [] []
      (some ?v0 :: some ?v1 :: some ?v2 :: some ?v3 :: some ?v4 :: some ((rrV most vx)) :: some ?v6 :: some ?v7 :: some ((.bool true)) :: some ?v9 :: some ?v10 :: some ?v11 :: some ?v12 :: some ((rrV most vx)) :: some ?v14 :: some ?v15 :: some ?v16 :: some ?v17 :: some ?v18 :: some ?v19 :: some ?v20 :: some ?v21 :: some ?v22 :: some ?v23 :: some ?v24 :: some ?v25 :: some ((.bool true)) :: some ?v27 :: some ?v28 :: some ?v29 :: some ?v30 :: some ((rrV most vx)) :: some ?v32 :: some ?v33 :: some ?v34 :: some ?v35 :: some ?v36 :: some ?v37 :: some ?v38 :: some ((.bool true)) :: some ?v40 :: some ?v41 :: [])
      ?T (fun wx => Is wx xb 54 #[.int .i64 most, vx] ∧ Ga g (o + k * 5) xa wx ∧ Cd wx ∧ Only (fun _ => False) w wx) ?W ?E (by kernel_rfl) (by kernel_rfl) (by kernel_rfl) (fun x => ?hT) ?hF ?hini (Reg.all_ops ?runs) ?pres ?fin
  case W => exact fun j y w' => True
  case E => exact fun i wx wy => Only (fun _ => False) wx wy
  case hT =>
    simp only [Reg.fillV, Act.put, List.setIfInBounds_toArray, List.set_cons_zero, List.set_cons_succ]
    rfl
  case runs =>
    refine And.intro ?_ ?_
    · refine Reg.ob_pure (fun _ => rfl) rfl rfl rfl rfl (fun x w1 hF => ?_)
      obtain ⟨h1, hA, h3, h4⟩ := hF
      have a1 := hA.c1
      have a2 := hA.c2
      have a3 := hA.c3
      clear h1 hA h3 h4
      go_simp
      with_reducible rfl
    refine And.intro ?_ ?_
    · refine Reg.ob_pure (fun _ => rfl) rfl rfl rfl rfl (fun x w1 hF => ?_)
      obtain ⟨h1, hA, h3, h4⟩ := hF
      have a1 := hA.c1
      have a2 := hA.c2
      have a3 := hA.c3
      clear h1 hA h3 h4
      go_simp
      with_reducible rfl
    refine And.intro ?_ ?_
    · refine Reg.ob_pure (fun _ => rfl) rfl rfl rfl rfl (fun x w1 hF => ?_)
      obtain ⟨h1, hA, h3, h4⟩ := hF
      have a1 := hA.c1
      have a2 := hA.c2
      have a3 := hA.c3
      clear h1 hA h3 h4
      go_simp
      with_reducible rfl
    refine And.intro ?_ ?_
    · refine Reg.ob_pure (fun _ => rfl) rfl rfl rfl rfl (fun x w1 hF => ?_)
      obtain ⟨h1, hA, h3, h4⟩ := hF
      have a1 := hA.c1
      have a2 := hA.c2
      have a3 := hA.c3
      clear h1 hA h3 h4
      go_simp
      with_reducible rfl
    refine And.intro ?_ ?_
    · refine Reg.ob_pure (fun _ => rfl) rfl rfl rfl rfl (fun x w1 hF => ?_)
      obtain ⟨h1, hA, h3, h4⟩ := hF
      have a1 := hA.c1
      have a2 := hA.c2
      have a3 := hA.c3
      clear h1 hA h3 h4
      go_simp
      with_reducible rfl
    refine And.intro ?_ ?_
    · refine Reg.ob_known (fun _ => rfl) rfl rfl (fun x w1 hF hU K hK => ?_)
      refine wp_load_mid 54 _ rfl xb 0 rfl [.int .i64 most, vx] _ (World.rangeAt_of_block (hF rfl).1 0 2) Try.underlying54 rfl Try.sizeRo ?_
      exact hK w1 (fun h _ _ => absurd h (by decide)) rfl
    refine And.intro ?_ ?_
    · refine Reg.ob_pure (fun _ => rfl) rfl rfl rfl rfl (fun x w1 hF => ?_)
      obtain ⟨h1, hA, h3, h4⟩ := hF
      have a1 := hA.c1
      have a2 := hA.c2
      have a3 := hA.c3
      clear h1 hA h3 h4
      go_simp
      with_reducible rfl
    refine And.intro ?_ ?_
    · refine Reg.ob_pure (fun _ => rfl) rfl rfl rfl rfl (fun x w1 hF => ?_)
      obtain ⟨h1, hA, h3, h4⟩ := hF
      have a1 := hA.c1
      have a2 := hA.c2
      have a3 := hA.c3
      clear h1 hA h3 h4
      go_simp
      with_reducible rfl
    refine And.intro ?_ ?_
    · refine Reg.ob_known (fun _ => rfl) rfl rfl (fun x w1 hF hU K hK => ?_)
      obtain ⟨h1, h2, h3, h4⟩ := hF rfl
      go_simp
      refine (HIS.out w1 id s h3 hs).mono ?_
      rintro e w5 ⟨rfl, ho⟩
      exact hK w5 (fun _ _ _ => ⟨h1.only ho (by simp), h2.go ho (by simp), hcd _ _ h3 ho, h4.trans ho (fun _ _ e => e)⟩) ho
    refine And.intro ?_ ?_
    · refine Reg.ob_pure (fun _ => rfl) rfl rfl rfl rfl (fun x w1 hF => ?_)
      obtain ⟨h1, hA, h3, h4⟩ := hF
      have a1 := hA.c1
      have a2 := hA.c2
      have a3 := hA.c3
      clear h1 hA h3 h4
      go_simp
      with_reducible rfl
    refine And.intro ?_ ?_
    · refine Reg.ob_pure (fun _ => rfl) rfl rfl rfl rfl (fun x w1 hF => ?_)
      obtain ⟨h1, hA, h3, h4⟩ := hF
      have a1 := hA.c1
      have a2 := hA.c2
      have a3 := hA.c3
      clear h1 hA h3 h4
      go_simp
      with_reducible rfl
    refine And.intro ?_ ?_
    · refine Reg.ob_pure (fun _ => rfl) rfl rfl rfl rfl (fun x w1 hF => ?_)
      obtain ⟨h1, hA, h3, h4⟩ := hF
      have a1 := hA.c1
      have a2 := hA.c2
      have a3 := hA.c3
      clear h1 hA h3 h4
      go_simp
      with_reducible rfl
    refine And.intro ?_ ?_
    · refine Reg.ob_pure (fun _ => rfl) rfl rfl rfl rfl (fun x w1 hF => ?_)
      obtain ⟨h1, hA, h3, h4⟩ := hF
      have a1 := hA.c1
      have a2 := hA.c2
      have a3 := hA.c3
      clear h1 hA h3 h4
      go_simp
      with_reducible rfl
    refine And.intro ?_ ?_
    · refine Reg.ob_known (fun _ => rfl) rfl rfl (fun x w1 hF hU K hK => ?_)
      refine wp_load_mid 54 _ rfl xb 0 rfl [.int .i64 most, vx] _ (World.rangeAt_of_block (hF rfl).1 0 2) Try.underlying54 rfl Try.sizeRo ?_
      exact hK w1 (fun h _ _ => absurd h (by decide)) rfl
    refine And.intro ?_ ?_
    · refine Reg.ob_pure (fun _ => rfl) rfl rfl rfl rfl (fun x w1 hF => ?_)
      obtain ⟨h1, hA, h3, h4⟩ := hF
      have a1 := hA.c1
      have a2 := hA.c2
      have a3 := hA.c3
      clear h1 hA h3 h4
      go_simp
      with_reducible rfl
    refine And.intro ?_ ?_
    · refine Reg.ob_pure (fun _ => rfl) rfl rfl rfl rfl (fun x w1 hF => ?_)
      obtain ⟨h1, hA, h3, h4⟩ := hF
      have a1 := hA.c1
      have a2 := hA.c2
      have a3 := hA.c3
      clear h1 hA h3 h4
      go_simp
      with_reducible rfl
    refine And.intro ?_ ?_
    · refine Reg.ob_pure (fun _ => rfl) rfl rfl rfl rfl (fun x w1 hF => ?_)
      obtain ⟨h1, hA, h3, h4⟩ := hF
      have a1 := hA.c1
      have a2 := hA.c2
      have a3 := hA.c3
      clear h1 hA h3 h4
      go_simp
      with_reducible rfl
    refine And.intro ?_ ?_
    · refine Reg.ob_pure (fun _ => rfl) rfl rfl rfl rfl (fun x w1 hF => ?_)
      obtain ⟨h1, hA, h3, h4⟩ := hF
      have a1 := hA.c1
      have a2 := hA.c2
      have a3 := hA.c3
      clear h1 hA h3 h4
      go_simp
      with_reducible rfl
    refine And.intro ?_ ?_
    · refine Reg.ob_pure (fun _ => rfl) rfl rfl rfl rfl (fun x w1 hF => ?_)
      obtain ⟨h1, hA, h3, h4⟩ := hF
      have a1 := hA.c1
      have a2 := hA.c2
      have a3 := hA.c3
      clear h1 hA h3 h4
      go_simp
      with_reducible rfl
    refine And.intro ?_ ?_
    · refine Reg.ob_pure (fun _ => rfl) rfl rfl rfl rfl (fun x w1 hF => ?_)
      obtain ⟨h1, hA, h3, h4⟩ := hF
      have a1 := hA.c1
      have a2 := hA.c2
      have a3 := hA.c3
      clear h1 hA h3 h4
      go_simp
      with_reducible rfl
    refine And.intro ?_ ?_
    · refine Reg.ob_pure (fun _ => rfl) rfl rfl rfl rfl (fun x w1 hF => ?_)
      obtain ⟨h1, hA, h3, h4⟩ := hF
      have a1 := hA.c1
      have a2 := hA.c2
      have a3 := hA.c3
      clear h1 hA h3 h4
      go_simp
      with_reducible rfl
    refine And.intro ?_ ?_
    · refine Reg.ob_pure (fun _ => rfl) rfl rfl rfl rfl (fun x w1 hF => ?_)
      obtain ⟨h1, hA, h3, h4⟩ := hF
      have a1 := hA.c1
      have a2 := hA.c2
      have a3 := hA.c3
      clear h1 hA h3 h4
      go_simp
      with_reducible rfl
    refine And.intro ?_ ?_
    · refine Reg.ob_pure (fun _ => rfl) rfl rfl rfl rfl (fun x w1 hF => ?_)
      obtain ⟨h1, hA, h3, h4⟩ := hF
      have a1 := hA.c1
      have a2 := hA.c2
      have a3 := hA.c3
      clear h1 hA h3 h4
      go_simp
      with_reducible rfl
    refine And.intro ?_ ?_
    · refine Reg.ob_pure (fun _ => rfl) rfl rfl rfl rfl (fun x w1 hF => ?_)
      obtain ⟨h1, hA, h3, h4⟩ := hF
      have a1 := hA.c1
      have a2 := hA.c2
      have a3 := hA.c3
      clear h1 hA h3 h4
      go_simp
      with_reducible rfl
    refine And.intro ?_ ?_
    · refine Reg.ob_pure (fun _ => rfl) rfl rfl rfl rfl (fun x w1 hF => ?_)
      obtain ⟨h1, hA, h3, h4⟩ := hF
      have a1 := hA.c1
      have a2 := hA.c2
      have a3 := hA.c3
      clear h1 hA h3 h4
      go_simp
      with_reducible rfl
    refine And.intro ?_ ?_
    · refine Reg.ob_pure (fun _ => rfl) rfl rfl rfl rfl (fun x w1 hF => ?_)
      obtain ⟨h1, hA, h3, h4⟩ := hF
      have a1 := hA.c1
      have a2 := hA.c2
      have a3 := hA.c3
      clear h1 hA h3 h4
      go_simp
      with_reducible rfl
    refine And.intro ?_ ?_
    · refine Reg.ob_known (fun _ => rfl) rfl rfl (fun x w1 hF hU K hK => ?_)
      obtain ⟨h1, h2, h3, h4⟩ := hF rfl
      go_simp
      refine (HIS.out w1 xa.m.id xa.m.co h3 hco).mono ?_
      rintro e w5 ⟨rfl, ho⟩
      exact hK w5 (fun _ _ _ => ⟨h1.only ho (by simp), h2.go ho (by simp), hcd _ _ h3 ho, h4.trans ho (fun _ _ e => e)⟩) ho
    refine And.intro ?_ ?_
    · refine Reg.ob_pure (fun _ => rfl) rfl rfl rfl rfl (fun x w1 hF => ?_)
      obtain ⟨h1, hA, h3, h4⟩ := hF
      have a1 := hA.c1
      have a2 := hA.c2
      have a3 := hA.c3
      clear h1 hA h3 h4
      go_simp
      with_reducible rfl
    refine And.intro ?_ ?_
    · refine Reg.ob_pure (fun _ => rfl) rfl rfl rfl rfl (fun x w1 hF => ?_)
      obtain ⟨h1, hA, h3, h4⟩ := hF
      have a1 := hA.c1
      have a2 := hA.c2
      have a3 := hA.c3
      clear h1 hA h3 h4
      go_simp
      with_reducible rfl
    refine And.intro ?_ ?_
    · refine Reg.ob_pure (fun _ => rfl) rfl rfl rfl rfl (fun x w1 hF => ?_)
      obtain ⟨h1, hA, h3, h4⟩ := hF
      have a1 := hA.c1
      have a2 := hA.c2
      have a3 := hA.c3
      clear h1 hA h3 h4
      go_simp
      with_reducible rfl
    refine And.intro ?_ ?_
    · refine Reg.ob_pure (fun _ => rfl) rfl rfl rfl rfl (fun x w1 hF => ?_)
      obtain ⟨h1, hA, h3, h4⟩ := hF
      have a1 := hA.c1
      have a2 := hA.c2
      have a3 := hA.c3
      clear h1 hA h3 h4
      go_simp
      with_reducible rfl
    refine And.intro ?_ ?_
    · refine Reg.ob_known (fun _ => rfl) rfl rfl (fun x w1 hF hU K hK => ?_)
      refine wp_load_mid 54 _ rfl xb 0 rfl [.int .i64 most, vx] _ (World.rangeAt_of_block (hF rfl).1 0 2) Try.underlying54 rfl Try.sizeRo ?_
      exact hK w1 (fun h _ _ => absurd h (by decide)) rfl
    refine And.intro ?_ ?_
    · refine Reg.ob_pure (fun _ => rfl) rfl rfl rfl rfl (fun x w1 hF => ?_)
      obtain ⟨h1, hA, h3, h4⟩ := hF
      have a1 := hA.c1
      have a2 := hA.c2
      have a3 := hA.c3
      clear h1 hA h3 h4
      go_simp
      with_reducible rfl
    refine And.intro ?_ ?_
    · refine Reg.ob_pure (fun _ => rfl) rfl rfl rfl rfl (fun x w1 hF => ?_)
      obtain ⟨h1, hA, h3, h4⟩ := hF
      have a1 := hA.c1
      have a2 := hA.c2
      have a3 := hA.c3
      clear h1 hA h3 h4
      go_simp
      with_reducible rfl
    refine And.intro ?_ ?_
    · refine Reg.ob_pure (fun _ => rfl) rfl rfl rfl rfl (fun x w1 hF => ?_)
      obtain ⟨h1, hA, h3, h4⟩ := hF
      have a1 := hA.c1
      have a2 := hA.c2
      have a3 := hA.c3
      clear h1 hA h3 h4
      go_simp
      with_reducible rfl
    refine And.intro ?_ ?_
    · refine Reg.ob_pure (fun _ => rfl) rfl rfl rfl rfl (fun x w1 hF => ?_)
      obtain ⟨h1, hA, h3, h4⟩ := hF
      have a1 := hA.c1
      have a2 := hA.c2
      have a3 := hA.c3
      clear h1 hA h3 h4
      go_simp
      with_reducible rfl
    refine And.intro ?_ ?_
    · refine Reg.ob_pure (fun _ => rfl) rfl rfl rfl rfl (fun x w1 hF => ?_)
      obtain ⟨h1, hA, h3, h4⟩ := hF
      have a1 := hA.c1
      have a2 := hA.c2
      have a3 := hA.c3
      clear h1 hA h3 h4
      go_simp
      with_reducible rfl
    refine And.intro ?_ ?_
    · refine Reg.ob_pure (fun _ => rfl) rfl rfl rfl rfl (fun x w1 hF => ?_)
      obtain ⟨h1, hA, h3, h4⟩ := hF
      have a1 := hA.c1
      have a2 := hA.c2
      have a3 := hA.c3
      clear h1 hA h3 h4
      go_simp
      with_reducible rfl
    refine And.intro ?_ ?_
    · refine Reg.ob_pure (fun _ => rfl) rfl rfl rfl rfl (fun x w1 hF => ?_)
      obtain ⟨h1, hA, h3, h4⟩ := hF
      have a1 := hA.c1
      have a2 := hA.c2
      have a3 := hA.c3
      clear h1 hA h3 h4
      go_simp
      with_reducible rfl
    refine And.intro ?_ ?_
    · refine Reg.ob_known (fun _ => rfl) rfl rfl (fun x w1 hF hU K hK => ?_)
      obtain ⟨h1, h2, h3, h4⟩ := hF rfl
      go_simp
      refine (HIS.out w1 id xa.m.ca h3 hca).mono ?_
      rintro e w5 ⟨rfl, ho⟩
      exact hK w5 (fun _ _ _ => ⟨h1.only ho (by simp), h2.go ho (by simp), hcd _ _ h3 ho, h4.trans ho (fun _ _ e => e)⟩) ho
    refine And.intro ?_ ?_
    · refine Reg.ob_pure (fun _ => rfl) rfl rfl rfl rfl (fun x w1 hF => ?_)
      obtain ⟨h1, hA, h3, h4⟩ := hF
      have a1 := hA.c1
      have a2 := hA.c2
      have a3 := hA.c3
      clear h1 hA h3 h4
      go_simp
      with_reducible rfl
    refine And.intro ?_ ?_
    · refine Reg.ob_pure (fun _ => rfl) rfl rfl rfl rfl (fun x w1 hF => ?_)
      obtain ⟨h1, hA, h3, h4⟩ := hF
      have a1 := hA.c1
      have a2 := hA.c2
      have a3 := hA.c3
      clear h1 hA h3 h4
      go_simp
      with_reducible rfl
    exact trivial
  case hF =>
    have ho := (Only.refl (fun _ => False) w0).drewN 1
    exact ⟨h4.only ho (by simp), hA.go ho (by simp), hcd _ _ hCd ho, hw0.trans ho (fun _ _ e => e)⟩
  case hini =>
    exact trivial
  case pres =>
    intro i hi j hj
    simp at hj
  case fin =>
    rintro x w9 hF hU
    repeat apply Exists.intro
    exact ⟨rfl, rfl, (hF rfl).1, (hF rfl).2.2.1, (hF rfl).2.2.2⟩

set_option maxRecDepth 100000 in
set_option maxHeartbeats 4000000 in
theorem rp16 (most id : Int) (vx : Value) (g o k L c b xb code s : Nat) (xa : A14) (Cd : World → Prop) (w : World) (hkI : (k : Int) < (L : Int)) (hs : s < 4294967296) (hco : xa.m.co < 4294967296) (hca : xa.m.ca < 4294967296) (hcd : ∀ x y, Cd x → Only (fun _ => False) x y → Cd y) (his : ∀ (w1 : World) (id : Int) (s : Nat), Cd w1 → s < 4294967296 → Calls Try.prog 26 #[ptr b, rrV most vx, .int .i64 id, .int .u32 (s : Int)] w1 (SaysR (.bool true) w1))  (u0 u4 u5 u6 u7 u8 u10 u12 u16 u17 u18 u19 u20 u21 u22 u23 u24 u25 u26 u27 u28 u29 u30 u31 u32 u33 u34 u35 u36 u37 u38 u39 u40 u41 u42 u43 u44 u45 u46 u47 u48 u49 u50 u51 u52 u53 u54 u55 u56 u57 u58 u59 u60 u61 u62 u63 u64 u65 u66 u67 u68 u69 u70 u71 u72 u73 u74 u75 u76 u77 u78 u79 u80 u81 u82 u83 u84 u85 u86 u87 u88 u89 u90 u91 u92 u93 u94 u95 u96 u97 u98 u99 u100 u101 u102 u103 u104 u105 u106 u107 u108 u109 u110 u111 u112 u113 u114 u115 u116 u117 u118 u119 u120 u121 u122 u123 u124 u125 u126 u127 u128 u129 u130 u131 u132 u133 u134 : Value) (Q : Exit → Act → World → Prop) (w0 : World) (hw0 : Only (fun _ => False) w w0) (h4 : Is w0 xb 54 #[.int .i64 most, vx]) (hA : Ga g (o + k * 5) xa w0) (hCd : Cd w0)
    (hend : ∀ (y92 y93 y94 y95 y96 y97 y98 y99 y100 y101 y102 y103 y104 y105 y106 y107 y108 y109 y110 y111 y112 y113 y114 y115 y116 y117 y118 y119 y120 y121 y122 y123 y124 y125 y126 y127 y128 y129 y130 y131 y132 : Value) (w' : World), (Is w' xb 54 #[.int .i64 most, vx] ∧ Cd w' ∧ Only (fun _ => False) w w') → Q .normal ⟨(List.toArray (u0 :: .slice (some ⟨g, o, none⟩) L c :: .int .i64 id :: .int .u32 (s : Int) :: u4 :: u5 :: u6 :: u7 :: u8 :: .pointer (some ⟨b, 0, none⟩) :: u10 :: .pointer (some ⟨xb, 0, none⟩) :: u12 :: .int .i64 (k : Int) :: .int .i64 (code : Int) :: .int .i64 (code : Int) :: u16 :: u17 :: u18 :: u19 :: u20 :: u21 :: u22 :: u23 :: u24 :: u25 :: u26 :: u27 :: u28 :: u29 :: u30 :: u31 :: u32 :: u33 :: u34 :: u35 :: u36 :: u37 :: u38 :: u39 :: u40 :: u41 :: u42 :: u43 :: u44 :: u45 :: u46 :: u47 :: u48 :: u49 :: u50 :: u51 :: u52 :: u53 :: u54 :: u55 :: u56 :: u57 :: u58 :: u59 :: u60 :: u61 :: u62 :: u63 :: u64 :: u65 :: u66 :: u67 :: u68 :: u69 :: u70 :: u71 :: u72 :: u73 :: u74 :: u75 :: u76 :: u77 :: u78 :: u79 :: u80 :: u81 :: u82 :: u83 :: u84 :: u85 :: u86 :: u87 :: u88 :: u89 :: u90 :: u91 :: y92 :: y93 :: y94 :: y95 :: y96 :: y97 :: y98 :: y99 :: y100 :: y101 :: y102 :: y103 :: y104 :: y105 :: y106 :: y107 :: y108 :: y109 :: y110 :: y111 :: y112 :: y113 :: y114 :: y115 :: y116 :: y117 :: y118 :: y119 :: y120 :: y121 :: y122 :: y123 :: y124 :: y125 :: y126 :: y127 :: y128 :: y129 :: y130 :: y131 :: y132 :: .bool false :: u134 :: [])), []⟩ w') :
    Code.wp Try.prog rp16_code Q ⟨(List.toArray (u0 :: .slice (some ⟨g, o, none⟩) L c :: .int .i64 id :: .int .u32 (s : Int) :: u4 :: u5 :: u6 :: u7 :: u8 :: .pointer (some ⟨b, 0, none⟩) :: u10 :: .pointer (some ⟨xb, 0, none⟩) :: u12 :: .int .i64 (k : Int) :: .int .i64 (code : Int) :: .int .i64 (code : Int) :: u16 :: u17 :: u18 :: u19 :: u20 :: u21 :: u22 :: u23 :: u24 :: u25 :: u26 :: u27 :: u28 :: u29 :: u30 :: u31 :: u32 :: u33 :: u34 :: u35 :: u36 :: u37 :: u38 :: u39 :: u40 :: u41 :: u42 :: u43 :: u44 :: u45 :: u46 :: u47 :: u48 :: u49 :: u50 :: u51 :: u52 :: u53 :: u54 :: u55 :: u56 :: u57 :: u58 :: u59 :: u60 :: u61 :: u62 :: u63 :: u64 :: u65 :: u66 :: u67 :: u68 :: u69 :: u70 :: u71 :: u72 :: u73 :: u74 :: u75 :: u76 :: u77 :: u78 :: u79 :: u80 :: u81 :: u82 :: u83 :: u84 :: u85 :: u86 :: u87 :: u88 :: u89 :: u90 :: u91 :: u92 :: u93 :: u94 :: u95 :: u96 :: u97 :: u98 :: u99 :: u100 :: u101 :: u102 :: u103 :: u104 :: u105 :: u106 :: u107 :: u108 :: u109 :: u110 :: u111 :: u112 :: u113 :: u114 :: u115 :: u116 :: u117 :: u118 :: u119 :: u120 :: u121 :: u122 :: u123 :: u124 :: u125 :: u126 :: u127 :: u128 :: u129 :: u130 :: u131 :: u132 :: u133 :: u134 :: [])), []⟩ w0 := by
  refine wp_mono (rp16_in most id vx g o k L c b xb code s xa Cd w hkI hs hco hca hcd his _ _ _ _ _ _ _ _ _ _ _ _ _ _ _ _ _ _ _ _ _ _ _ _ _ _ _ _ _ _ _ _ _ _ _ _ _ _ _ _ _ _ _ _ _ _ _ _ _ _ _ _ _ _ _ _ _ _ _ _ _ _ _ _ _ _ _ _ _ _ _ _ _ _ _ _ _ _ _ _ _ _ _ _ _ _ _ _ _ _ _ _ _ _ _ _ _ _ _ _ _ _ _ _ _ _ _ _ _ _ _ _ _ _ _ _ _ _ _ _ _ _ _ _ _ _ _ w0 hw0 h4 hA hCd) ?_
  rintro e a w' h
  obtain ⟨y92, h⟩ := h
  obtain ⟨y93, h⟩ := h
  obtain ⟨y94, h⟩ := h
  obtain ⟨y95, h⟩ := h
  obtain ⟨y96, h⟩ := h
  obtain ⟨y97, h⟩ := h
  obtain ⟨y98, h⟩ := h
  obtain ⟨y99, h⟩ := h
  obtain ⟨y100, h⟩ := h
  obtain ⟨y101, h⟩ := h
  obtain ⟨y102, h⟩ := h
  obtain ⟨y103, h⟩ := h
  obtain ⟨y104, h⟩ := h
  obtain ⟨y105, h⟩ := h
  obtain ⟨y106, h⟩ := h
  obtain ⟨y107, h⟩ := h
  obtain ⟨y108, h⟩ := h
  obtain ⟨y109, h⟩ := h
  obtain ⟨y110, h⟩ := h
  obtain ⟨y111, h⟩ := h
  obtain ⟨y112, h⟩ := h
  obtain ⟨y113, h⟩ := h
  obtain ⟨y114, h⟩ := h
  obtain ⟨y115, h⟩ := h
  obtain ⟨y116, h⟩ := h
  obtain ⟨y117, h⟩ := h
  obtain ⟨y118, h⟩ := h
  obtain ⟨y119, h⟩ := h
  obtain ⟨y120, h⟩ := h
  obtain ⟨y121, h⟩ := h
  obtain ⟨y122, h⟩ := h
  obtain ⟨y123, h⟩ := h
  obtain ⟨y124, h⟩ := h
  obtain ⟨y125, h⟩ := h
  obtain ⟨y126, h⟩ := h
  obtain ⟨y127, h⟩ := h
  obtain ⟨y128, h⟩ := h
  obtain ⟨y129, h⟩ := h
  obtain ⟨y130, h⟩ := h
  obtain ⟨y131, h⟩ := h
  obtain ⟨y132, h⟩ := h
  obtain ⟨h, rfl, hq⟩ := h
  subst h
  exact hend y92 y93 y94 y95 y96 y97 y98 y99 y100 y101 y102 y103 y104 y105 y106 y107 y108 y109 y110 y111 y112 y113 y114 y115 y116 y117 y118 y119 y120 y121 y122 y123 y124 y125 y126 y127 y128 y129 y130 y131 y132 w' hq
end Go.Proofs.Ytglgmhdajmncjaa
