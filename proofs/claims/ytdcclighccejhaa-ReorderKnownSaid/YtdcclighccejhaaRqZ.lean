/- ReorderPlays' walk. Conditions: as each says. -/
import Derived.Test.YtdcclighccejhaaRqY
set_option linter.unusedVariables false
set_option linter.unusedSimpArgs false
namespace Go.Proofs.Ytdcclighccejhaa
open Go Go.RowKit

def rp10_A : List (List Nat) := ([] :: [] :: [] :: [] :: [2, 3] :: [4, 2, 3] :: [0, 1, 5, 4, 2, 3] :: [6, 0, 1, 5, 4, 2, 3] :: (7 :: 6 :: 0 :: 1 :: 5 :: 4 :: 2 :: 3 :: []) :: (7 :: 6 :: 0 :: 1 :: 5 :: 4 :: 2 :: 3 :: []) :: [] :: (10 :: 8 :: 6 :: 0 :: 1 :: 2 :: 3 :: 4 :: 5 :: 7 :: []) :: (9 :: 11 :: 0 :: 1 :: 2 :: 3 :: 4 :: 5 :: 6 :: 7 :: 8 :: 10 :: []) :: [])
def rp10_kill : List (List Nat) := ([] :: [] :: [] :: [] :: [] :: [] :: [13] :: [] :: [] :: [] :: [] :: [10, 13] :: [] :: [])
def rp10_uses : List (List Nat) := ([] :: [13] :: [] :: [] :: [] :: [] :: [13] :: [6] :: [6, 7] :: [6, 7] :: [] :: [6, 8, 10] :: [] :: [])
noncomputable def rp10_code : Code := ((Try.f3.body.bind (codeRegion 10)).getD .skip)
set_option maxRecDepth 100000 in
set_option maxHeartbeats 4000000 in
theorem rp10_in (b r9 B0 ga oa L ca k : Nat) (acs : List Value) (cs : Array Value) (Pre : World → Prop) (Post : Array Value → World → Prop) (w : World) (hkL : k < L) (hL : L ≤ 60) (hr9 : r9 < w.heap.size) (hBw : B0 ≤ w.heap.size) (hcz : cs.size = zeroRb.size) (hsz : (Try.prog.info? 32).map (·.size) = some cs.size) (hsa : (Try.prog.info? 44).map (·.size) = some acs.length) (hacs : ∀ x y, x.rangeAt ga (oa + k * 14) acs → Only (fun k => B0 ≤ k) x y → y.rangeAt ga (oa + k * 14) acs) (hdo : ∀ w1, Pre w1 → Calls Try.prog 11 #[ptr b, .agg cs, .agg acs.toArray] w1 (fun e w2 => ∃ cs2, e = .returned (.tuple #[.agg cs2, .bool true]) ∧ cs2.size = cs.size ∧ cs2.all (·.oneCell') = true ∧ Post cs2 w2 ∧ Only (fun k => B0 ≤ k) w1 w2 ∧ (∀ g ds, Is w1 g 32 ds → Is w2 g 32 ds))) (p1 : ∀ x y, Pre x → Only (fun _ => False) x y → Pre y) (p3 : ∀ c x y, Post c x → Only (fun _ => False) x y → Post c y) (p4 : ∀ c x y g ds, Post c x → Is x g 32 ds → Only (fun k => k = g) x y → Post c y) (u0 u1 u3 u4 u5 u6 u8 u10 u12 u13 u14 u15 u16 u17 u18 u19 u20 u21 u22 u23 u24 u25 u26 u27 u28 u29 u30 u31 u32 u33 u34 u35 u36 u37 u38 u39 u40 u41 u42 u43 u44 u45 u46 u47 u48 u49 u50 u51 u52 u53 u54 u55 u56 u57 u58 u59 u60 u61 u62 u63 : Value) (w0 : World) (hw0 : Only (fun _ => False) w w0) (h9 : Is w0 r9 32 cs) (hpre : Pre w0) (hra : w0.rangeAt ga (oa + k * 14) acs) :
    Code.wp Try.prog rp10_code (fun e a w' => ∃ y12 y50 y51 y52 y53 y54 y55 y56 y57 y58 y59 : Value, a = ⟨(List.toArray (u0 :: u1 :: .slice (some ⟨ga, oa, none⟩) L ca :: u3 :: u4 :: u5 :: u6 :: .pointer (some ⟨b, 0, none⟩) :: u8 :: .pointer (some ⟨r9, 0, none⟩) :: u10 :: .int .i64 (k : Int) :: y12 :: (.bool true) :: u14 :: u15 :: u16 :: u17 :: u18 :: u19 :: u20 :: u21 :: u22 :: u23 :: u24 :: u25 :: u26 :: u27 :: u28 :: u29 :: u30 :: u31 :: u32 :: u33 :: u34 :: u35 :: u36 :: u37 :: u38 :: u39 :: u40 :: u41 :: u42 :: u43 :: u44 :: u45 :: u46 :: u47 :: u48 :: u49 :: y50 :: y51 :: y52 :: y53 :: y54 :: y55 :: y56 :: y57 :: y58 :: y59 :: u60 :: u61 :: u62 :: u63 :: [])), []⟩ ∧ e = .normal ∧ (∃ g cs2, y12 = ptr g ∧ g ≠ r9 ∧ Is w' g 32 cs2 ∧ Post cs2 w' ∧ Is w' r9 32 cs ∧ cs2.size = cs.size ∧ cs2.all (·.oneCell') = true ∧ Only (fun k => B0 ≤ k) w w')) ⟨(List.toArray (u0 :: u1 :: .slice (some ⟨ga, oa, none⟩) L ca :: u3 :: u4 :: u5 :: u6 :: .pointer (some ⟨b, 0, none⟩) :: u8 :: .pointer (some ⟨r9, 0, none⟩) :: u10 :: .int .i64 (k : Int) :: u12 :: u13 :: u14 :: u15 :: u16 :: u17 :: u18 :: u19 :: u20 :: u21 :: u22 :: u23 :: u24 :: u25 :: u26 :: u27 :: u28 :: u29 :: u30 :: u31 :: u32 :: u33 :: u34 :: u35 :: u36 :: u37 :: u38 :: u39 :: u40 :: u41 :: u42 :: u43 :: u44 :: u45 :: u46 :: u47 :: u48 :: u49 :: u50 :: u51 :: u52 :: u53 :: u54 :: u55 :: u56 :: u57 :: u58 :: u59 :: u60 :: u61 :: u62 :: u63 :: [])), []⟩ w0 := by
  conv => arg 2; whnf
  have HDO := Lib.hid hdo
  clear hdo
  have hkI : (k : Int) < (L : Int) := by omega
  refine wp_region_posts rp10_A [6, 10, 11] [6, 7, 8, 10, 11, 13, 14] rp10_kill rp10_uses [6, 11, 14] [] [] [13, 14]
      (some ?v0 :: some ((.agg cs)) :: some ?v2 :: some ?v3 :: some ?v4 :: some ((.agg acs.toArray)) :: none :: none :: none :: some (.bool true) :: none :: none :: some ?v12 :: [])
      ?T (fun wx => wx.rangeAt ga (oa + k * 14) acs ∧ Only (fun k => B0 ≤ k) w wx) ?W ?E (by kernel_rfl) (by kernel_rfl) (by kernel_rfl) (fun x => ?hT) ?hF ?hini (Reg.all_ops ?runs) ?pres ?fin
  case W => exact fun j x wz => match j with | 6 => ∃ cs2, x 6 = .tuple #[.agg cs2, .bool true] ∧ cs2.size = cs.size ∧ cs2.all (·.oneCell') = true ∧ Post cs2 wz | 7 => x 7 = x 6 | 8 => ∃ cs2, x 6 = .tuple #[.agg cs2, .bool true] ∧ x 8 = .agg cs2 | 10 => ∃ g, x 10 = ptr g ∧ g ≠ r9 ∧ B0 ≤ g ∧ Is wz g 32 zeroRb | 11 => ∃ g cs2, x 10 = ptr g ∧ g ≠ r9 ∧ x 6 = .tuple #[.agg cs2, .bool true] ∧ Is wz g 32 cs2 | 13 => Pre wz ∧ Is wz r9 32 cs | 14 => ∃ ds, Is wz r9 32 ds ∧ ds = cs | _ => True
  case E => exact fun i wx wy => match i with | 6 => (∀ g ds, Is wx g 32 ds → Is wy g 32 ds) ∧ Only (fun k => B0 ≤ k) wx wy | 10 => Only (fun _ => False) wx wy | 11 => (∃ ds, Is wx (w.heap.size) 32 ds ∨ True) ∧ (∃ g ds, Is wx g 32 ds ∧ g ≠ r9 ∧ B0 ≤ g ∧ Only (fun k => k = g) wx wy) | _ => True
  case hT =>
    simp only [Reg.fillV, Act.put, List.setIfInBounds_toArray, List.set_cons_zero, List.set_cons_succ]
    rfl
  case runs =>
    refine And.intro ?_ ?_
    · refine Reg.ob_pure (fun _ => rfl) rfl rfl rfl rfl (fun x w1 hF => ?_)
      obtain ⟨hra, hO⟩ := hF
      go_simp
      with_reducible rfl
    refine And.intro ?_ ?_
    · refine Reg.ob_known (fun _ => rfl) rfl rfl (fun x w1 hF hU K hK => ?_)
      obtain ⟨⟨-, h9⟩, -⟩ := hU
      refine wp_load_row 32 _ rfl r9 rfl _ cs (0, 0) _ h9 Try.underlying32 rfl hsz ?_
      exact hK w1 (fun h _ _ => absurd h (by decide)) rfl
    refine And.intro ?_ ?_
    · refine Reg.ob_pure (fun _ => rfl) rfl rfl rfl rfl (fun x w1 hF => ?_)
      obtain ⟨hra, hO⟩ := hF
      go_simp
      with_reducible rfl
    refine And.intro ?_ ?_
    · refine Reg.ob_pure (fun _ => rfl) rfl rfl rfl rfl (fun x w1 hF => ?_)
      obtain ⟨hra, hO⟩ := hF
      go_simp
      with_reducible rfl
    refine And.intro ?_ ?_
    · refine Reg.ob_pure (fun _ => rfl) rfl rfl rfl rfl (fun x w1 hF => ?_)
      obtain ⟨hra, hO⟩ := hF
      go_simp
      with_reducible rfl
    refine And.intro ?_ ?_
    · refine Reg.ob_known (fun _ => rfl) rfl rfl (fun x w1 hF hU K hK => ?_)
      refine wp_load_mid 44 _ rfl ga (oa + k * 14) rfl acs _ (hF rfl).1 Try.underlying44 rfl hsa ?_
      exact hK w1 (fun h _ _ => absurd h (by decide)) rfl
    refine And.intro ?_ ?_
    · refine Reg.ob_some (fun _ => rfl) rfl (fun x w1 hF hU K hK => ?_)
      obtain ⟨hra, hO⟩ := hF rfl
      obtain ⟨⟨hp, h9⟩, -⟩ := hU
      go_simp
      refine (HDO.out w1 hp).mono ?_
      rintro e w5 ⟨cs2, rfl, hz, h1, hpo, ho, hkp⟩
      exact hK _ w5 (fun _ _ _ => ⟨hacs w1 w5 hra ho, hO.trans ho (fun _ _ e => e)⟩) ⟨hkp, ho⟩ ⟨cs2, rfl, hz, h1, hpo⟩
    refine And.intro ?_ ?_
    · refine Reg.ob_some (fun _ => rfl) rfl (fun x w1 hF hU K hK => ?_)
      go_simp
      exact hK _ _ (fun h => by cases h) rfl rfl
    refine And.intro ?_ ?_
    · refine Reg.ob_some (fun _ => rfl) rfl (fun x w1 hF hU K hK => ?_)
      obtain ⟨⟨cs2, h6, hz, h1, hpo⟩, h7, -⟩ := hU
      have h7 : x 7 = x 6 := h7
      have h6 : x 6 = .tuple #[.agg cs2, .bool true] := h6
      revert hK
      simp only [Nat.reduceAdd, h7, h6]
      intro hK
      go_simp
      exact hK _ _ (fun h => by cases h) rfl ⟨cs2, h6, rfl⟩
    refine And.intro ?_ ?_
    · refine Reg.ob_told (fun _ => rfl) rfl (fun x w1 hF hU K hK => ?_)
      obtain ⟨⟨cs2, h6, hz, h1, hpo⟩, h7, -⟩ := hU
      have h7 : x 7 = x 6 := h7
      have h6 : x 6 = .tuple #[.agg cs2, .bool true] := h6
      revert hK
      simp only [Nat.reduceAdd, h7, h6]
      intro hK
      go_simp
      exact hK _ (fun h => by cases h) rfl trivial
    refine And.intro ?_ ?_
    · refine Reg.ob_some (fun _ => rfl) rfl (fun x w1 hF hU K hK => ?_)
      obtain ⟨hra, hO⟩ := hF rfl
      go_simp
      have ho : Only (fun _ => False) w1 (w1.alloc (.cells zeroRb 32)) := (Only.refl _ _).alloc _
      exact hK _ _ (fun _ _ _ => ⟨range_pure hra ho, hO.trans ho (fun _ _ e => e.elim)⟩) ho ⟨_, rfl, by have := hr9; have := hO.size; omega, Nat.le_trans hBw hO.size, Is.made _ _ _⟩
    refine And.intro ?_ ?_
    · refine Reg.ob_some (fun _ => rfl) rfl (fun x w1 hF hU K hK => ?_)
      obtain ⟨hra, hO⟩ := hF rfl
      obtain ⟨⟨cs2, h6, hz, h1, hpo⟩, ⟨cs3, h6', h8⟩, ⟨g, h10, hg9, hgB, hg⟩, -⟩ := hU
      have h6 : x 6 = .tuple #[.agg cs2, .bool true] := h6
      have h6' : x 6 = .tuple #[.agg cs3, .bool true] := h6'
      obtain rfl : cs2 = cs3 := by rw [h6] at h6'; simpa using h6'
      have h8 : x 8 = .agg cs2 := h8
      have h10 : x 10 = ptr g := h10
      refine wp_store_row 32 _ _ rfl g cs2 (by simpa [Act.eval] using h10) (by simpa [Act.eval] using h8) 32 zeroRb hg (by rw [hz]; exact hsz) (by rw [hz]; exact hcz.symm) h1 ?_
      have ho : Only (fun k => k = g) w1 (w1.setRow g cs2) := Only.setRow (S := fun k => k = g) (Only.refl _ w1) (fun _ => rfl) _
      exact hK undef _ (fun _ _ _ => ⟨hacs w1 _ hra (ho.mono (fun i _ e => by omega)), hO.trans ho (fun i hi e => by omega)⟩) ⟨⟨zeroRb, .inr trivial⟩, g, zeroRb, hg, hg9, hgB, ho⟩ ⟨g, cs2, h10, hg9, h6, hg.setRow _⟩
    refine And.intro ?_ ?_
    · refine Reg.ob_pure (fun _ => rfl) rfl rfl rfl rfl (fun x w1 hF => ?_)
      obtain ⟨hra, hO⟩ := hF
      go_simp
      with_reducible rfl
    exact trivial
  case hF =>
    exact ⟨range_pure hra (onlyN w0 1), (hw0.drewN 1).mono (fun _ _ e => e.elim)⟩
  case hini =>
    exact ⟨fun x => ⟨p1 _ _ hpre (onlyN w0 1), h9.only (onlyN w0 1) (by simp)⟩, fun x => ⟨cs, h9.only (onlyN w0 1) (by simp), rfl⟩, trivial⟩
  case pres =>
    intro i hi j hj hc x wx wy hF hE hW
    simp only [List.mem_cons, List.mem_nil_iff, or_false] at hi hj
    rcases hi with rfl | rfl | rfl <;> rcases hj with rfl | rfl | rfl | rfl | rfl | rfl | rfl
    all_goals first | (exfalso; revert hc; decide) | skip
    all_goals first
      | exact hW
      | (obtain ⟨c, h1, h2, h3, h4⟩ := hW; exact ⟨c, h1, h2, h3, p3 _ _ _ h4 hE⟩)
      | (obtain ⟨c, h1, h2, h3, h4⟩ := hW; obtain ⟨-, g, ds, e1, e2, e3, e4⟩ := hE; exact ⟨c, h1, h2, h3, p4 _ _ _ g ds h4 e1 e4⟩)
      | (obtain ⟨g, h1, h2, h3, h4⟩ := hW; exact ⟨g, h1, h2, h3, hE.1 _ _ h4⟩)
      | (obtain ⟨ds, h1, h2⟩ := hW; exact ⟨ds, hE.1 _ _ h1, h2⟩)
      | (obtain ⟨g, c, h1, h2, h3, h4⟩ := hW; exact ⟨g, c, h1, h2, h3, hE.1 _ _ h4⟩)
      | (obtain ⟨ds, h1, h2⟩ := hW; exact ⟨ds, h1.only hE (by simp), h2⟩)
      | (obtain ⟨ds, h1, h2⟩ := hW; obtain ⟨-, g, ds', e1, e2, e3, e4⟩ := hE; exact ⟨ds, h1.only e4 (fun e => e2 e.symm), h2⟩)
      | (obtain ⟨h1, h2⟩ := hW; exact ⟨p1 _ _ h1 hE, h2.only hE (by simp)⟩)
      | (obtain ⟨g, c, h1, h2, h3, h4⟩ := hW; exact ⟨g, c, h1, h2, h3, h4.only hE (by simp)⟩)
  case fin =>
    rintro x w9 hF hU
    obtain ⟨⟨cs2, h6, hz, h1, hpo⟩, ⟨g, cs3, h10, hg9, h6', hg⟩, ⟨ds, h9v, hds⟩, -⟩ := hU
    have h6 : x 6 = .tuple #[.agg cs2, .bool true] := h6
    have h6' : x 6 = .tuple #[.agg cs3, .bool true] := h6'
    obtain rfl : cs2 = cs3 := by rw [h6] at h6'; simpa using h6'
    rw [hds] at h9v
    repeat apply Exists.intro
    exact ⟨rfl, rfl, g, cs2, h10, hg9, hg, hpo, h9v, hz, h1, (hF rfl).2⟩

set_option maxRecDepth 100000 in
set_option maxHeartbeats 4000000 in
theorem rp10 (b r9 B0 ga oa L ca k : Nat) (acs : List Value) (cs : Array Value) (Pre : World → Prop) (Post : Array Value → World → Prop) (w : World) (hkL : k < L) (hL : L ≤ 60) (hr9 : r9 < w.heap.size) (hBw : B0 ≤ w.heap.size) (hcz : cs.size = zeroRb.size) (hsz : (Try.prog.info? 32).map (·.size) = some cs.size) (hsa : (Try.prog.info? 44).map (·.size) = some acs.length) (hacs : ∀ x y, x.rangeAt ga (oa + k * 14) acs → Only (fun k => B0 ≤ k) x y → y.rangeAt ga (oa + k * 14) acs) (hdo : ∀ w1, Pre w1 → Calls Try.prog 11 #[ptr b, .agg cs, .agg acs.toArray] w1 (fun e w2 => ∃ cs2, e = .returned (.tuple #[.agg cs2, .bool true]) ∧ cs2.size = cs.size ∧ cs2.all (·.oneCell') = true ∧ Post cs2 w2 ∧ Only (fun k => B0 ≤ k) w1 w2 ∧ (∀ g ds, Is w1 g 32 ds → Is w2 g 32 ds))) (p1 : ∀ x y, Pre x → Only (fun _ => False) x y → Pre y) (p3 : ∀ c x y, Post c x → Only (fun _ => False) x y → Post c y) (p4 : ∀ c x y g ds, Post c x → Is x g 32 ds → Only (fun k => k = g) x y → Post c y) (u0 u1 u3 u4 u5 u6 u8 u10 u12 u13 u14 u15 u16 u17 u18 u19 u20 u21 u22 u23 u24 u25 u26 u27 u28 u29 u30 u31 u32 u33 u34 u35 u36 u37 u38 u39 u40 u41 u42 u43 u44 u45 u46 u47 u48 u49 u50 u51 u52 u53 u54 u55 u56 u57 u58 u59 u60 u61 u62 u63 : Value) (Q : Exit → Act → World → Prop) (w0 : World) (hw0 : Only (fun _ => False) w w0) (h9 : Is w0 r9 32 cs) (hpre : Pre w0) (hra : w0.rangeAt ga (oa + k * 14) acs)
    (hend : ∀ (y12 y50 y51 y52 y53 y54 y55 y56 y57 y58 y59 : Value) (w' : World), (∃ g cs2, y12 = ptr g ∧ g ≠ r9 ∧ Is w' g 32 cs2 ∧ Post cs2 w' ∧ Is w' r9 32 cs ∧ cs2.size = cs.size ∧ cs2.all (·.oneCell') = true ∧ Only (fun k => B0 ≤ k) w w') → Q .normal ⟨(List.toArray (u0 :: u1 :: .slice (some ⟨ga, oa, none⟩) L ca :: u3 :: u4 :: u5 :: u6 :: .pointer (some ⟨b, 0, none⟩) :: u8 :: .pointer (some ⟨r9, 0, none⟩) :: u10 :: .int .i64 (k : Int) :: y12 :: (.bool true) :: u14 :: u15 :: u16 :: u17 :: u18 :: u19 :: u20 :: u21 :: u22 :: u23 :: u24 :: u25 :: u26 :: u27 :: u28 :: u29 :: u30 :: u31 :: u32 :: u33 :: u34 :: u35 :: u36 :: u37 :: u38 :: u39 :: u40 :: u41 :: u42 :: u43 :: u44 :: u45 :: u46 :: u47 :: u48 :: u49 :: y50 :: y51 :: y52 :: y53 :: y54 :: y55 :: y56 :: y57 :: y58 :: y59 :: u60 :: u61 :: u62 :: u63 :: [])), []⟩ w') :
    Code.wp Try.prog rp10_code Q ⟨(List.toArray (u0 :: u1 :: .slice (some ⟨ga, oa, none⟩) L ca :: u3 :: u4 :: u5 :: u6 :: .pointer (some ⟨b, 0, none⟩) :: u8 :: .pointer (some ⟨r9, 0, none⟩) :: u10 :: .int .i64 (k : Int) :: u12 :: u13 :: u14 :: u15 :: u16 :: u17 :: u18 :: u19 :: u20 :: u21 :: u22 :: u23 :: u24 :: u25 :: u26 :: u27 :: u28 :: u29 :: u30 :: u31 :: u32 :: u33 :: u34 :: u35 :: u36 :: u37 :: u38 :: u39 :: u40 :: u41 :: u42 :: u43 :: u44 :: u45 :: u46 :: u47 :: u48 :: u49 :: u50 :: u51 :: u52 :: u53 :: u54 :: u55 :: u56 :: u57 :: u58 :: u59 :: u60 :: u61 :: u62 :: u63 :: [])), []⟩ w0 := by
  refine wp_mono (rp10_in b r9 B0 ga oa L ca k acs cs Pre Post w hkL hL hr9 hBw hcz hsz hsa hacs hdo p1 p3 p4 _ _ _ _ _ _ _ _ _ _ _ _ _ _ _ _ _ _ _ _ _ _ _ _ _ _ _ _ _ _ _ _ _ _ _ _ _ _ _ _ _ _ _ _ _ _ _ _ _ _ _ _ _ _ _ _ _ _ _ _ w0 hw0 h9 hpre hra) ?_
  rintro e a w' h
  obtain ⟨y12, h⟩ := h
  obtain ⟨y50, h⟩ := h
  obtain ⟨y51, h⟩ := h
  obtain ⟨y52, h⟩ := h
  obtain ⟨y53, h⟩ := h
  obtain ⟨y54, h⟩ := h
  obtain ⟨y55, h⟩ := h
  obtain ⟨y56, h⟩ := h
  obtain ⟨y57, h⟩ := h
  obtain ⟨y58, h⟩ := h
  obtain ⟨y59, h⟩ := h
  obtain ⟨h, rfl, hq⟩ := h
  subst h
  exact hend y12 y50 y51 y52 y53 y54 y55 y56 y57 y58 y59 w' hq
end Go.Proofs.Ytdcclighccejhaa
