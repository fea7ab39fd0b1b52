/- Merged of RqT RqU Pick RqV. Conditions: as each says. -/
import Derived.Test.YtdcclighccejhaaRsGr
import Derived.Test.YtdcclighccejhaaRoU
import Derived.Test.YtdcclighccejhaaBase
/- reorder's law: does: its last region. Conditions: as each says. -/
set_option linter.unusedVariables false
set_option linter.unusedSimpArgs false
namespace Go.Proofs.Ytdcclighccejhaa
open Go Go.RowKit

def rd15_A : List (List Nat) := ([] :: [] :: [] :: [1, 2] :: [3, 1, 2] :: [4, 3, 1, 2] :: [4, 3, 1, 2] :: [5, 6, 4, 3, 1, 2] :: [4, 7, 3, 1, 2, 5, 6] :: (8 :: 7 :: 4 :: 3 :: 1 :: 2 :: 5 :: 6 :: []) :: (9 :: 8 :: 7 :: 4 :: 3 :: 1 :: 2 :: 5 :: 6 :: []) :: (9 :: 8 :: 7 :: 4 :: 3 :: 1 :: 2 :: 5 :: 6 :: []) :: (10 :: 11 :: 9 :: 8 :: 7 :: 4 :: 3 :: 1 :: 2 :: 5 :: 6 :: []) :: (9 :: 12 :: 8 :: 7 :: 4 :: 3 :: 1 :: 2 :: 5 :: 6 :: 10 :: 11 :: []) :: (0 :: 12 :: 10 :: 11 :: 9 :: 8 :: 7 :: 4 :: 3 :: 1 :: 2 :: 5 :: 6 :: []) :: (13 :: 14 :: 0 :: 1 :: 2 :: 3 :: 4 :: 5 :: 6 :: 7 :: 8 :: 9 :: 10 :: 11 :: 12 :: []) :: [])
def rd15_kill : List (List Nat) := ([] :: [] :: [] :: [] :: [] :: [] :: [] :: [16] :: [] :: [] :: [] :: [] :: [] :: [] :: [] :: [] :: [])
def rd15_uses : List (List Nat) := ([] :: [] :: [] :: [] :: [] :: [] :: [] :: [16] :: [] :: [] :: [] :: [] :: [7] :: [] :: [] :: [] :: [])
noncomputable def rd15_code : Code := ((Try.f11.body.bind (codeRegion 15)).getD .skip)
set_option maxRecDepth 100000 in
set_option maxHeartbeats 4000000 in
theorem rd15_in (b r4 r6 B0 : Nat) (ok : Bool) (vo mo : Value) (cs : Array Value) (Pre Post : World → Prop) (hne : r4 ≠ r6) (hB6 : B0 ≤ r6) (hsz : (Try.prog.info? 32).map (·.size) = some cs.size) (hone : cs.all (·.oneCell') = true) (hsame : ∀ w1, Pre w1 → Calls Try.prog 27 #[vo, mo] w1 (fun e w2 => e = .returned (.bool true) ∧ Post w2 ∧ (∀ g ds, Is w1 g 32 ds → Is w2 g 32 ds) ∧ Only (fun k => B0 ≤ k) w1 w2)) (hst : ∀ w1, Post w1 → Calls Try.prog 28 #[ptr b, .agg cs] w1 (SaysO (.bool true) w1)) (p1 : ∀ x y, Pre x → Only (fun _ => False) x y → Pre y) (p2 : ∀ x y, Pre x → (∃ ds, Is x r6 32 ds) → Only (fun k => k = r6) x y → Pre y) (p3 : ∀ x y, Post x → Only (fun _ => False) x y → Post y) (p4 : ∀ x y, Post x → (∃ ds, Is x r6 32 ds) → Only (fun k => k = r6) x y → Post y) (u1 u2 u3 u5 u7 u12 u13 u14 u15 u16 u17 u18 u19 u20 u21 u22 u23 u24 u25 u26 u27 u28 u29 u30 u31 u32 u33 u34 u35 u36 u37 u38 u39 u40 u41 u42 u43 u44 u45 u46 u47 u48 u49 u50 u51 u52 u53 u54 u55 u56 u57 u58 u59 u60 u61 u62 u63 u64 u65 u66 u67 u68 u69 u70 u71 u72 u73 u74 u75 u76 u77 u78 u79 : Value) (w : World) (ds : Array Value) (hds : ds.size = cs.size) (h4 : Is w r4 32 cs) (h6 : Is w r6 32 ds) (hpre : Pre w) :
    Code.wp Try.prog rd15_code (fun e a w' => ∃ y66 y67 y68 y69 y70 y71 y72 y73 y74 y75 y76 y77 y78 y79 : Value, a = ⟨(List.toArray (.pointer (some ⟨b, 0, none⟩) :: u1 :: u2 :: u3 :: .pointer (some ⟨r4, 0, none⟩) :: u5 :: .pointer (some ⟨r6, 0, none⟩) :: (.bool true) :: vo :: mo :: .bool ok :: .bool ok :: u12 :: u13 :: u14 :: u15 :: u16 :: u17 :: u18 :: u19 :: u20 :: u21 :: u22 :: u23 :: u24 :: u25 :: u26 :: u27 :: u28 :: u29 :: u30 :: u31 :: u32 :: u33 :: u34 :: u35 :: u36 :: u37 :: u38 :: u39 :: u40 :: u41 :: u42 :: u43 :: u44 :: u45 :: u46 :: u47 :: u48 :: u49 :: u50 :: u51 :: u52 :: u53 :: u54 :: u55 :: u56 :: u57 :: u58 :: u59 :: u60 :: u61 :: u62 :: u63 :: u64 :: u65 :: y66 :: y67 :: y68 :: y69 :: y70 :: y71 :: y72 :: y73 :: y74 :: y75 :: y76 :: y77 :: y78 :: y79 :: [])), []⟩ ∧ e = .normal ∧ (Post w' ∧ Is w' r6 32 cs ∧ Only (fun k => B0 ≤ k) w w' ∧ (∀ g es, Is w g 32 es → g ≠ r6 → Is w' g 32 es))) ⟨(List.toArray (.pointer (some ⟨b, 0, none⟩) :: u1 :: u2 :: u3 :: .pointer (some ⟨r4, 0, none⟩) :: u5 :: .pointer (some ⟨r6, 0, none⟩) :: u7 :: vo :: mo :: .bool ok :: .bool ok :: u12 :: u13 :: u14 :: u15 :: u16 :: u17 :: u18 :: u19 :: u20 :: u21 :: u22 :: u23 :: u24 :: u25 :: u26 :: u27 :: u28 :: u29 :: u30 :: u31 :: u32 :: u33 :: u34 :: u35 :: u36 :: u37 :: u38 :: u39 :: u40 :: u41 :: u42 :: u43 :: u44 :: u45 :: u46 :: u47 :: u48 :: u49 :: u50 :: u51 :: u52 :: u53 :: u54 :: u55 :: u56 :: u57 :: u58 :: u59 :: u60 :: u61 :: u62 :: u63 :: u64 :: u65 :: u66 :: u67 :: u68 :: u69 :: u70 :: u71 :: u72 :: u73 :: u74 :: u75 :: u76 :: u77 :: u78 :: u79 :: [])), []⟩ w := by
  conv => arg 2; whnf
  have HSAME := Lib.hid hsame
  have HST := Lib.hid hst
  clear hsame hst
  refine wp_region_posts rd15_A [7, 12, 14] [7, 14, 16] rd15_kill rd15_uses [7, 14] [] [] [16]
      (some ((.agg cs)) :: some ?v1 :: some ?v2 :: some (.bool true) :: some ?v4 :: some ?v5 :: some ?v6 :: some (.bool true) :: some ?v8 :: some ?v9 :: some ?v10 :: some ((.agg cs)) :: some (.bool true) :: some ?v13 :: none :: some ?v15 :: [])
      ?T (fun wx => Is wx r4 32 cs ∧ (∃ ds, ds.size = cs.size ∧ Is wx r6 32 ds) ∧ Only (fun k => B0 ≤ k) w wx ∧ (∀ g es, Is w g 32 es → g ≠ r6 → Is wx g 32 es)) ?W ?E (by kernel_rfl) (by kernel_rfl) (by kernel_rfl) (fun x => ?hT) ?hF ?hini (Reg.all_ops ?runs) ?pres ?fin
  case W => exact fun j x wz => match j with | 7 => Post wz | 14 => Is wz r6 32 cs | 16 => Pre wz | _ => True
  case E => exact fun i wx wy => match i with | 7 => (∀ g ds, Is wx g 32 ds → Is wy g 32 ds) ∧ Only (fun k => B0 ≤ k) wx wy | 12 => Only (fun _ => False) wx wy | 14 => (∃ ds, Is wx r6 32 ds) ∧ Only (fun k => k = r6) wx wy | _ => True
  case hT =>
    simp only [Reg.fillV, Act.put, List.setIfInBounds_toArray, List.set_cons_zero, List.set_cons_succ]
    rfl
  case runs =>
    refine And.intro ?_ ?_
    · refine Reg.ob_known (fun _ => rfl) rfl rfl (fun x w1 hF hU K hK => ?_)
      refine wp_load_row 32 _ rfl r4 rfl _ cs (0, 0) _ (hF rfl).1 Try.underlying32 rfl hsz ?_
      exact hK w1 (fun h _ _ => absurd h (by decide)) rfl
    refine And.intro ?_ ?_
    · refine Reg.ob_pure (fun _ => rfl) rfl rfl rfl rfl (fun x w1 hF => ?_)
      obtain ⟨h4, h6, hO, hkp⟩ := hF
      go_simp
      with_reducible rfl
    refine And.intro ?_ ?_
    · refine Reg.ob_pure (fun _ => rfl) rfl rfl rfl rfl (fun x w1 hF => ?_)
      obtain ⟨h4, h6, hO, hkp⟩ := hF
      go_simp
      with_reducible rfl
    refine And.intro ?_ ?_
    · refine Reg.ob_pure (fun _ => rfl) rfl rfl rfl rfl (fun x w1 hF => ?_)
      go_simp
    refine And.intro ?_ ?_
    · refine Reg.ob_pure (fun _ => rfl) rfl rfl rfl rfl (fun x w1 hF => ?_)
      obtain ⟨h4, h6, hO, hkp⟩ := hF
      go_simp
      with_reducible rfl
    refine And.intro ?_ ?_
    · refine Reg.ob_pure (fun _ => rfl) rfl rfl rfl rfl (fun x w1 hF => ?_)
      obtain ⟨h4, h6, hO, hkp⟩ := hF
      go_simp
      with_reducible rfl
    refine And.intro ?_ ?_
    · refine Reg.ob_pure (fun _ => rfl) rfl rfl rfl rfl (fun x w1 hF => ?_)
      obtain ⟨h4, h6, hO, hkp⟩ := hF
      go_simp
      with_reducible rfl
    refine And.intro ?_ ?_
    · refine Reg.ob_told (fun _ => rfl) rfl (fun x w1 hF hU K hK => ?_)
      obtain ⟨h4, ⟨ds, hds, h6⟩, hO, hkp⟩ := hF rfl
      obtain ⟨hp, -⟩ := hU
      go_simp
      refine (HSAME.out w1 hp).mono ?_
      rintro e w5 ⟨rfl, hpost, hkeep, ho⟩
      exact hK w5 (fun _ _ _ => ⟨hkeep _ _ h4, ⟨ds, hds, hkeep _ _ h6⟩, hO.trans ho (fun _ _ e => e), fun g es hg hn => hkeep _ _ (hkp g es hg hn)⟩) ⟨hkeep, ho⟩ hpost
    refine And.intro ?_ ?_
    · refine Reg.ob_pure (fun _ => rfl) rfl rfl rfl rfl (fun x w1 hF => ?_)
      obtain ⟨h4, h6, hO, hkp⟩ := hF
      go_simp
      with_reducible rfl
    refine And.intro ?_ ?_
    · refine Reg.ob_pure (fun _ => rfl) rfl rfl rfl rfl (fun x w1 hF => ?_)
      obtain ⟨h4, h6, hO, hkp⟩ := hF
      go_simp
      with_reducible rfl
    refine And.intro ?_ ?_
    · refine Reg.ob_pure (fun _ => rfl) rfl rfl rfl rfl (fun x w1 hF => ?_)
      obtain ⟨h4, h6, hO, hkp⟩ := hF
      go_simp
      with_reducible rfl
    refine And.intro ?_ ?_
    · refine Reg.ob_known (fun _ => rfl) rfl rfl (fun x w1 hF hU K hK => ?_)
      refine wp_load_row 32 _ rfl r4 rfl _ cs (0, 0) _ (hF rfl).1 Try.underlying32 rfl hsz ?_
      exact hK w1 (fun h _ _ => absurd h (by decide)) rfl
    refine And.intro ?_ ?_
    · refine Reg.ob_known (fun _ => rfl) rfl rfl (fun x w1 hF hU K hK => ?_)
      obtain ⟨h4, ⟨ds, hds, h6⟩, hO, hkp⟩ := hF rfl
      obtain ⟨hp, -⟩ := hU
      go_simp
      refine (HST.out w1 hp).mono ?_
      rintro e w5 ⟨rfl, ho⟩
      exact hK w5 (fun _ _ _ => ⟨h4.only ho (by simp), ⟨ds, hds, h6.only ho (by simp)⟩, hO.trans ho (fun _ _ e => e.elim), fun g es hg hn => (hkp g es hg hn).only ho (by simp)⟩) ho
    refine And.intro ?_ ?_
    · refine Reg.ob_pure (fun _ => rfl) rfl rfl rfl rfl (fun x w1 hF => ?_)
      obtain ⟨h4, h6, hO, hkp⟩ := hF
      go_simp
      with_reducible rfl
    refine And.intro ?_ ?_
    · refine Reg.ob_some (fun _ => rfl) rfl (fun x w1 hF hU K hK => ?_)
      obtain ⟨h4, ⟨ds, hds, h6⟩, hO, hkp⟩ := hF rfl
      refine wp_store_row 32 _ _ rfl r6 cs rfl rfl 32 ds h6 hsz (by rw [hds]) hone ?_
      have ho : Only (fun k => k = r6) w1 (w1.setRow r6 cs) := Only.setRow (S := fun k => k = r6) (Only.refl _ w1) (fun _ => rfl) _
      exact hK undef _ (fun _ _ _ => ⟨h4.only ho hne, ⟨cs, rfl, h6.setRow _⟩, hO.trans ho (fun i hi e => by omega), fun g es hg hn => (hkp g es hg hn).only ho hn⟩) ⟨⟨ds, h6⟩, ho⟩ (h6.setRow _)
    refine And.intro ?_ ?_
    · refine Reg.ob_pure (fun _ => rfl) rfl rfl rfl rfl (fun x w1 hF => ?_)
      obtain ⟨h4, h6, hO, hkp⟩ := hF
      go_simp
      with_reducible rfl
    exact trivial
  case hF =>
    exact ⟨h4.only (onlyN w 1) (by simp), ⟨ds, hds, h6.only (onlyN w 1) (by simp)⟩, (Only.refl _ w).drewN 1, fun g es hg _ => hg.only (onlyN w 1) (by simp)⟩
  case hini =>
    exact ⟨fun x => p1 _ _ hpre (onlyN w 1), trivial⟩
  case pres =>
    intro i hi j hj hc x wx wy hF hE hW
    simp only [List.mem_cons, List.mem_nil_iff, or_false] at hi hj
    rcases hi with rfl | rfl | rfl <;> rcases hj with rfl | rfl | rfl
    all_goals first | (exfalso; revert hc; decide) | skip
    all_goals first
      | exact hE.1 _ _ hW
      | exact p3 _ _ hW hE
      | exact p1 _ _ hW hE
      | exact Is.only hW hE (by simp)
      | exact p4 _ _ hW hE.1 hE.2
      | exact p2 _ _ hW hE.1 hE.2
  case fin =>
    rintro x w9 hF hU
    obtain ⟨h7, h14, -⟩ := hU
    repeat apply Exists.intro
    exact ⟨rfl, rfl, h7, h14, (hF rfl).2.2.1, (hF rfl).2.2.2⟩

set_option maxRecDepth 100000 in
set_option maxHeartbeats 4000000 in
theorem rd15 (b r4 r6 B0 : Nat) (ok : Bool) (vo mo : Value) (cs : Array Value) (Pre Post : World → Prop) (hne : r4 ≠ r6) (hB6 : B0 ≤ r6) (hsz : (Try.prog.info? 32).map (·.size) = some cs.size) (hone : cs.all (·.oneCell') = true) (hsame : ∀ w1, Pre w1 → Calls Try.prog 27 #[vo, mo] w1 (fun e w2 => e = .returned (.bool true) ∧ Post w2 ∧ (∀ g ds, Is w1 g 32 ds → Is w2 g 32 ds) ∧ Only (fun k => B0 ≤ k) w1 w2)) (hst : ∀ w1, Post w1 → Calls Try.prog 28 #[ptr b, .agg cs] w1 (SaysO (.bool true) w1)) (p1 : ∀ x y, Pre x → Only (fun _ => False) x y → Pre y) (p2 : ∀ x y, Pre x → (∃ ds, Is x r6 32 ds) → Only (fun k => k = r6) x y → Pre y) (p3 : ∀ x y, Post x → Only (fun _ => False) x y → Post y) (p4 : ∀ x y, Post x → (∃ ds, Is x r6 32 ds) → Only (fun k => k = r6) x y → Post y) (u1 u2 u3 u5 u7 u12 u13 u14 u15 u16 u17 u18 u19 u20 u21 u22 u23 u24 u25 u26 u27 u28 u29 u30 u31 u32 u33 u34 u35 u36 u37 u38 u39 u40 u41 u42 u43 u44 u45 u46 u47 u48 u49 u50 u51 u52 u53 u54 u55 u56 u57 u58 u59 u60 u61 u62 u63 u64 u65 u66 u67 u68 u69 u70 u71 u72 u73 u74 u75 u76 u77 u78 u79 : Value) (Q : Exit → Act → World → Prop) (w : World) (ds : Array Value) (hds : ds.size = cs.size) (h4 : Is w r4 32 cs) (h6 : Is w r6 32 ds) (hpre : Pre w)
    (hend : ∀ (y66 y67 y68 y69 y70 y71 y72 y73 y74 y75 y76 y77 y78 y79 : Value) (w' : World), (Post w' ∧ Is w' r6 32 cs ∧ Only (fun k => B0 ≤ k) w w' ∧ (∀ g es, Is w g 32 es → g ≠ r6 → Is w' g 32 es)) → Q .normal ⟨(List.toArray (.pointer (some ⟨b, 0, none⟩) :: u1 :: u2 :: u3 :: .pointer (some ⟨r4, 0, none⟩) :: u5 :: .pointer (some ⟨r6, 0, none⟩) :: (.bool true) :: vo :: mo :: .bool ok :: .bool ok :: u12 :: u13 :: u14 :: u15 :: u16 :: u17 :: u18 :: u19 :: u20 :: u21 :: u22 :: u23 :: u24 :: u25 :: u26 :: u27 :: u28 :: u29 :: u30 :: u31 :: u32 :: u33 :: u34 :: u35 :: u36 :: u37 :: u38 :: u39 :: u40 :: u41 :: u42 :: u43 :: u44 :: u45 :: u46 :: u47 :: u48 :: u49 :: u50 :: u51 :: u52 :: u53 :: u54 :: u55 :: u56 :: u57 :: u58 :: u59 :: u60 :: u61 :: u62 :: u63 :: u64 :: u65 :: y66 :: y67 :: y68 :: y69 :: y70 :: y71 :: y72 :: y73 :: y74 :: y75 :: y76 :: y77 :: y78 :: y79 :: [])), []⟩ w') :
    Code.wp Try.prog rd15_code Q ⟨(List.toArray (.pointer (some ⟨b, 0, none⟩) :: u1 :: u2 :: u3 :: .pointer (some ⟨r4, 0, none⟩) :: u5 :: .pointer (some ⟨r6, 0, none⟩) :: u7 :: vo :: mo :: .bool ok :: .bool ok :: u12 :: u13 :: u14 :: u15 :: u16 :: u17 :: u18 :: u19 :: u20 :: u21 :: u22 :: u23 :: u24 :: u25 :: u26 :: u27 :: u28 :: u29 :: u30 :: u31 :: u32 :: u33 :: u34 :: u35 :: u36 :: u37 :: u38 :: u39 :: u40 :: u41 :: u42 :: u43 :: u44 :: u45 :: u46 :: u47 :: u48 :: u49 :: u50 :: u51 :: u52 :: u53 :: u54 :: u55 :: u56 :: u57 :: u58 :: u59 :: u60 :: u61 :: u62 :: u63 :: u64 :: u65 :: u66 :: u67 :: u68 :: u69 :: u70 :: u71 :: u72 :: u73 :: u74 :: u75 :: u76 :: u77 :: u78 :: u79 :: [])), []⟩ w := by
  refine wp_mono (rd15_in b r4 r6 B0 ok vo mo cs Pre Post hne hB6 hsz hone hsame hst p1 p2 p3 p4 _ _ _ _ _ _ _ _ _ _ _ _ _ _ _ _ _ _ _ _ _ _ _ _ _ _ _ _ _ _ _ _ _ _ _ _ _ _ _ _ _ _ _ _ _ _ _ _ _ _ _ _ _ _ _ _ _ _ _ _ _ _ _ _ _ _ _ _ _ _ _ _ _ w ds hds h4 h6 hpre) ?_
  rintro e a w' h
  obtain ⟨y66, h⟩ := h
  obtain ⟨y67, h⟩ := h
  obtain ⟨y68, h⟩ := h
  obtain ⟨y69, h⟩ := h
  obtain ⟨y70, h⟩ := h
  obtain ⟨y71, h⟩ := h
  obtain ⟨y72, h⟩ := h
  obtain ⟨y73, h⟩ := h
  obtain ⟨y74, h⟩ := h
  obtain ⟨y75, h⟩ := h
  obtain ⟨y76, h⟩ := h
  obtain ⟨y77, h⟩ := h
  obtain ⟨y78, h⟩ := h
  obtain ⟨y79, h⟩ := h
  obtain ⟨h, rfl, hq⟩ := h
  subst h
  exact hend y66 y67 y68 y69 y70 y71 y72 y73 y74 y75 y76 y77 y78 y79 w' hq
end Go.Proofs.Ytdcclighccejhaa

/- reorder's law: does: the region of the reference's In. Conditions: as each says. -/
set_option linter.unusedVariables false
set_option linter.unusedSimpArgs false
namespace Go.Proofs.Ytdcclighccejhaa
open Go Go.RowKit

theorem act_mid {g n now : Nat} {d : Int} {q0 q1 q2 q3 q4 q5 q6 q7 q8 q9 q10 : Value} {w : World} (h : Is w g 44 #[.int .i64 d, .int .u64 (n : Int), .int .u64 (now : Int), q0, q1, q2, q3, q4, q5, q6, q7, q8, q9, q10]) : w.rangeAt g 3 [q0, q1, q2, q3, q4, q5, q6, q7, q8, q9, q10] := fun j v hj => by
  rw [h.cell]
  have : (#[.int .i64 d, .int .u64 (n : Int), .int .u64 (now : Int), q0, q1, q2, q3, q4, q5, q6, q7, q8, q9, q10] : Array Value)[3 + j]? = ([q0, q1, q2, q3, q4, q5, q6, q7, q8, q9, q10] : List Value)[j]? := by
    rw [show 3 + j = j + 3 by omega]
    simp
  rw [this, hj]
def rd8_A : List (List Nat) := ([] :: [] :: [1] :: [] :: [3] :: [4, 3] :: [] :: [6] :: (0 :: 2 :: 5 :: 7 :: 1 :: 4 :: 3 :: 6 :: []) :: (8 :: 0 :: 2 :: 5 :: 7 :: 1 :: 4 :: 3 :: 6 :: []) :: (9 :: 8 :: 0 :: 2 :: 5 :: 7 :: 1 :: 4 :: 3 :: 6 :: []) :: (9 :: 8 :: 0 :: 2 :: 5 :: 7 :: 1 :: 4 :: 3 :: 6 :: []) :: (9 :: 8 :: 0 :: 2 :: 5 :: 7 :: 1 :: 4 :: 3 :: 6 :: []) :: (10 :: 8 :: 0 :: 1 :: 2 :: 3 :: 4 :: 5 :: 6 :: 7 :: 9 :: []) :: (11 :: 13 :: 0 :: 1 :: 2 :: 3 :: 4 :: 5 :: 6 :: 7 :: 8 :: 9 :: 10 :: []) :: (12 :: 14 :: 0 :: 1 :: 2 :: 3 :: 4 :: 5 :: 6 :: 7 :: 8 :: 9 :: 10 :: 11 :: 13 :: []) :: [])
def rd8_kill : List (List Nat) := ([] :: [] :: [] :: [] :: [] :: [] :: [] :: [] :: [] :: [] :: [] :: [] :: [] :: [5, 16] :: [] :: [] :: [])
def rd8_uses : List (List Nat) := ([16] :: [] :: [] :: [] :: [] :: [16] :: [] :: [] :: [5, 16] :: [8] :: [8, 9] :: [8, 9] :: [8, 9] :: [8, 10] :: [11] :: [] :: [])
noncomputable def rd8_code : Code := ((Try.f11.body.bind (codeRegion 8)).getD .skip)
set_option maxRecDepth 100000 in
set_option maxHeartbeats 4000000 in
theorem rd8_in (r4 r5 B0 n now : Nat) (d : Int) (bo : Bool) (p : Pk) (cs : Array Value) (q0 q1 q2 q3 q4 q5 q6 q7 q8 q9 q10 : Value) (Res : V3 → Array Value → Value → World → Prop) (w : World) (hne : ¬ r5 = r4) (hB4 : B0 ≤ r4) (hsz : (Try.prog.info? 32).map (·.size) = some cs.size) (hd : ∀ w1, Only (fun _ => False) w w1 → Calls Try.prog 26 #[.agg #[q0, q1, q2, q3, q4, q5, q6, q7, q8, q9, q10]] w1 (fun e w2 => ∃ u : V3, e = .returned (.agg (p.cls u.1 u.2.1 u.2.2)) ∧ OwnPk w.heap.size p u.1 u.2.1 u.2.2 w2 ∧ Only (fun _ => False) w1 w2)) (hin : ∀ w1 (u : V3), Only (fun _ => False) w w1 → OwnPk w.heap.size p u.1 u.2.1 u.2.2 w1 → Calls Try.prog 25 #[.agg cs, .int .u64 (n : Int), .agg (p.cls u.1 u.2.1 u.2.2), .int .u64 (now : Int)] w1 (fun e w2 => ∃ cs2 mo, e = .returned (.tuple #[.agg cs2, mo, .bool bo]) ∧ Res u cs2 mo w2 ∧ Only (fun _ => False) w1 w2)) (hrs : ∀ u cs2 mo wz, Res u cs2 mo wz → cs2.size = cs.size ∧ cs2.all (·.oneCell') = true) (p1 : ∀ u cs2 mo x y, Res u cs2 mo x → Only (fun _ => False) x y → Res u cs2 mo y) (p2 : ∀ u cs2 mo x y, Res u cs2 mo x → (∃ ds, Is x r4 32 ds) → Only (fun k => k = r4) x y → Res u cs2 mo y) (u0 u1 u2 u3 u6 u7 u8 u9 u10 u11 u12 u13 u14 u15 u16 u17 u18 u19 u20 u21 u22 u23 u24 u25 u26 u27 u28 u29 u30 u31 u32 u33 u34 u35 u36 u37 u38 u39 u40 u41 u42 u43 u44 u45 u46 u47 u48 u49 u50 u51 u52 u53 u54 u55 u56 u57 u58 u59 u60 u61 u62 u63 u64 u65 u66 u67 u68 u69 u70 u71 u72 u73 u74 u75 u76 u77 u78 u79 : Value) (w0 : World) (hw0 : Only (fun _ => False) w w0) (h4 : Is w0 r4 32 cs) (h5 : Is w0 r5 44 #[.int .i64 d, .int .u64 (n : Int), .int .u64 (now : Int), q0, q1, q2, q3, q4, q5, q6, q7, q8, q9, q10]) :
    Code.wp Try.prog rd8_code (fun e a w' => ∃ y9 y31 y32 y33 y34 y35 y36 y37 y38 y39 y40 y41 y42 y43 : Value, a = ⟨(List.toArray (u0 :: u1 :: u2 :: u3 :: .pointer (some ⟨r4, 0, none⟩) :: .pointer (some ⟨r5, 0, none⟩) :: u6 :: u7 :: u8 :: y9 :: u10 :: (.bool bo) :: u12 :: u13 :: u14 :: u15 :: u16 :: u17 :: u18 :: u19 :: u20 :: u21 :: u22 :: u23 :: u24 :: u25 :: u26 :: u27 :: u28 :: u29 :: u30 :: y31 :: y32 :: y33 :: y34 :: y35 :: y36 :: y37 :: y38 :: y39 :: y40 :: y41 :: y42 :: y43 :: u44 :: u45 :: u46 :: u47 :: u48 :: u49 :: u50 :: u51 :: u52 :: u53 :: u54 :: u55 :: u56 :: u57 :: u58 :: u59 :: u60 :: u61 :: u62 :: u63 :: u64 :: u65 :: u66 :: u67 :: u68 :: u69 :: u70 :: u71 :: u72 :: u73 :: u74 :: u75 :: u76 :: u77 :: u78 :: u79 :: [])), []⟩ ∧ e = .normal ∧ (∃ u cs2 mo, y9 = mo ∧ Is w' r4 32 cs2 ∧ Res u cs2 mo w' ∧ Only (fun k => k = r4) w w')) ⟨(List.toArray (u0 :: u1 :: u2 :: u3 :: .pointer (some ⟨r4, 0, none⟩) :: .pointer (some ⟨r5, 0, none⟩) :: u6 :: u7 :: u8 :: u9 :: u10 :: u11 :: u12 :: u13 :: u14 :: u15 :: u16 :: u17 :: u18 :: u19 :: u20 :: u21 :: u22 :: u23 :: u24 :: u25 :: u26 :: u27 :: u28 :: u29 :: u30 :: u31 :: u32 :: u33 :: u34 :: u35 :: u36 :: u37 :: u38 :: u39 :: u40 :: u41 :: u42 :: u43 :: u44 :: u45 :: u46 :: u47 :: u48 :: u49 :: u50 :: u51 :: u52 :: u53 :: u54 :: u55 :: u56 :: u57 :: u58 :: u59 :: u60 :: u61 :: u62 :: u63 :: u64 :: u65 :: u66 :: u67 :: u68 :: u69 :: u70 :: u71 :: u72 :: u73 :: u74 :: u75 :: u76 :: u77 :: u78 :: u79 :: [])), []⟩ w0 := by
  conv => arg 2; whnf
  have HD := Lib.hid hd
  have HIN := Lib.hid hin
  clear hd hin
  refine wp_region_posts rd8_A [5, 8, 13] [5, 8, 9, 10, 11, 13, 14, 16] rd8_kill rd8_uses [11, 13, 14] [] [] [16]
      (some ((.agg cs)) :: some ?v1 :: some ?v2 :: some ?v3 :: some ((.agg #[q0, q1, q2, q3, q4, q5, q6, q7, q8, q9, q10])) :: none :: some ?v6 :: some ?v7 :: none :: none :: none :: none :: some (.bool bo) :: none :: none :: some ?v15 :: [])
      ?T (fun wx => Is wx r5 44 #[.int .i64 d, .int .u64 (n : Int), .int .u64 (now : Int), q0, q1, q2, q3, q4, q5, q6, q7, q8, q9, q10] ∧ (∃ ds, ds.size = cs.size ∧ Is wx r4 32 ds) ∧ Only (fun k => k = r4) w wx) ?W ?E (by kernel_rfl) (by kernel_rfl) (by kernel_rfl) (fun x => ?hT) ?hF ?hini (Reg.all_ops ?runs) ?pres ?fin
  case W => exact fun j x wz => match j with | 5 => ∃ u : V3, x 5 = .agg (p.cls u.1 u.2.1 u.2.2) ∧ OwnPk w.heap.size p u.1 u.2.1 u.2.2 wz | 8 => ∃ u cs2 mo, x 8 = .tuple #[.agg cs2, mo, .bool bo] ∧ Res u cs2 mo wz | 9 => x 9 = x 8 | 10 => ∃ cs2 mo, x 8 = .tuple #[.agg cs2, mo, .bool bo] ∧ x 10 = .agg cs2 | 11 => ∃ cs2 mo, x 8 = .tuple #[.agg cs2, mo, .bool bo] ∧ x 11 = mo | 13 => ∃ u cs2 mo, x 8 = .tuple #[.agg cs2, mo, .bool bo] ∧ Is wz r4 32 cs2 ∧ Res u cs2 mo wz | 14 => x 14 = x 11 | 16 => Is wz r4 32 cs ∧ Only (fun _ => False) w wz | _ => True
  case E => exact fun i wx wy => match i with | 5 => Only (fun _ => False) wx wy | 8 => Only (fun _ => False) wx wy | 13 => (∃ ds, Is wx r4 32 ds) ∧ Only (fun k => k = r4) wx wy | _ => True
  case hT =>
    simp only [Reg.fillV, Act.put, List.setIfInBounds_toArray, List.set_cons_zero, List.set_cons_succ]
    rfl
  case runs =>
    refine And.intro ?_ ?_
    · refine Reg.ob_known (fun _ => rfl) rfl rfl (fun x w1 hF hU K hK => ?_)
      obtain ⟨⟨h4, -⟩, -⟩ := hU
      refine wp_load_row 32 _ rfl r4 rfl _ cs (0, 0) _ h4 Try.underlying32 rfl hsz ?_
      exact hK w1 (fun h _ _ => absurd h (by decide)) rfl
    refine And.intro ?_ ?_
    · refine Reg.ob_pure (fun _ => rfl) rfl rfl rfl rfl (fun x w1 hF => ?_)
      obtain ⟨h5, h4, hO⟩ := hF
      have g1 := h5.cell 1
      have g2 := h5.cell 2
      simp at g1 g2
      clear h5 h4 hO
      go_simp
      with_reducible rfl
    refine And.intro ?_ ?_
    · refine Reg.ob_pure (fun _ => rfl) rfl rfl rfl rfl (fun x w1 hF => ?_)
      obtain ⟨h5, h4, hO⟩ := hF
      have g1 := h5.cell 1
      have g2 := h5.cell 2
      simp at g1 g2
      clear h5 h4 hO
      go_simp
      with_reducible rfl
    refine And.intro ?_ ?_
    · refine Reg.ob_pure (fun _ => rfl) rfl rfl rfl rfl (fun x w1 hF => ?_)
      obtain ⟨h5, h4, hO⟩ := hF
      have g1 := h5.cell 1
      have g2 := h5.cell 2
      simp at g1 g2
      clear h5 h4 hO
      go_simp
      with_reducible rfl
    refine And.intro ?_ ?_
    · refine Reg.ob_known (fun _ => rfl) rfl rfl (fun x w1 hF hU K hK => ?_)
      refine wp_load_mid 42 _ rfl r5 3 rfl [q0, q1, q2, q3, q4, q5, q6, q7, q8, q9, q10] _ (act_mid (hF rfl).1) Try.underlying42 rfl Try.sizePq ?_
      exact hK w1 (fun h _ _ => absurd h (by decide)) rfl
    refine And.intro ?_ ?_
    · refine Reg.ob_some (fun _ => rfl) rfl (fun x w1 hF hU K hK => ?_)
      obtain ⟨h5, ⟨ds, hds, h4⟩, hO⟩ := hF rfl
      obtain ⟨⟨-, ho1⟩, -⟩ := hU
      go_simp
      refine (HD.out w1 ho1).mono ?_
      rintro e w5 ⟨u, rfl, hu, ho⟩
      exact hK _ w5 (fun _ _ _ => ⟨h5.only ho (by simp), ⟨ds, hds, h4.only ho (by simp)⟩, hO.trans ho (fun _ _ e => e.elim)⟩) ho ⟨u, rfl, hu⟩
    refine And.intro ?_ ?_
    · refine Reg.ob_pure (fun _ => rfl) rfl rfl rfl rfl (fun x w1 hF => ?_)
      obtain ⟨h5, h4, hO⟩ := hF
      have g1 := h5.cell 1
      have g2 := h5.cell 2
      simp at g1 g2
      clear h5 h4 hO
      go_simp
      with_reducible rfl
    refine And.intro ?_ ?_
    · refine Reg.ob_pure (fun _ => rfl) rfl rfl rfl rfl (fun x w1 hF => ?_)
      obtain ⟨h5, h4, hO⟩ := hF
      have g1 := h5.cell 1
      have g2 := h5.cell 2
      simp at g1 g2
      clear h5 h4 hO
      go_simp
      with_reducible rfl
    refine And.intro ?_ ?_
    · refine Reg.ob_some (fun _ => rfl) rfl (fun x w1 hF hU K hK => ?_)
      obtain ⟨h5, ⟨ds, hds, h4⟩, hO⟩ := hF rfl
      obtain ⟨⟨u, h5v, hu⟩, ⟨-, ho1⟩, -⟩ := hU
      have h5v : x 5 = .agg (p.cls u.1 u.2.1 u.2.2) := h5v
      revert hK
      simp only [Nat.reduceAdd, h5v]
      intro hK
      go_simp
      refine (HIN.out w1 u ho1 hu).mono ?_
      rintro e w5 ⟨cs2, mo, rfl, hres, ho⟩
      exact hK _ w5 (fun _ _ _ => ⟨h5.only ho (by simp), ⟨ds, hds, h4.only ho (by simp)⟩, hO.trans ho (fun _ _ e => e.elim)⟩) ho ⟨u, cs2, mo, rfl, hres⟩
    refine And.intro ?_ ?_
    · refine Reg.ob_some (fun _ => rfl) rfl (fun x w1 hF hU K hK => ?_)
      go_simp
      exact hK _ _ (fun h => by cases h) rfl rfl
    refine And.intro ?_ ?_
    · refine Reg.ob_some (fun _ => rfl) rfl (fun x w1 hF hU K hK => ?_)
      obtain ⟨⟨u, cs2, mo, h8, hres⟩, h9, -⟩ := hU
      have h9 : x 9 = x 8 := h9
      have h8 : x 8 = .tuple #[.agg cs2, mo, .bool bo] := h8
      revert hK
      simp only [Nat.reduceAdd, h9, h8]
      intro hK
      go_simp
      exact hK _ _ (fun h => by cases h) rfl ⟨cs2, mo, h8, rfl⟩
    refine And.intro ?_ ?_
    · refine Reg.ob_some (fun _ => rfl) rfl (fun x w1 hF hU K hK => ?_)
      obtain ⟨⟨u, cs2, mo, h8, hres⟩, h9, -⟩ := hU
      have h9 : x 9 = x 8 := h9
      have h8 : x 8 = .tuple #[.agg cs2, mo, .bool bo] := h8
      revert hK
      simp only [Nat.reduceAdd, h9, h8]
      intro hK
      go_simp
      exact hK _ _ (fun h => by cases h) rfl ⟨cs2, mo, h8, rfl⟩
    refine And.intro ?_ ?_
    · refine Reg.ob_told (fun _ => rfl) rfl (fun x w1 hF hU K hK => ?_)
      obtain ⟨⟨u, cs2, mo, h8, hres⟩, h9, -⟩ := hU
      have h9 : x 9 = x 8 := h9
      have h8 : x 8 = .tuple #[.agg cs2, mo, .bool bo] := h8
      revert hK
      simp only [Nat.reduceAdd, h9, h8]
      intro hK
      go_simp
      exact hK _ (fun h => by cases h) rfl trivial
    refine And.intro ?_ ?_
    · refine Reg.ob_some (fun _ => rfl) rfl (fun x w1 hF hU K hK => ?_)
      obtain ⟨h5, ⟨ds, hds, h4⟩, hO⟩ := hF rfl
      obtain ⟨⟨u, cs2, mo, h8, hres⟩, ⟨cs3, mo', h8', h10⟩, -⟩ := hU
      have h8 : x 8 = .tuple #[.agg cs2, mo, .bool bo] := h8
      have h8' : x 8 = .tuple #[.agg cs3, mo', .bool bo] := h8'
      obtain ⟨rfl, rfl⟩ : cs2 = cs3 ∧ mo = mo' := by rw [h8] at h8'; simpa using h8'
      have h10 : x 10 = .agg cs2 := h10
      obtain ⟨hz1, hz2⟩ := hrs _ _ _ _ hres
      refine wp_store_row 32 _ _ rfl r4 cs2 (by simp [Act.eval]) (by simpa [Act.eval] using h10) 32 ds h4 (by rw [hz1]; exact hsz) (by rw [hds, hz1]) hz2 ?_
      have ho : Only (fun k => k = r4) w1 (w1.setRow r4 cs2) := Only.setRow (S := fun k => k = r4) (Only.refl _ w1) (fun _ => rfl) _
      exact hK undef _ (fun _ _ _ => ⟨h5.only ho hne, ⟨cs2, hz1, h4.setRow _⟩, hO.trans ho (fun i hi e => e)⟩) ⟨⟨ds, h4⟩, ho⟩ ⟨u, cs2, mo, h8, h4.setRow _, p2 _ _ _ _ _ hres ⟨ds, h4⟩ ho⟩
    refine And.intro ?_ ?_
    · refine Reg.ob_some (fun _ => rfl) rfl (fun x w1 hF hU K hK => ?_)
      go_simp
      exact hK _ _ (fun h => by cases h) rfl rfl
    refine And.intro ?_ ?_
    · refine Reg.ob_pure (fun _ => rfl) rfl rfl rfl rfl (fun x w1 hF => ?_)
      obtain ⟨h5, h4, hO⟩ := hF
      have g1 := h5.cell 1
      have g2 := h5.cell 2
      simp at g1 g2
      clear h5 h4 hO
      go_simp
      with_reducible rfl
    exact trivial
  case hF =>
    exact ⟨h5.only (onlyN w0 1) (by simp), ⟨cs, rfl, h4.only (onlyN w0 1) (by simp)⟩, (hw0.drewN 1).mono (fun _ _ e => e.elim)⟩
  case hini =>
    exact ⟨fun x => ⟨h4.only (onlyN w0 1) (by simp), hw0.drewN 1⟩, trivial⟩
  case pres =>
    intro i hi j hj hc x wx wy hF hE hW
    simp only [List.mem_cons, List.mem_nil_iff, or_false] at hi hj
    rcases hi with rfl | rfl | rfl <;> rcases hj with rfl | rfl | rfl | rfl | rfl | rfl | rfl | rfl
    all_goals first | (exfalso; revert hc; decide) | skip
    all_goals first
      | exact hW
      | (obtain ⟨u, h1, h2⟩ := hW; exact ⟨u, h1, h2.only hE⟩)
      | (obtain ⟨u, cs2, mo, h1, h2⟩ := hW; exact ⟨u, cs2, mo, h1, p1 _ _ _ _ _ h2 hE⟩)
      | (obtain ⟨u, cs2, mo, h1, h2⟩ := hW; exact ⟨u, cs2, mo, h1, p2 _ _ _ _ _ h2 hE.1 hE.2⟩)
      | (obtain ⟨u, cs2, mo, h1, h2, h3⟩ := hW; exact ⟨u, cs2, mo, h1, h2.only hE (by simp), p1 _ _ _ _ _ h3 hE⟩)
      | exact ⟨hW.1.only hE (by simp), hW.2.trans hE (fun _ _ e => e)⟩
  case fin =>
    rintro x w9 hF hU
    obtain ⟨⟨cs3, mo', h8', h11⟩, ⟨u, cs2, mo, h8, h13, hres⟩, h14, -⟩ := hU
    have h8 : x 8 = .tuple #[.agg cs2, mo, .bool bo] := h8
    have h8' : x 8 = .tuple #[.agg cs3, mo', .bool bo] := h8'
    have h14 : x 14 = x 11 := h14
    have h11 : x 11 = mo' := h11
    obtain ⟨rfl, rfl⟩ : cs2 = cs3 ∧ mo = mo' := by rw [h8] at h8'; simpa using h8'
    repeat apply Exists.intro
    exact ⟨rfl, rfl, u, cs2, mo, h14.trans h11, h13, hres, (hF rfl).2.2⟩

set_option maxRecDepth 100000 in
set_option maxHeartbeats 4000000 in
theorem rd8 (r4 r5 B0 n now : Nat) (d : Int) (bo : Bool) (p : Pk) (cs : Array Value) (q0 q1 q2 q3 q4 q5 q6 q7 q8 q9 q10 : Value) (Res : V3 → Array Value → Value → World → Prop) (w : World) (hne : ¬ r5 = r4) (hB4 : B0 ≤ r4) (hsz : (Try.prog.info? 32).map (·.size) = some cs.size) (hd : ∀ w1, Only (fun _ => False) w w1 → Calls Try.prog 26 #[.agg #[q0, q1, q2, q3, q4, q5, q6, q7, q8, q9, q10]] w1 (fun e w2 => ∃ u : V3, e = .returned (.agg (p.cls u.1 u.2.1 u.2.2)) ∧ OwnPk w.heap.size p u.1 u.2.1 u.2.2 w2 ∧ Only (fun _ => False) w1 w2)) (hin : ∀ w1 (u : V3), Only (fun _ => False) w w1 → OwnPk w.heap.size p u.1 u.2.1 u.2.2 w1 → Calls Try.prog 25 #[.agg cs, .int .u64 (n : Int), .agg (p.cls u.1 u.2.1 u.2.2), .int .u64 (now : Int)] w1 (fun e w2 => ∃ cs2 mo, e = .returned (.tuple #[.agg cs2, mo, .bool bo]) ∧ Res u cs2 mo w2 ∧ Only (fun _ => False) w1 w2)) (hrs : ∀ u cs2 mo wz, Res u cs2 mo wz → cs2.size = cs.size ∧ cs2.all (·.oneCell') = true) (p1 : ∀ u cs2 mo x y, Res u cs2 mo x → Only (fun _ => False) x y → Res u cs2 mo y) (p2 : ∀ u cs2 mo x y, Res u cs2 mo x → (∃ ds, Is x r4 32 ds) → Only (fun k => k = r4) x y → Res u cs2 mo y) (u0 u1 u2 u3 u6 u7 u8 u9 u10 u11 u12 u13 u14 u15 u16 u17 u18 u19 u20 u21 u22 u23 u24 u25 u26 u27 u28 u29 u30 u31 u32 u33 u34 u35 u36 u37 u38 u39 u40 u41 u42 u43 u44 u45 u46 u47 u48 u49 u50 u51 u52 u53 u54 u55 u56 u57 u58 u59 u60 u61 u62 u63 u64 u65 u66 u67 u68 u69 u70 u71 u72 u73 u74 u75 u76 u77 u78 u79 : Value) (Q : Exit → Act → World → Prop) (w0 : World) (hw0 : Only (fun _ => False) w w0) (h4 : Is w0 r4 32 cs) (h5 : Is w0 r5 44 #[.int .i64 d, .int .u64 (n : Int), .int .u64 (now : Int), q0, q1, q2, q3, q4, q5, q6, q7, q8, q9, q10])
    (hend : ∀ (y9 y31 y32 y33 y34 y35 y36 y37 y38 y39 y40 y41 y42 y43 : Value) (w' : World), (∃ u cs2 mo, y9 = mo ∧ Is w' r4 32 cs2 ∧ Res u cs2 mo w' ∧ Only (fun k => k = r4) w w') → Q .normal ⟨(List.toArray (u0 :: u1 :: u2 :: u3 :: .pointer (some ⟨r4, 0, none⟩) :: .pointer (some ⟨r5, 0, none⟩) :: u6 :: u7 :: u8 :: y9 :: u10 :: (.bool bo) :: u12 :: u13 :: u14 :: u15 :: u16 :: u17 :: u18 :: u19 :: u20 :: u21 :: u22 :: u23 :: u24 :: u25 :: u26 :: u27 :: u28 :: u29 :: u30 :: y31 :: y32 :: y33 :: y34 :: y35 :: y36 :: y37 :: y38 :: y39 :: y40 :: y41 :: y42 :: y43 :: u44 :: u45 :: u46 :: u47 :: u48 :: u49 :: u50 :: u51 :: u52 :: u53 :: u54 :: u55 :: u56 :: u57 :: u58 :: u59 :: u60 :: u61 :: u62 :: u63 :: u64 :: u65 :: u66 :: u67 :: u68 :: u69 :: u70 :: u71 :: u72 :: u73 :: u74 :: u75 :: u76 :: u77 :: u78 :: u79 :: [])), []⟩ w') :
    Code.wp Try.prog rd8_code Q ⟨(List.toArray (u0 :: u1 :: u2 :: u3 :: .pointer (some ⟨r4, 0, none⟩) :: .pointer (some ⟨r5, 0, none⟩) :: u6 :: u7 :: u8 :: u9 :: u10 :: u11 :: u12 :: u13 :: u14 :: u15 :: u16 :: u17 :: u18 :: u19 :: u20 :: u21 :: u22 :: u23 :: u24 :: u25 :: u26 :: u27 :: u28 :: u29 :: u30 :: u31 :: u32 :: u33 :: u34 :: u35 :: u36 :: u37 :: u38 :: u39 :: u40 :: u41 :: u42 :: u43 :: u44 :: u45 :: u46 :: u47 :: u48 :: u49 :: u50 :: u51 :: u52 :: u53 :: u54 :: u55 :: u56 :: u57 :: u58 :: u59 :: u60 :: u61 :: u62 :: u63 :: u64 :: u65 :: u66 :: u67 :: u68 :: u69 :: u70 :: u71 :: u72 :: u73 :: u74 :: u75 :: u76 :: u77 :: u78 :: u79 :: [])), []⟩ w0 := by
  refine wp_mono (rd8_in r4 r5 B0 n now d bo p cs q0 q1 q2 q3 q4 q5 q6 q7 q8 q9 q10 Res w hne hB4 hsz hd hin hrs p1 p2 _ _ _ _ _ _ _ _ _ _ _ _ _ _ _ _ _ _ _ _ _ _ _ _ _ _ _ _ _ _ _ _ _ _ _ _ _ _ _ _ _ _ _ _ _ _ _ _ _ _ _ _ _ _ _ _ _ _ _ _ _ _ _ _ _ _ _ _ _ _ _ _ _ _ _ _ _ _ w0 hw0 h4 h5) ?_
  rintro e a w' h
  obtain ⟨y9, h⟩ := h
  obtain ⟨y31, h⟩ := h
  obtain ⟨y32, h⟩ := h
  obtain ⟨y33, h⟩ := h
  obtain ⟨y34, h⟩ := h
  obtain ⟨y35, h⟩ := h
  obtain ⟨y36, h⟩ := h
  obtain ⟨y37, h⟩ := h
  obtain ⟨y38, h⟩ := h
  obtain ⟨y39, h⟩ := h
  obtain ⟨y40, h⟩ := h
  obtain ⟨y41, h⟩ := h
  obtain ⟨y42, h⟩ := h
  obtain ⟨y43, h⟩ := h
  obtain ⟨h, rfl, hq⟩ := h
  subst h
  exact hend y9 y31 y32 y33 y34 y35 y36 y37 y38 y39 y40 y41 y42 y43 w' hq
end Go.Proofs.Ytdcclighccejhaa

/- easelkit's Pick. Conditions: as it says. -/
set_option linter.unusedVariables false
namespace Go.Proofs.Ytdcclighccejhaa
open Go.RowKit

theorem pick_eq (i n : Int) (hi : -9223372036854775808 ≤ i ∧ i ≤ 9223372036854775807) (hn : 0 < n) (hn2 : n ≤ 4611686018427387904) : (wrap64 (i.tmod n + n)).tmod n = i % n := by
  have h1 : i.tmod n < n := Int.tmod_lt_of_pos i hn
  have h2 : -n < i.tmod n := by
    rcases Int.le_total 0 i with h0 | h0
    · have := Int.tmod_nonneg n h0
      omega
    · have h4 := Int.tmod_lt_of_pos (-i) hn
      rw [Int.neg_tmod] at h4
      omega
  rw [IntWalk.wrap64_in _ (by omega)]
  rw [Int.tmod_eq_emod_of_nonneg (by omega)]
  have h3 : i.tmod n % n = i % n := by
    have := Int.mul_tdiv_add_tmod i n
    conv => rhs; rw [← this]
    simp
  simp [h3]

set_option maxRecDepth 100000 in
set_option maxHeartbeats 400000 in
theorem pick_is (i n : Int) (w : World) (hi : -9223372036854775808 ≤ i ∧ i ≤ 9223372036854775807) (hn : 0 < n) (hn2 : n ≤ 4611686018427387904) :
    Calls Try.prog 12 #[.int .i64 i, .int .i64 n] w fun e w' => e = .returned (.int .i64 (i % n)) ∧ w = w' := by
  rw [← pick_eq i n hi hn hn2]
  clear hi hn2
  go_enter Try.func12, Try.ntmps12
  go_wp2
  go_ret
  exact ⟨rfl, rfl⟩
end Go.Proofs.Ytdcclighccejhaa

/- reorder's law: what a call leaves, for both. Conditions: as each says. -/
set_option linter.unusedVariables false
set_option linter.unusedSimpArgs false
namespace Go.Proofs.Ytdcclighccejhaa
open Go Go.RowKit

section
variable {b B0 B j : Nat} {m : Bf} {v' vo mo : Value} {us : List V3} {r : Rb} {v2 v2' : Value} {us2 : List V3} {w w' : World}
theorem us_own {ws : List Wt} (h : Pks w B ws us) : ∀ u ∈ us, ∃ p, OwnPk B p u.1 u.2.1 u.2.2 w := fun u hu => by
  obtain ⟨i, hi⟩ := List.getElem?_of_mem hu
  have hil : i < ws.length := by rw [← h.len]; exact (List.getElem?_eq_some_iff.1 hi).1
  exact ⟨_, h.own i _ u (List.getElem?_eq_getElem hil) hi⟩
theorem Went.off {S : Nat → Prop} (h : Went b B0 B j m v' vo mo us r v2 v2' us2 w) (ho : Only S w w') (hb : ¬ S b)
    (c1 : ∀ (T : TypeId) (B' sz n : Nat) (v : Value) (xs : List Value), w.ownsRow B' T sz v n xs → T ≠ 32 → ∀ k, v.ownBlock = some k → ¬ S k) : Went b B0 B j m v' vo mo us r v2 v2' us2 w' := by
  have cp : ∀ (B' : Nat) (p : Pk) (u : V3), OwnPk B' p u.1 u.2.1 u.2.2 w → ∀ k, Blk u k → ¬ S k := fun B' p u hu k hk => by
    rcases hk with e | e | e
    · exact c1 _ _ _ _ _ _ hu.1 (by decide) k e
    · exact c1 _ _ _ _ _ _ hu.2.1 (by decide) k e
    · exact c1 _ _ _ _ _ _ hu.2.2 (by decide) k e
  have cu : ∀ u ∈ us, ∀ k, Blk u k → ¬ S k := fun u hu k hk => by
    obtain ⟨p, hp⟩ := us_own h.pks u hu
    exact cp _ p u hp k hk
  exact ⟨h.bf.only ho hb (c1 _ _ _ _ _ _ h.bf.row.1 (by decide)) (fun u hu => cu u (drop_mem hu)), h.pks.only ho cu, h.good, h.sim, h.ws, h.nx, h.few,
    h.ref.off ho (fun v1 n xs hv => c1 _ _ _ _ _ _ hv (by decide)) (fun p u' hu _ => cp _ p u' hu), h.len, h.vo.only ho (c1 _ _ _ _ _ _ h.vo.1 (by decide)), h.mo.only ho (c1 _ _ _ _ _ _ h.mo.1 (by decide)), h.go, h.lb, h.lB, Nat.le_trans h.hB ho.size⟩
theorem Went.pure (h : Went b B0 B j m v' vo mo us r v2 v2' us2 w) (ho : Only (fun _ => False) w w') : Went b B0 B j m v' vo mo us r v2 v2' us2 w' := h.off ho (fun e => e) (fun _ _ _ _ _ _ _ _ _ _ e => e)
theorem Went.far (h : Went b B0 B j m v' vo mo us r v2 v2' us2 w) {g : Nat} (hg : ∃ cs, Is w g 32 cs) (ho : Only (fun k => k = g) w w') : Went b B0 B j m v' vo mo us r v2 v2' us2 w' := by
  obtain ⟨cs, hg⟩ := hg
  exact h.off ho (fun e => Is.apart h.bf.is hg (by decide) e) (fun T B' sz n v xs hv hT k hk (e : k = g) => owned_off hv hg hT (by rw [hk, e]))
end
/-- What the program's side of a call leaves. -/
structure Half (b B0 B j : Nat) (m : Bf) (v' vo : Value) (us : List V3) (w : World) : Prop where
  bf : Bfr w b (m.gone j) v' (us.drop j) B
  pks : Pks w B m.ws us
  vo : OwnS w B0 62 14 vo ((items m.nx (m.ws.take j) (us.take j)).map It.cls)
theorem Half.of {b B0 B j : Nat} {m : Bf} {vo : Value} {us : List V3} {w w1 : World} (hW : WentO b B m us j w w1 vo) (hB : B0 ≤ w.heap.size) : ∃ v', Half b B0 B j m v' vo us w1 := by
  obtain ⟨h1, ⟨v', h2⟩, h3, -⟩ := hW
  exact ⟨v', h2, h3, ⟨owned_low h1.1 hB, h1.2⟩⟩
theorem Half.off {b B0 B j : Nat} {m : Bf} {v' vo : Value} {us : List V3} {w w' : World} {S : Nat → Prop} (h : Half b B0 B j m v' vo us w) (ho : Only S w w') (hb : ¬ S b)
    (c1 : ∀ (T : TypeId) (B' sz n : Nat) (v : Value) (xs : List Value), w.ownsRow B' T sz v n xs → T ≠ 5 → T ≠ 38 → ∀ k, v.ownBlock = some k → ¬ S k) (c2 : ∀ u ∈ us, ∀ k, Blk u k → ¬ S k) : Half b B0 B j m v' vo us w' :=
  ⟨h.bf.only ho hb (c1 _ _ _ _ _ _ h.bf.row.1 (by decide) (by decide)) (fun u hu => c2 u (drop_mem hu)), h.pks.only ho c2, h.vo.only ho (c1 _ _ _ _ _ _ h.vo.1 (by decide) (by decide))⟩
theorem Half.pure {b B0 B j : Nat} {m : Bf} {v' vo : Value} {us : List V3} {w w' : World} (h : Half b B0 B j m v' vo us w) (ho : Only (fun _ => False) w w') : Half b B0 B j m v' vo us w' := h.off ho (fun e => e) (fun _ _ _ _ _ _ _ _ _ _ _ e => e) (fun _ _ _ _ e => e)
theorem RefSt.prog {b B0 B : Nat} {us : List V3} {ws : List Wt} {v2 : Value} {us2 : List V3} {w w1 : World} {cs : Array Value} (h : RefSt B0 us ws v2 us2 w) (hb : Is w b 65 cs)
    (ho : Only (fun k => k = b ∨ (B ≤ k ∧ ∃ cs, Is w k 79 cs)) w w1) : RefSt B0 us ws v2 us2 w1 :=
  h.off ho (fun v1 n xs hv k hk hs => by
    rcases hs with rfl | ⟨-, cs, hi⟩
    · exact owned_off hv hb (by decide) hk
    · exact owned_off hv hi (by decide) hk)
  (fun p u' hu _ k hk hs => by
    rcases hs with rfl | ⟨-, cs, hi⟩
    · exact hu.not_is hb (by decide) (by decide) hk
    · exact hu.not_is hi (by decide) (by decide) hk)
theorem sim_gone {m : Bf} {r : Rb} (h : Sim m r) (hg : m.Good) {j : Nat} (hj : j ≤ m.ws.length) : Sim (m.gone j) (r.gone j) := by
  cases hs : m.some with
  | true => exact h.gone (fun x hx => (hg.nums x hx).1) hs hj
  | false =>
    have hw := hg.emp hs
    have h0 : j = 0 := by rw [hw] at hj; simpa using hj
    subst h0
    refine ⟨h.size, h.hold, h.begun, by show r.ws.drop 0 = m.ws.drop 0; rw [h.ws], fun hf => ?_, fun _ => ?_⟩
    · rw [show (m.gone 0).some = m.some from rfl, hs] at hf
      cases hf
    · show nxAt r.next r.ws 0 = 0
      unfold nxAt
      rw [if_pos rfl]
      exact h.none hs
theorem sim_nx {m : Bf} {r : Rb} (h : Sim m r) (hg : m.Good) : m.ws = [] ∨ r.next = m.nx := by
  cases hs : m.some with
  | true => exact .inr (h.next hs)
  | false => exact .inl (hg.emp hs)
theorem sim_ok {m : Bf} {r : Rb} (h : Sim m r) (hg : m.Good) : r.Ok := by
  cases hs : m.some with
  | true => exact h.ok hg.ok (fun x hx => (hg.nums x hx).1) hs
  | false =>
    have hw := hg.emp hs
    refine ⟨by rw [h.ws, hw]; simp, fun x hx => ?_, fun k x hx => ?_⟩
    · rw [h.ws, hw] at hx; simp at hx
    · rw [h.ws, hw] at hx; simp at hx
/-- At a tick, and when all goes: as many go, of both. -/
theorem sim_must {m : Bf} {r : Rb} (h : Sim m r) (hg : m.Good) (many : Int) : rgo many r.size 0 r.next r.ws = m.goes many := by
  rcases sim_nx h hg with e | e
  · unfold Bf.goes
    rw [h.ws, e]
    rfl
  · rw [rgo_many _ _ _ _ _ (by rw [h.ws, h.size]; have := hg.len; omega), h.ws, e]
    rfl
theorem young_eq {m : Bf} {r : Rb} (h : Sim m r) (now : Nat) : mustGo (yng r.ws r.hold now) r.ws.length = m.must now := by
  rw [h.ws, h.hold]
  rfl
/-- When one comes: as many go, of both. -/
theorem sim_much {m : Bf} {r : Rb} (h : Sim m r) (hg : m.Good) (x : Wt) (hx : x.n ≤ 4611686018427387904) : rgo 0 (r.ins x).size 0 (r.ins x).next (r.ins x).ws = (m.ins x).goes m.much := by
  have h2 := h.ins hg x hx
  have hl : (m.ins x).ws.length = m.ws.length + 1 := insAt_length _ _ _ (pos_le m x.n)
  have hs : (m.ins x).size = m.size := begun_size m x.n
  rw [rgo_gn m.much (r.ins x).size (m.ins x).ws.length _ _ _ (by rw [h2.ws]; omega) (by rw [hl, h2.size, hs]; rfl), h2.ws, h2.next (ins_some m x)]
  rfl
end Go.Proofs.Ytdcclighccejhaa
