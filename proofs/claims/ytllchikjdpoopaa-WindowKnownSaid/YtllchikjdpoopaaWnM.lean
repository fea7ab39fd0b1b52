/- WindowPlays' drawn regions. Conditions: as each says. -/
import Derived.Test.YtllchikjdpoopaaWnL
import Derived.Test.YtllchikjdpoopaaRegB
set_option linter.unusedVariables false
namespace Go.Proofs.Ytllchikjdpoopaa
open Go Go.RowKit

theorem Rd.opened {k : IntKind} {w : World} {v : Value} {xs : List Nat} (h : Rd k w v (nats xs)) : ∃ A c, v = .slice A xs.length c ∧ xs.length ≤ c ∧ (0 < xs.length → ∃ b o, A = some ⟨b, o, none⟩ ∧ ∀ j (h : j < xs.length), w.cell? ⟨b, o + j, none⟩ = some (.int k ((xs[j] : Nat) : Int))) := by
  obtain ⟨A, c, rfl, h1, h2⟩ := h
  refine ⟨A, c, by rw [nats_length], by rw [nats_length] at h1; exact h1, fun hp => ?_⟩
  obtain ⟨b, o, e, hc⟩ := h2 (by rw [nats_length]; exact hp)
  refine ⟨b, o, e, fun j hj => ?_⟩
  have := hc j (by rw [nats_length]; exact hj)
  simpa [nats] using this
/-- Numbers of 64 digits lie in no window of the reference's. -/
theorem Rd.past {w w1 : World} {v : Value} {zs : List Int} {g : Nat} {z : Int} {u : Value} (h : Rd .u64 w v zs) (hg : Is w g 30 #[.int .i64 z, u]) (hu : ∀ y, u ≠ .int .u64 y) (ho : Only (fun k => k = g) w w1) : Rd .u64 w1 v zs := by
  obtain ⟨A, c, rfl, hl, hc⟩ := h
  refine ⟨A, c, rfl, hl, fun hp => ?_⟩
  obtain ⟨b, o, rfl, hcell⟩ := hc hp
  have key : ∀ (i : Nat) (y : Int), (#[Value.int .i64 z, u] : Array Value)[i]? ≠ some (.int .u64 y) := by
    intro i y
    rcases i with _ | _ | i
    · simp
    · simpa using hu y
    · simp
  have hne : ¬ b = g := fun e => by
    subst e
    have h0 := hcell 0 hp
    rw [hg.cell] at h0
    exact key _ _ h0
  exact ⟨b, o, rfl, fun j hj => (ho.cell (p := ⟨b, o + j, none⟩) (World.block_lt_of_cell? w ⟨b, o + j, none⟩ (hcell j hj)) hne).trans (hcell j hj)⟩
theorem form_not {v : Value} (h : v = .slice none 0 0 ∨ ∃ ad n c, v = .slice (some ad) n c) (y : Int) : v ≠ .int .u64 y := by
  rcases h with rfl | ⟨_, _, _, rfl⟩ <;> simp
theorem form_one {v : Value} (h : v = .slice none 0 0 ∨ ∃ ad n c, v = .slice (some ad) n c) : v.oneCell' = true := by
  rcases h with rfl | ⟨_, _, _, rfl⟩ <;> rfl
/-- What the reference's In hands back, in a world. -/
def NewV (s : Nat) (L2 : List Nat) (v v2 : Value) (B : Nat) (w : World) : Prop := Rd .u64 w v2 (nats L2) ∧ (v2 = .slice none 0 0 ∨ ∃ ad n c, v2 = .slice (some ad) n c) ∧ (v2 = v ∨ ∀ k, v2.ownBlock = some k → B ≤ k)
theorem Wnd.only {w w1 : World} {b : Nat} {m : Wm} {S : Nat → Prop} (h : Wnd w b m) (ho : Only S w w1) (hn : ¬ S b) : Wnd w1 b m := by
  obtain ⟨D, h⟩ := h
  exact ⟨D, h.only ho hn⟩
def plays12_A : List (List Nat) := ([] :: [] :: [] :: [1, 2] :: [3, 1, 2] :: [0, 4, 3, 1, 2] :: [5, 0, 4, 3, 1, 2] :: [6, 5, 0, 4, 3, 1, 2] :: [6, 5, 0, 4, 3, 1, 2] :: [] :: (9 :: 7 :: 5 :: 0 :: 1 :: 2 :: 3 :: 4 :: 6 :: []) :: (8 :: 10 :: 0 :: 1 :: 2 :: 3 :: 4 :: 5 :: 6 :: 7 :: 9 :: []) :: [])
def plays12_kill : List (List Nat) := ([] :: [] :: [] :: [] :: [] :: [] :: [] :: [] :: [] :: [] :: [9] :: [] :: [])
def plays12_uses : List (List Nat) := ([] :: [] :: [] :: [] :: [] :: [] :: [5] :: [5, 6] :: [5, 6] :: [] :: [5, 7, 9] :: [] :: [])
noncomputable def plays12_code : Code := ((Try.f3.body.bind (codeRegion 12)).getD .skip)
set_option maxRecDepth 100000 in
set_option maxHeartbeats 4000000 in
theorem plays12_in (s n p q o k N c : Nat) (v : Value) (L : List Nat) (hl : L.length ≤ 1000) (hs1 : 1 ≤ s) (hs2 : s ≤ 1024) (hLt : ∀ x ∈ L, x < 18446744073709551616) (hform : v = .slice none 0 0 ∨ ∃ ad n c, v = .slice (some ad) n c) (hkN : k < N) (u0 u2 u3 u4 u5 u6 u7 u8 u9 u10 u12 u14 u15 u16 u17 u18 u19 u20 u21 u22 u23 u24 u25 u26 u27 u28 u29 u30 u31 u32 u33 u34 u35 u36 u37 u38 u39 u40 u41 u42 u43 u44 u45 u46 u47 u48 u49 u50 u51 u52 u53 u54 u55 u56 u57 u58 u59 u60 u61 u62 u63 u64 u65 u66 u67 u68 u69 u70 u71 u72 u73 u74 u75 u76 u77 u78 u79 u80 u81 u82 u83 u84 u85 u86 u87 u88 u89 u90 u91 u92 u93 u94 u95 u96 u97 u98 u99 u100 u101 u102 u103 u104 u105 u106 u107 u108 u109 u110 u111 u112 u113 u114 u115 u116 u117 u118 u119 u120 u121 u122 u123 u124 u125 u126 u127 u128 u129 u130 u131 u132 u133 u134 u135 u136 u137 u138 u139 u140 u141 u142 u143 u144 u145 u146 u147 u148 u149 u150 u151 u152 u153 u154 u155 u156 u157 u158 u159 u160 u161 u162 u163 u164 u165 u166 u167 u168 u169 : Value) (w0 : World) (hP : Is w0 p 30 #[.int .i64 (s : Int), v]) (hV : Rd .u64 w0 v (nats L)) (hC : w0.cell? ⟨q, o + k, none⟩ = some (.int .u64 (n : Int))) (hqw : q < w0.heap.size) :
    Code.wp Try.prog plays12_code (fun e a w' => ∃ y15 y61 y62 y63 y64 y65 y66 y67 y68 y69 : Value, a = ⟨(List.toArray (u0 :: .slice (some ⟨q, o, none⟩) N c :: u2 :: u3 :: u4 :: u5 :: u6 :: u7 :: u8 :: u9 :: u10 :: .pointer (some ⟨p, 0, none⟩) :: u12 :: .int .i64 (k : Int) :: u14 :: y15 :: .int .i64 (rLook s L n : Int) :: u17 :: u18 :: u19 :: u20 :: u21 :: u22 :: u23 :: u24 :: u25 :: u26 :: u27 :: u28 :: u29 :: u30 :: u31 :: u32 :: u33 :: u34 :: u35 :: u36 :: u37 :: u38 :: u39 :: u40 :: u41 :: u42 :: u43 :: u44 :: u45 :: u46 :: u47 :: u48 :: u49 :: u50 :: u51 :: u52 :: u53 :: u54 :: u55 :: u56 :: u57 :: u58 :: u59 :: u60 :: y61 :: y62 :: y63 :: y64 :: y65 :: y66 :: y67 :: y68 :: y69 :: u70 :: u71 :: u72 :: u73 :: u74 :: u75 :: u76 :: u77 :: u78 :: u79 :: u80 :: u81 :: u82 :: u83 :: u84 :: u85 :: u86 :: u87 :: u88 :: u89 :: u90 :: u91 :: u92 :: u93 :: u94 :: u95 :: u96 :: u97 :: u98 :: u99 :: u100 :: u101 :: u102 :: u103 :: u104 :: u105 :: u106 :: u107 :: u108 :: u109 :: u110 :: u111 :: u112 :: u113 :: u114 :: u115 :: u116 :: u117 :: u118 :: u119 :: u120 :: u121 :: u122 :: u123 :: u124 :: u125 :: u126 :: u127 :: u128 :: u129 :: u130 :: u131 :: u132 :: u133 :: u134 :: u135 :: u136 :: u137 :: u138 :: u139 :: u140 :: u141 :: u142 :: u143 :: u144 :: u145 :: u146 :: u147 :: u148 :: u149 :: u150 :: u151 :: u152 :: u153 :: u154 :: u155 :: u156 :: u157 :: u158 :: u159 :: u160 :: u161 :: u162 :: u163 :: u164 :: u165 :: u166 :: u167 :: u168 :: u169 :: [])), []⟩ ∧ e = .normal ∧ (∃ g v2, y15 = ptr g ∧ Is w' g 30 #[.int .i64 (s : Int), v2] ∧ NewV s (rIn s L n) v v2 w0.heap.size w' ∧ w0.heap.size ≤ g ∧ Only (fun _ => False) w0 w')) ⟨(List.toArray (u0 :: .slice (some ⟨q, o, none⟩) N c :: u2 :: u3 :: u4 :: u5 :: u6 :: u7 :: u8 :: u9 :: u10 :: .pointer (some ⟨p, 0, none⟩) :: u12 :: .int .i64 (k : Int) :: u14 :: u15 :: u16 :: u17 :: u18 :: u19 :: u20 :: u21 :: u22 :: u23 :: u24 :: u25 :: u26 :: u27 :: u28 :: u29 :: u30 :: u31 :: u32 :: u33 :: u34 :: u35 :: u36 :: u37 :: u38 :: u39 :: u40 :: u41 :: u42 :: u43 :: u44 :: u45 :: u46 :: u47 :: u48 :: u49 :: u50 :: u51 :: u52 :: u53 :: u54 :: u55 :: u56 :: u57 :: u58 :: u59 :: u60 :: u61 :: u62 :: u63 :: u64 :: u65 :: u66 :: u67 :: u68 :: u69 :: u70 :: u71 :: u72 :: u73 :: u74 :: u75 :: u76 :: u77 :: u78 :: u79 :: u80 :: u81 :: u82 :: u83 :: u84 :: u85 :: u86 :: u87 :: u88 :: u89 :: u90 :: u91 :: u92 :: u93 :: u94 :: u95 :: u96 :: u97 :: u98 :: u99 :: u100 :: u101 :: u102 :: u103 :: u104 :: u105 :: u106 :: u107 :: u108 :: u109 :: u110 :: u111 :: u112 :: u113 :: u114 :: u115 :: u116 :: u117 :: u118 :: u119 :: u120 :: u121 :: u122 :: u123 :: u124 :: u125 :: u126 :: u127 :: u128 :: u129 :: u130 :: u131 :: u132 :: u133 :: u134 :: u135 :: u136 :: u137 :: u138 :: u139 :: u140 :: u141 :: u142 :: u143 :: u144 :: u145 :: u146 :: u147 :: u148 :: u149 :: u150 :: u151 :: u152 :: u153 :: u154 :: u155 :: u156 :: u157 :: u158 :: u159 :: u160 :: u161 :: u162 :: u163 :: u164 :: u165 :: u166 :: u167 :: u168 :: u169 :: [])), []⟩ w0 := by
  conv => arg 2; whnf
  have hkI : (k : Int) < (N : Int) := by omega
  refine wp_region_posts plays12_A [5, 9, 10] [5, 6, 7, 9, 10] plays12_kill plays12_uses [10] [] [] []
      (some ?v0 :: some ?v1 :: some ?v2 :: some ?v3 :: some ?v4 :: none :: none :: none :: some (.int .i64 (rLook s L n : Int)) :: none :: none :: some ?v11 :: [])
      ?T (fun wx => Only (fun _ => False) w0 wx) ?W ?E (by kernel_rfl) (by kernel_rfl) (by kernel_rfl) (fun x => ?hT) ?hF ?hini (Reg.all_ops ?runs) ?pres ?fin
  case W => exact fun j x wz => match j with | 5 => ∃ v2, x 5 = .tuple #[rwV s v2, .int .i64 (rLook s L n : Int)] ∧ NewV s (rIn s L n) v v2 w0.heap.size wz | 6 => x 6 = x 5 | 7 => ∃ v2, x 7 = rwV s v2 ∧ x 5 = .tuple #[rwV s v2, .int .i64 (rLook s L n : Int)] | 9 => ∃ g, x 9 = ptr g ∧ Is wz g 30 #[.int .i64 0, .slice none 0 0] ∧ w0.heap.size ≤ g | 10 => ∃ g v2, x 9 = ptr g ∧ Is wz g 30 #[.int .i64 (s : Int), v2] ∧ NewV s (rIn s L n) v v2 w0.heap.size wz ∧ w0.heap.size ≤ g | _ => True
  case E => exact fun i wx wy => match i with | 10 => ∃ g, Is wx g 30 #[.int .i64 0, .slice none 0 0] ∧ Only (fun k => k = g) wx wy | _ => Only (fun _ => False) wx wy
  case hT =>
    simp only [Reg.fillV, Act.put, List.setIfInBounds_toArray, List.set_cons_zero, List.set_cons_succ]
    rfl
  case runs =>
    refine And.intro ?_ ?_
    · refine Reg.ob_pure (fun _ => rfl) rfl rfl rfl rfl (fun x w1 hF => ?_)
      have h1 := hP.only hF (by simp)
      have c0 := h1.cell 0
      have c1 := h1.cell 1
      simp at c0 c1
      go_simp
      with_reducible rfl
    refine And.intro ?_ ?_
    · refine Reg.ob_pure (fun _ => rfl) rfl rfl rfl rfl (fun x w1 hF => ?_)
      go_simp
      with_reducible rfl
    refine And.intro ?_ ?_
    · refine Reg.ob_pure (fun _ => rfl) rfl rfl rfl rfl (fun x w1 hF => ?_)
      go_simp
      with_reducible rfl
    refine And.intro ?_ ?_
    · refine Reg.ob_pure (fun _ => rfl) rfl rfl rfl rfl (fun x w1 hF => ?_)
      go_simp
      with_reducible rfl
    refine And.intro ?_ ?_
    · refine Reg.ob_pure (fun _ => rfl) rfl rfl rfl rfl (fun x w1 hF => ?_)
      have c0 := (hF.cell (p := ⟨q, o + k, none⟩) hqw (by simp)).trans hC
      go_simp
      with_reducible rfl
    refine And.intro ?_ ?_
    · refine Reg.ob_some (fun _ => rfl) rfl (fun x w1 hF hU K hK => ?_)
      have hF := hF rfl
      go_simp
      refine (rin_is s n v L w1 (hV.said hF) hl hs1 hs2 hLt hform).mono ?_
      rintro e w5 ⟨v2, rfl, h2, h3, h4, ho⟩
      exact hK _ w5 (fun _ _ _ => hF.trans ho (fun _ _ e => e)) ho ⟨v2, rfl, h2, h3, h4.imp id (fun h k hk => Nat.le_trans hF.size (h k hk))⟩
    refine And.intro ?_ ?_
    · refine Reg.ob_some (fun _ => rfl) rfl (fun x w1 hF hU K hK => ?_)
      go_simp
      exact hK _ _ (fun h => by cases h) rfl rfl
    refine And.intro ?_ ?_
    · refine Reg.ob_some (fun _ => rfl) rfl (fun x w1 hF hU K hK => ?_)
      obtain ⟨⟨v2, h5, -⟩, h6, -⟩ := hU
      have h6 : x 6 = x 5 := h6
      have h5 : x 5 = .tuple #[rwV s v2, .int .i64 (rLook s L n : Int)] := h5
      revert hK
      simp only [Nat.reduceAdd, h6, h5]
      intro hK
      go_simp
      exact hK _ _ (fun h => by cases h) rfl ⟨v2, rfl, h5⟩
    refine And.intro ?_ ?_
    · refine Reg.ob_told (fun _ => rfl) rfl (fun x w1 hF hU K hK => ?_)
      obtain ⟨⟨v2, h5, -⟩, h6, -⟩ := hU
      have h6 : x 6 = x 5 := h6
      have h5 : x 5 = .tuple #[rwV s v2, .int .i64 (rLook s L n : Int)] := h5
      revert hK
      simp only [Nat.reduceAdd, h6, h5]
      intro hK
      go_simp
      exact hK _ (fun h => by cases h) rfl trivial
    refine And.intro ?_ ?_
    · refine Reg.ob_some (fun _ => rfl) rfl (fun x w1 hF hU K hK => ?_)
      have hF := hF rfl
      go_simp
      have ho : Only (fun _ => False) w1 (w1.alloc (.cells #[.int .i64 0, .slice none 0 0] 30)) := (Only.refl _ _).alloc _
      exact hK _ _ (fun _ _ _ => hF.trans ho (fun _ _ e => e)) ho ⟨_, rfl, Is.made _ _ _, hF.size⟩
    refine And.intro ?_ ?_
    · refine Reg.ob_some (fun _ => rfl) rfl (fun x w1 hF hU K hK => ?_)
      have hF := hF rfl
      obtain ⟨⟨v2, h5, hnv⟩, ⟨v3, h7, h75⟩, ⟨g, h9, hg, hgw⟩, -⟩ := hU
      have h5 : x 5 = .tuple #[rwV s v2, .int .i64 (rLook s L n : Int)] := h5
      have h75 : x 5 = .tuple #[rwV s v3, .int .i64 (rLook s L n : Int)] := h75
      obtain rfl : v2 = v3 := by rw [h5] at h75; simpa using h75
      have h7 : x 7 = rwV s v2 := h7
      have h9 : x 9 = ptr g := h9
      have hg : Is w1 g 30 #[.int .i64 0, .slice none 0 0] := hg
      refine wp_store_row 30 _ _ rfl g #[.int .i64 (s : Int), v2] (by simpa [Act.eval] using h9) (by simpa [Act.eval] using h7) 30 _ hg Try.sizeRw rfl (by rcases hnv.2.1 with e | ⟨_, _, _, e⟩ <;> simp [e, Value.oneCell']) ?_
      have ho : Only (fun k => k = g) w1 (w1.setRow g #[.int .i64 (s : Int), v2]) := Only.setRow (S := fun k => k = g) (Only.refl _ w1) (fun _ => rfl) _
      exact hK undef _ (fun _ _ _ => hF.trans ho (fun i hi e => by omega)) ⟨g, hg, ho⟩ ⟨g, v2, h9, hg.setRow _, ⟨hnv.1.past hg (fun y => by simp) ho, hnv.2⟩, hgw⟩
    refine And.intro ?_ ?_
    · refine Reg.ob_pure (fun _ => rfl) rfl rfl rfl rfl (fun x w1 hF => ?_)
      go_simp
      with_reducible rfl
    exact trivial
  case hF =>
    exact onlyN w0 1
  case hini =>
    exact trivial
  case pres =>
    intro i hi j hj hc x wx wy hF hE hW
    simp only [List.mem_cons, List.mem_nil_iff, or_false] at hi hj
    rcases hi with rfl | rfl | rfl <;> rcases hj with rfl | rfl | rfl | rfl | rfl
    all_goals first | (exfalso; revert hc; decide) | skip
    all_goals first
      | (obtain ⟨g, h1, h2, h3⟩ := hW; exact ⟨g, h1, Is.only h2 hE (by simp), h3⟩)
      | (obtain ⟨v2, h1, h2⟩ := hW; exact ⟨v2, h1, Rd.said h2.1 hE, h2.2⟩)
      | (obtain ⟨g, h3, h4⟩ := hE; obtain ⟨v2, h1, h2⟩ := hW; exact ⟨v2, h1, Rd.past h2.1 h3 (by simp) h4, h2.2⟩)
      | exact hW
  case fin =>
    rintro x w9 hF hU
    obtain ⟨⟨g, v2, h9, hg, hnv, hgw⟩, -⟩ := hU
    repeat apply Exists.intro
    exact ⟨rfl, rfl, g, v2, h9, hg, hnv, hgw, hF rfl⟩

set_option maxRecDepth 100000 in
set_option maxHeartbeats 4000000 in
theorem plays12 (s n p q o k N c : Nat) (v : Value) (L : List Nat) (hl : L.length ≤ 1000) (hs1 : 1 ≤ s) (hs2 : s ≤ 1024) (hLt : ∀ x ∈ L, x < 18446744073709551616) (hform : v = .slice none 0 0 ∨ ∃ ad n c, v = .slice (some ad) n c) (hkN : k < N) (u0 u2 u3 u4 u5 u6 u7 u8 u9 u10 u12 u14 u15 u16 u17 u18 u19 u20 u21 u22 u23 u24 u25 u26 u27 u28 u29 u30 u31 u32 u33 u34 u35 u36 u37 u38 u39 u40 u41 u42 u43 u44 u45 u46 u47 u48 u49 u50 u51 u52 u53 u54 u55 u56 u57 u58 u59 u60 u61 u62 u63 u64 u65 u66 u67 u68 u69 u70 u71 u72 u73 u74 u75 u76 u77 u78 u79 u80 u81 u82 u83 u84 u85 u86 u87 u88 u89 u90 u91 u92 u93 u94 u95 u96 u97 u98 u99 u100 u101 u102 u103 u104 u105 u106 u107 u108 u109 u110 u111 u112 u113 u114 u115 u116 u117 u118 u119 u120 u121 u122 u123 u124 u125 u126 u127 u128 u129 u130 u131 u132 u133 u134 u135 u136 u137 u138 u139 u140 u141 u142 u143 u144 u145 u146 u147 u148 u149 u150 u151 u152 u153 u154 u155 u156 u157 u158 u159 u160 u161 u162 u163 u164 u165 u166 u167 u168 u169 : Value) (Q : Exit → Act → World → Prop) (w0 : World) (hP : Is w0 p 30 #[.int .i64 (s : Int), v]) (hV : Rd .u64 w0 v (nats L)) (hC : w0.cell? ⟨q, o + k, none⟩ = some (.int .u64 (n : Int))) (hqw : q < w0.heap.size)
    (hend : ∀ (y15 y61 y62 y63 y64 y65 y66 y67 y68 y69 : Value) (w' : World), (∃ g v2, y15 = ptr g ∧ Is w' g 30 #[.int .i64 (s : Int), v2] ∧ NewV s (rIn s L n) v v2 w0.heap.size w' ∧ w0.heap.size ≤ g ∧ Only (fun _ => False) w0 w') → Q .normal ⟨(List.toArray (u0 :: .slice (some ⟨q, o, none⟩) N c :: u2 :: u3 :: u4 :: u5 :: u6 :: u7 :: u8 :: u9 :: u10 :: .pointer (some ⟨p, 0, none⟩) :: u12 :: .int .i64 (k : Int) :: u14 :: y15 :: .int .i64 (rLook s L n : Int) :: u17 :: u18 :: u19 :: u20 :: u21 :: u22 :: u23 :: u24 :: u25 :: u26 :: u27 :: u28 :: u29 :: u30 :: u31 :: u32 :: u33 :: u34 :: u35 :: u36 :: u37 :: u38 :: u39 :: u40 :: u41 :: u42 :: u43 :: u44 :: u45 :: u46 :: u47 :: u48 :: u49 :: u50 :: u51 :: u52 :: u53 :: u54 :: u55 :: u56 :: u57 :: u58 :: u59 :: u60 :: y61 :: y62 :: y63 :: y64 :: y65 :: y66 :: y67 :: y68 :: y69 :: u70 :: u71 :: u72 :: u73 :: u74 :: u75 :: u76 :: u77 :: u78 :: u79 :: u80 :: u81 :: u82 :: u83 :: u84 :: u85 :: u86 :: u87 :: u88 :: u89 :: u90 :: u91 :: u92 :: u93 :: u94 :: u95 :: u96 :: u97 :: u98 :: u99 :: u100 :: u101 :: u102 :: u103 :: u104 :: u105 :: u106 :: u107 :: u108 :: u109 :: u110 :: u111 :: u112 :: u113 :: u114 :: u115 :: u116 :: u117 :: u118 :: u119 :: u120 :: u121 :: u122 :: u123 :: u124 :: u125 :: u126 :: u127 :: u128 :: u129 :: u130 :: u131 :: u132 :: u133 :: u134 :: u135 :: u136 :: u137 :: u138 :: u139 :: u140 :: u141 :: u142 :: u143 :: u144 :: u145 :: u146 :: u147 :: u148 :: u149 :: u150 :: u151 :: u152 :: u153 :: u154 :: u155 :: u156 :: u157 :: u158 :: u159 :: u160 :: u161 :: u162 :: u163 :: u164 :: u165 :: u166 :: u167 :: u168 :: u169 :: [])), []⟩ w') :
    Code.wp Try.prog plays12_code Q ⟨(List.toArray (u0 :: .slice (some ⟨q, o, none⟩) N c :: u2 :: u3 :: u4 :: u5 :: u6 :: u7 :: u8 :: u9 :: u10 :: .pointer (some ⟨p, 0, none⟩) :: u12 :: .int .i64 (k : Int) :: u14 :: u15 :: u16 :: u17 :: u18 :: u19 :: u20 :: u21 :: u22 :: u23 :: u24 :: u25 :: u26 :: u27 :: u28 :: u29 :: u30 :: u31 :: u32 :: u33 :: u34 :: u35 :: u36 :: u37 :: u38 :: u39 :: u40 :: u41 :: u42 :: u43 :: u44 :: u45 :: u46 :: u47 :: u48 :: u49 :: u50 :: u51 :: u52 :: u53 :: u54 :: u55 :: u56 :: u57 :: u58 :: u59 :: u60 :: u61 :: u62 :: u63 :: u64 :: u65 :: u66 :: u67 :: u68 :: u69 :: u70 :: u71 :: u72 :: u73 :: u74 :: u75 :: u76 :: u77 :: u78 :: u79 :: u80 :: u81 :: u82 :: u83 :: u84 :: u85 :: u86 :: u87 :: u88 :: u89 :: u90 :: u91 :: u92 :: u93 :: u94 :: u95 :: u96 :: u97 :: u98 :: u99 :: u100 :: u101 :: u102 :: u103 :: u104 :: u105 :: u106 :: u107 :: u108 :: u109 :: u110 :: u111 :: u112 :: u113 :: u114 :: u115 :: u116 :: u117 :: u118 :: u119 :: u120 :: u121 :: u122 :: u123 :: u124 :: u125 :: u126 :: u127 :: u128 :: u129 :: u130 :: u131 :: u132 :: u133 :: u134 :: u135 :: u136 :: u137 :: u138 :: u139 :: u140 :: u141 :: u142 :: u143 :: u144 :: u145 :: u146 :: u147 :: u148 :: u149 :: u150 :: u151 :: u152 :: u153 :: u154 :: u155 :: u156 :: u157 :: u158 :: u159 :: u160 :: u161 :: u162 :: u163 :: u164 :: u165 :: u166 :: u167 :: u168 :: u169 :: [])), []⟩ w0 := by
  refine wp_mono (plays12_in s n p q o k N c v L hl hs1 hs2 hLt hform hkN _ _ _ _ _ _ _ _ _ _ _ _ _ _ _ _ _ _ _ _ _ _ _ _ _ _ _ _ _ _ _ _ _ _ _ _ _ _ _ _ _ _ _ _ _ _ _ _ _ _ _ _ _ _ _ _ _ _ _ _ _ _ _ _ _ _ _ _ _ _ _ _ _ _ _ _ _ _ _ _ _ _ _ _ _ _ _ _ _ _ _ _ _ _ _ _ _ _ _ _ _ _ _ _ _ _ _ _ _ _ _ _ _ _ _ _ _ _ _ _ _ _ _ _ _ _ _ _ _ _ _ _ _ _ _ _ _ _ _ _ _ _ _ _ _ _ _ _ _ _ _ _ _ _ _ _ _ _ _ _ _ _ _ _ _ _ _ w0 hP hV hC hqw) ?_
  rintro e a w' h
  obtain ⟨y15, h⟩ := h
  obtain ⟨y61, h⟩ := h
  obtain ⟨y62, h⟩ := h
  obtain ⟨y63, h⟩ := h
  obtain ⟨y64, h⟩ := h
  obtain ⟨y65, h⟩ := h
  obtain ⟨y66, h⟩ := h
  obtain ⟨y67, h⟩ := h
  obtain ⟨y68, h⟩ := h
  obtain ⟨y69, h⟩ := h
  obtain ⟨h, rfl, hq⟩ := h
  subst h
  exact hend y15 y61 y62 y63 y64 y65 y66 y67 y68 y69 w' hq
def plays34_A : List (List Nat) := ([] :: [] :: [0, 1] :: [] :: [] :: [3, 4] :: [5, 3, 4] :: [2, 6, 0, 1, 5, 3, 4] :: [])
def plays34_kill : List (List Nat) := ([] :: [] :: [] :: [] :: [] :: [] :: [] :: [] :: [])
def plays34_uses : List (List Nat) := ([] :: [] :: [] :: [] :: [] :: [] :: [] :: [] :: [])
noncomputable def plays34_code : Code := ((Try.f3.body.bind (codeRegion 34)).getD .skip)
set_option maxRecDepth 100000 in
set_option maxHeartbeats 4000000 in
theorem plays34_in (b cb i : Nat) (m : Wm) (hi : i < 3) (u0 u1 u2 u3 u4 u5 u6 u7 u8 u10 u11 u13 u14 u15 u16 u17 u18 u19 u20 u21 u22 u23 u25 u26 u27 u28 u29 u30 u31 u32 u33 u34 u35 u36 u37 u38 u39 u40 u41 u42 u43 u44 u45 u46 u47 u48 u49 u50 u51 u52 u53 u54 u55 u56 u57 u58 u59 u60 u61 u62 u63 u64 u65 u66 u67 u68 u69 u70 u71 u72 u73 u74 u75 u76 u77 u78 u79 u80 u81 u82 u83 u84 u85 u86 u87 u88 u89 u90 u91 u92 u93 u94 u95 u96 u97 u98 u99 u100 u101 u102 u103 u104 u105 u106 u107 u108 u109 u110 u111 u112 u113 u114 u115 u116 u117 u118 u119 u120 u121 u122 u123 u124 u125 u126 u127 u128 u129 u130 u131 u132 u133 u134 u135 u136 u137 u138 u139 u140 u141 u142 u143 u144 u145 u146 u147 u148 u149 u150 u151 u152 u153 u154 u155 u156 u157 u158 u159 u160 u161 u162 u163 u164 u165 u166 u167 u168 u169 : Value) (w0 : World) (hWd : Wnd w0 b m) (hC : w0.cell? ⟨cb, i, none⟩ = some (.int .u64 (m.c i : Int))) (hcw : cb < w0.heap.size) :
    Code.wp Try.prog plays34_code (fun e a w' => ∃ y136 y137 y138 y139 y140 y141 y142 : Value, a = ⟨(List.toArray (u0 :: u1 :: u2 :: u3 :: u4 :: u5 :: u6 :: u7 :: u8 :: .pointer (some ⟨b, 0, none⟩) :: u10 :: u11 :: .slice (some ⟨cb, 0, none⟩) 3 3 :: u13 :: u14 :: u15 :: u16 :: u17 :: u18 :: u19 :: u20 :: u21 :: u22 :: u23 :: .int .i64 (i : Int) :: u25 :: u26 :: u27 :: u28 :: u29 :: u30 :: u31 :: u32 :: u33 :: u34 :: u35 :: u36 :: u37 :: u38 :: u39 :: u40 :: u41 :: u42 :: u43 :: u44 :: u45 :: u46 :: u47 :: u48 :: u49 :: u50 :: u51 :: u52 :: u53 :: u54 :: u55 :: u56 :: u57 :: u58 :: u59 :: u60 :: u61 :: u62 :: u63 :: u64 :: u65 :: u66 :: u67 :: u68 :: u69 :: u70 :: u71 :: u72 :: u73 :: u74 :: u75 :: u76 :: u77 :: u78 :: u79 :: u80 :: u81 :: u82 :: u83 :: u84 :: u85 :: u86 :: u87 :: u88 :: u89 :: u90 :: u91 :: u92 :: u93 :: u94 :: u95 :: u96 :: u97 :: u98 :: u99 :: u100 :: u101 :: u102 :: u103 :: u104 :: u105 :: u106 :: u107 :: u108 :: u109 :: u110 :: u111 :: u112 :: u113 :: u114 :: u115 :: u116 :: u117 :: u118 :: u119 :: u120 :: u121 :: u122 :: u123 :: u124 :: u125 :: u126 :: u127 :: u128 :: u129 :: u130 :: u131 :: u132 :: u133 :: u134 :: u135 :: y136 :: y137 :: y138 :: y139 :: y140 :: y141 :: y142 :: .bool false :: u144 :: u145 :: u146 :: u147 :: u148 :: u149 :: u150 :: u151 :: u152 :: u153 :: u154 :: u155 :: u156 :: u157 :: u158 :: u159 :: u160 :: u161 :: u162 :: u163 :: u164 :: u165 :: u166 :: u167 :: u168 :: u169 :: [])), []⟩ ∧ e = .normal ∧ Only (fun _ => False) w0 w') ⟨(List.toArray (u0 :: u1 :: u2 :: u3 :: u4 :: u5 :: u6 :: u7 :: u8 :: .pointer (some ⟨b, 0, none⟩) :: u10 :: u11 :: .slice (some ⟨cb, 0, none⟩) 3 3 :: u13 :: u14 :: u15 :: u16 :: u17 :: u18 :: u19 :: u20 :: u21 :: u22 :: u23 :: .int .i64 (i : Int) :: u25 :: u26 :: u27 :: u28 :: u29 :: u30 :: u31 :: u32 :: u33 :: u34 :: u35 :: u36 :: u37 :: u38 :: u39 :: u40 :: u41 :: u42 :: u43 :: u44 :: u45 :: u46 :: u47 :: u48 :: u49 :: u50 :: u51 :: u52 :: u53 :: u54 :: u55 :: u56 :: u57 :: u58 :: u59 :: u60 :: u61 :: u62 :: u63 :: u64 :: u65 :: u66 :: u67 :: u68 :: u69 :: u70 :: u71 :: u72 :: u73 :: u74 :: u75 :: u76 :: u77 :: u78 :: u79 :: u80 :: u81 :: u82 :: u83 :: u84 :: u85 :: u86 :: u87 :: u88 :: u89 :: u90 :: u91 :: u92 :: u93 :: u94 :: u95 :: u96 :: u97 :: u98 :: u99 :: u100 :: u101 :: u102 :: u103 :: u104 :: u105 :: u106 :: u107 :: u108 :: u109 :: u110 :: u111 :: u112 :: u113 :: u114 :: u115 :: u116 :: u117 :: u118 :: u119 :: u120 :: u121 :: u122 :: u123 :: u124 :: u125 :: u126 :: u127 :: u128 :: u129 :: u130 :: u131 :: u132 :: u133 :: u134 :: u135 :: u136 :: u137 :: u138 :: u139 :: u140 :: u141 :: u142 :: u143 :: u144 :: u145 :: u146 :: u147 :: u148 :: u149 :: u150 :: u151 :: u152 :: u153 :: u154 :: u155 :: u156 :: u157 :: u158 :: u159 :: u160 :: u161 :: u162 :: u163 :: u164 :: u165 :: u166 :: u167 :: u168 :: u169 :: [])), []⟩ w0 := by
  conv => arg 2; whnf
  have hiI : (i : Int) < 3 := by omega
  refine wp_region_posts plays34_A [2] [] plays34_kill plays34_uses [] [] [] []
      (some ?v0 :: some ?v1 :: some (.int .u64 (m.c i : Int)) :: some ?v3 :: some ?v4 :: some ?v5 :: some ?v6 :: some ?v7 :: [])
      ?T (fun wx => Only (fun _ => False) w0 wx) ?W ?E (by kernel_rfl) (by kernel_rfl) (by kernel_rfl) (fun x => ?hT) ?hF ?hini (Reg.all_ops ?runs) ?pres ?fin
  case W => exact fun j x wz => True
  case E => exact fun i wx wy => True
  case hT =>
    simp only [Reg.fillV, Act.put, List.setIfInBounds_toArray, List.set_cons_zero, List.set_cons_succ]
    rfl
  case runs =>
    refine And.intro ?_ ?_
    · refine Reg.ob_pure (fun _ => rfl) rfl rfl rfl rfl (fun x w1 hF => ?_)
      go_simp
      with_reducible rfl
    refine And.intro ?_ ?_
    · refine Reg.ob_pure (fun _ => rfl) rfl rfl rfl rfl (fun x w1 hF => ?_)
      go_simp
      with_reducible rfl
    refine And.intro ?_ ?_
    · refine Reg.ob_known (fun _ => rfl) rfl rfl (fun x w1 hF hU K hK => ?_)
      have hF := hF rfl
      go_simp
      refine (count_is b i m w1 (hWd.only hF (by simp)) hi).mono ?_
      rintro e w5 ⟨rfl, rfl⟩
      exact hK _ (fun _ _ _ => hF) trivial
    refine And.intro ?_ ?_
    · refine Reg.ob_pure (fun _ => rfl) rfl rfl rfl rfl (fun x w1 hF => ?_)
      go_simp
      with_reducible rfl
    refine And.intro ?_ ?_
    · refine Reg.ob_pure (fun _ => rfl) rfl rfl rfl rfl (fun x w1 hF => ?_)
      go_simp
      with_reducible rfl
    refine And.intro ?_ ?_
    · refine Reg.ob_pure (fun _ => rfl) rfl rfl rfl rfl (fun x w1 hF => ?_)
      go_simp
      with_reducible rfl
    refine And.intro ?_ ?_
    · refine Reg.ob_pure (fun _ => rfl) rfl rfl rfl rfl (fun x w1 hF => ?_)
      have c0 := (hF.cell (p := ⟨cb, i, none⟩) hcw (by simp)).trans hC
      go_simp
      with_reducible rfl
    refine And.intro ?_ ?_
    · refine Reg.ob_pure (fun _ => rfl) rfl rfl rfl rfl (fun x w1 hF => ?_)
      go_simp
      with_reducible rfl
    exact trivial
  case hF =>
    exact onlyN w0 1
  case hini =>
    exact trivial
  case pres =>
    intro i hi j hj hc x wx wy hF hE hW
    trivial
  case fin =>
    rintro x w9 hF hU
    repeat apply Exists.intro
    exact ⟨rfl, rfl, hF rfl⟩

set_option maxRecDepth 100000 in
set_option maxHeartbeats 4000000 in
theorem plays34 (b cb i : Nat) (m : Wm) (hi : i < 3) (u0 u1 u2 u3 u4 u5 u6 u7 u8 u10 u11 u13 u14 u15 u16 u17 u18 u19 u20 u21 u22 u23 u25 u26 u27 u28 u29 u30 u31 u32 u33 u34 u35 u36 u37 u38 u39 u40 u41 u42 u43 u44 u45 u46 u47 u48 u49 u50 u51 u52 u53 u54 u55 u56 u57 u58 u59 u60 u61 u62 u63 u64 u65 u66 u67 u68 u69 u70 u71 u72 u73 u74 u75 u76 u77 u78 u79 u80 u81 u82 u83 u84 u85 u86 u87 u88 u89 u90 u91 u92 u93 u94 u95 u96 u97 u98 u99 u100 u101 u102 u103 u104 u105 u106 u107 u108 u109 u110 u111 u112 u113 u114 u115 u116 u117 u118 u119 u120 u121 u122 u123 u124 u125 u126 u127 u128 u129 u130 u131 u132 u133 u134 u135 u136 u137 u138 u139 u140 u141 u142 u143 u144 u145 u146 u147 u148 u149 u150 u151 u152 u153 u154 u155 u156 u157 u158 u159 u160 u161 u162 u163 u164 u165 u166 u167 u168 u169 : Value) (Q : Exit → Act → World → Prop) (w0 : World) (hWd : Wnd w0 b m) (hC : w0.cell? ⟨cb, i, none⟩ = some (.int .u64 (m.c i : Int))) (hcw : cb < w0.heap.size)
    (hend : ∀ (y136 y137 y138 y139 y140 y141 y142 : Value) (w' : World), Only (fun _ => False) w0 w' → Q .normal ⟨(List.toArray (u0 :: u1 :: u2 :: u3 :: u4 :: u5 :: u6 :: u7 :: u8 :: .pointer (some ⟨b, 0, none⟩) :: u10 :: u11 :: .slice (some ⟨cb, 0, none⟩) 3 3 :: u13 :: u14 :: u15 :: u16 :: u17 :: u18 :: u19 :: u20 :: u21 :: u22 :: u23 :: .int .i64 (i : Int) :: u25 :: u26 :: u27 :: u28 :: u29 :: u30 :: u31 :: u32 :: u33 :: u34 :: u35 :: u36 :: u37 :: u38 :: u39 :: u40 :: u41 :: u42 :: u43 :: u44 :: u45 :: u46 :: u47 :: u48 :: u49 :: u50 :: u51 :: u52 :: u53 :: u54 :: u55 :: u56 :: u57 :: u58 :: u59 :: u60 :: u61 :: u62 :: u63 :: u64 :: u65 :: u66 :: u67 :: u68 :: u69 :: u70 :: u71 :: u72 :: u73 :: u74 :: u75 :: u76 :: u77 :: u78 :: u79 :: u80 :: u81 :: u82 :: u83 :: u84 :: u85 :: u86 :: u87 :: u88 :: u89 :: u90 :: u91 :: u92 :: u93 :: u94 :: u95 :: u96 :: u97 :: u98 :: u99 :: u100 :: u101 :: u102 :: u103 :: u104 :: u105 :: u106 :: u107 :: u108 :: u109 :: u110 :: u111 :: u112 :: u113 :: u114 :: u115 :: u116 :: u117 :: u118 :: u119 :: u120 :: u121 :: u122 :: u123 :: u124 :: u125 :: u126 :: u127 :: u128 :: u129 :: u130 :: u131 :: u132 :: u133 :: u134 :: u135 :: y136 :: y137 :: y138 :: y139 :: y140 :: y141 :: y142 :: .bool false :: u144 :: u145 :: u146 :: u147 :: u148 :: u149 :: u150 :: u151 :: u152 :: u153 :: u154 :: u155 :: u156 :: u157 :: u158 :: u159 :: u160 :: u161 :: u162 :: u163 :: u164 :: u165 :: u166 :: u167 :: u168 :: u169 :: [])), []⟩ w') :
    Code.wp Try.prog plays34_code Q ⟨(List.toArray (u0 :: u1 :: u2 :: u3 :: u4 :: u5 :: u6 :: u7 :: u8 :: .pointer (some ⟨b, 0, none⟩) :: u10 :: u11 :: .slice (some ⟨cb, 0, none⟩) 3 3 :: u13 :: u14 :: u15 :: u16 :: u17 :: u18 :: u19 :: u20 :: u21 :: u22 :: u23 :: .int .i64 (i : Int) :: u25 :: u26 :: u27 :: u28 :: u29 :: u30 :: u31 :: u32 :: u33 :: u34 :: u35 :: u36 :: u37 :: u38 :: u39 :: u40 :: u41 :: u42 :: u43 :: u44 :: u45 :: u46 :: u47 :: u48 :: u49 :: u50 :: u51 :: u52 :: u53 :: u54 :: u55 :: u56 :: u57 :: u58 :: u59 :: u60 :: u61 :: u62 :: u63 :: u64 :: u65 :: u66 :: u67 :: u68 :: u69 :: u70 :: u71 :: u72 :: u73 :: u74 :: u75 :: u76 :: u77 :: u78 :: u79 :: u80 :: u81 :: u82 :: u83 :: u84 :: u85 :: u86 :: u87 :: u88 :: u89 :: u90 :: u91 :: u92 :: u93 :: u94 :: u95 :: u96 :: u97 :: u98 :: u99 :: u100 :: u101 :: u102 :: u103 :: u104 :: u105 :: u106 :: u107 :: u108 :: u109 :: u110 :: u111 :: u112 :: u113 :: u114 :: u115 :: u116 :: u117 :: u118 :: u119 :: u120 :: u121 :: u122 :: u123 :: u124 :: u125 :: u126 :: u127 :: u128 :: u129 :: u130 :: u131 :: u132 :: u133 :: u134 :: u135 :: u136 :: u137 :: u138 :: u139 :: u140 :: u141 :: u142 :: u143 :: u144 :: u145 :: u146 :: u147 :: u148 :: u149 :: u150 :: u151 :: u152 :: u153 :: u154 :: u155 :: u156 :: u157 :: u158 :: u159 :: u160 :: u161 :: u162 :: u163 :: u164 :: u165 :: u166 :: u167 :: u168 :: u169 :: [])), []⟩ w0 := by
  refine wp_mono (plays34_in b cb i m hi _ _ _ _ _ _ _ _ _ _ _ _ _ _ _ _ _ _ _ _ _ _ _ _ _ _ _ _ _ _ _ _ _ _ _ _ _ _ _ _ _ _ _ _ _ _ _ _ _ _ _ _ _ _ _ _ _ _ _ _ _ _ _ _ _ _ _ _ _ _ _ _ _ _ _ _ _ _ _ _ _ _ _ _ _ _ _ _ _ _ _ _ _ _ _ _ _ _ _ _ _ _ _ _ _ _ _ _ _ _ _ _ _ _ _ _ _ _ _ _ _ _ _ _ _ _ _ _ _ _ _ _ _ _ _ _ _ _ _ _ _ _ _ _ _ _ _ _ _ _ _ _ _ _ _ _ _ _ _ _ _ _ _ _ _ _ _ w0 hWd hC hcw) ?_
  rintro e a w' h
  obtain ⟨y136, h⟩ := h
  obtain ⟨y137, h⟩ := h
  obtain ⟨y138, h⟩ := h
  obtain ⟨y139, h⟩ := h
  obtain ⟨y140, h⟩ := h
  obtain ⟨y141, h⟩ := h
  obtain ⟨y142, h⟩ := h
  obtain ⟨h, rfl, hq⟩ := h
  subst h
  exact hend y136 y137 y138 y139 y140 y141 y142 w' hq
end Go.Proofs.Ytllchikjdpoopaa
