/- reorder's law: works. Conditions: none. -/
import Derived.Test.YtdcclighccejhaaRoR
set_option linter.unusedVariables false
set_option linter.unusedSimpArgs false
namespace Go.Proofs.Ytdcclighccejhaa
open Go Go.RowKit

theorem Only.went {w w1 w2 : World} {b B : Nat} (h : Only (fun _ => False) w w1) (hb : w.heap.size ≤ b) (hB : w.heap.size ≤ B) (k : Only (fun k => k = b ∨ (B ≤ k ∧ ∃ cs, Is w1 k 79 cs)) w1 w2) : Only (fun _ => False) w w2 :=
  Only.trans h k (fun i hi e => by
    rcases e with e | ⟨e, -⟩
    · omega
    · omega)
/-- What a call has let go: the row of it. -/
def Outs (b B : Nat) (m : Bf) (l : List (Bool × Nat × Nat)) (vo : Value) (w w' : World) : Prop :=
  ∃ its : List It, its.map (fun x => (x.gap, x.a, x.z)) = l ∧ OwnS w' w.heap.size 62 14 vo (its.map It.cls) ∧ (∃ v' us', Bfr w' b m v' us' B) ∧ Only (fun k => k = b ∨ (B ≤ k ∧ ∃ cs, Is w k 79 cs)) w w'
theorem WentO.outs {b B : Nat} {m : Bf} {us : List V3} {j : Nat} {w w' : World} {vo : Value} (h : WentO b B m us j w w' vo) (hl : us.length = m.ws.length) : Outs b B (m.gone j) (itemsN m.nx (m.ws.take j)) vo w w' := by
  obtain ⟨h1, ⟨v', h2⟩, h3, h4⟩ := h
  exact ⟨_, itemsN_eq _ _ _ (by rw [List.length_take, List.length_take, hl]), h1, ⟨v', _, h2⟩, h4⟩
def wkOut (k : Nat) : List (Bool × Nat × Nat) := [[(false, 7, 7)], [], [(false, 8, 8), (false, 9, 9)], [], [], [(true, 10, 11), (false, 12, 12)]].getD k []
theorem wk_outs : ∀ k, k < 6 → itemsN ((wkM k).ins (wkX k)).nx (((wkM k).ins (wkX k)).ws.take (((wkM k).ins (wkX k)).goes (wkM k).much)) = wkOut k
  | 0, _ => rfl
  | 1, _ => rfl
  | 2, _ => rfl
  | 3, _ => rfl
  | 4, _ => rfl
  | 5, _ => rfl
  | k + 6, h => by omega
instance (m : Bf) (n : Nat) : Decidable (m.takes n) := by unfold Bf.takes; infer_instance
theorem wk_takes : ∀ k, k < 6 → (wkM k).takes (wkN k)
  | 0, _ => of_decide_eq_true rfl
  | 1, _ => of_decide_eq_true rfl
  | 2, _ => of_decide_eq_true rfl
  | 3, _ => of_decide_eq_true rfl
  | 4, _ => of_decide_eq_true rfl
  | 5, _ => of_decide_eq_true rfl
  | k + 6, h => by omega
theorem wk_nums : ∀ k, k < 6 → wkN k ≤ 15 ∧ wkAt k ≤ 3
  | 0, _ => by decide
  | 1, _ => by decide
  | 2, _ => by decide
  | 3, _ => by decide
  | 4, _ => by decide
  | 5, _ => by decide
  | k + 6, h => by omega
theorem wk_good : ∀ k, k ≤ 6 → (wkM k).Good
  | 0, _ => new_good (by decide) (by decide) (by decide)
  | k + 1, h => by
    have h1 := wk_nums k (by omega)
    exact in_good (wk_good k (by omega)) (wkX k) (by show wkN k ≤ _; omega) (by show wkAt k < _; omega) (wk_takes k (by omega))
/-- In of a packet by its number. -/
def InOuts (b B : Nat) (m : Bf) (l : List (Bool × Nat × Nat)) (w : World) (e : Ending) (w' : World) : Prop := ∃ vo, e = .returned (.tuple #[vo, .bool true]) ∧ Outs b B m l vo w w'
theorem wk_in (k b B g : Nat) (hk : k < 6) (v : Value) (us : List V3) (w : World) (h : Bfr w b (wkM k) v us B) (hBs : B ≤ w.heap.size) (hg : Is w g 5 #[.int .u8 ((wkN k % 256 : Nat) : Int), .int .u8 1]) :
    Calls Try.prog 16 #[ptr b, .int .u64 (wkN k : Int), .agg ((pkN (wkN k)).cls (.slice none 0 0) (.slice none 0 0) (.slice (some ⟨g, 0, none⟩) 2 2)), .int .u64 (wkAt k : Int)] w (InOuts b B (wkM (k + 1)) (wkOut k) w) := by
  have h1 := wk_nums k hk
  refine (rin_done b (wkN k) (wkAt k) B (pkN (wkN k)) _ _ _ (wkM k) v us w h (wk_good k (by omega)) (wk_takes k hk) (by omega) (by omega) hBs (Rd.nil _ _) (.inl rfl) (.inl ⟨rfl, rfl⟩) (GotN.src hg) ⟨by simp [pkN], by simp [pkN], by simp [pkN]⟩ ?_).mono ?_
  · rintro (e | e | e)
    · simp [Value.ownBlock] at e
    · simp [Value.ownBlock] at e
    · simp [Value.ownBlock] at e
      exact hg.apart h.is (by decide) e
  · rintro e w' ⟨vo, u, rfl, -, hw⟩
    have hpl := pos_le (wkM k) (wkX k).n
    have ho := hw.outs (by show _ = (insAt (wkM k).ws ((wkM k).pos (wkX k).n) _).length; rw [insAt_length _ _ _ hpl, insAt_length _ _ _ (by rw [h.pks.len]; exact hpl), h.pks.len])
    rw [show itemsN ((wkM k).ins ⟨wkN k, wkAt k, pkN (wkN k)⟩).nx (((wkM k).ins ⟨wkN k, wkAt k, pkN (wkN k)⟩).ws.take (((wkM k).ins ⟨wkN k, wkAt k, pkN (wkN k)⟩).goes (wkM k).much)) = wkOut k from wk_outs k hk] at ho
    exact ⟨vo, rfl, ho⟩
def rw10_A : List (List Nat) := ([] :: [] :: [] :: [2] :: [] :: [] :: [4, 5] :: [6, 4, 5] :: (0 :: 1 :: 3 :: 7 :: 2 :: 6 :: 4 :: 5 :: []) :: (8 :: 0 :: 1 :: 3 :: 7 :: 2 :: 6 :: 4 :: 5 :: []) :: (9 :: 8 :: 0 :: 1 :: 3 :: 7 :: 2 :: 6 :: 4 :: 5 :: []) :: (9 :: 8 :: 0 :: 1 :: 3 :: 7 :: 2 :: 6 :: 4 :: 5 :: []) :: (10 :: 8 :: 0 :: 1 :: 2 :: 3 :: 4 :: 5 :: 6 :: 7 :: 9 :: []) :: (11 :: 12 :: 0 :: 1 :: 2 :: 3 :: 4 :: 5 :: 6 :: 7 :: 8 :: 9 :: 10 :: []) :: [])
def rw10_kill : List (List Nat) := ([] :: [] :: [] :: [] :: [] :: [] :: [] :: [] :: [3] :: [] :: [] :: [] :: [] :: [] :: [])
def rw10_uses : List (List Nat) := ([] :: [] :: [] :: [] :: [] :: [] :: [] :: [] :: [3] :: [8] :: [9] :: [9] :: [10] :: [11] :: [])
noncomputable def rw10_code : Code := ((Try.f8.body.bind (codeRegion 10)).getD .skip)
set_option maxRecDepth 100000 in
set_option maxHeartbeats 4000000 in
theorem rw10_in (k b B gA : Nat) (hk : k < 6) (v : Value) (us : List V3) (w1 : World) (hB : Bfr w1 b (wkM k) v us B) (hA : Is w1 gA 22 #[.int .u64 0, .int .u64 0, .int .u64 1, .int .u64 2, .int .u64 3, .int .u64 3]) (hBs : B ≤ w1.heap.size) (u0 u2 u4 u7 u8 u9 u10 u11 u12 u13 u14 u15 u16 u17 u18 u19 u20 u21 u22 u23 u24 u25 u26 u27 u28 u29 u30 u31 u32 u33 u34 u35 u36 u37 u38 u39 u40 u41 u42 u43 u44 u45 u46 u47 u48 u49 u50 u51 u52 u53 u54 u55 u56 u57 u58 u59 u60 u61 u62 u63 u64 u65 u66 u67 u68 u69 u70 u71 u72 u73 u74 u75 u76 u77 u78 u79 u80 u81 u82 u83 u84 u85 u86 u87 u88 u89 u90 u91 u92 u93 u94 u95 u96 u97 u98 u99 u100 u101 u102 u103 u104 u105 u106 u107 u108 u109 u110 u111 u112 u113 u114 u115 u116 u117 u118 u119 u120 u121 u122 u123 u124 u125 u126 u127 u128 u129 u130 u131 u132 u133 u134 u135 u136 u137 u138 u139 : Value) (w0 : World) (hw0 : w1 = w0) :
    Code.wp Try.prog rw10_code (fun e a w' => ∃ y7 y29 y30 y31 y32 y33 y34 y35 y36 y37 y38 y39 y40 : Value, a = ⟨(List.toArray (u0 :: .pointer (some ⟨b, 0, none⟩) :: u2 :: .slice (some ⟨gA, 0, none⟩) 6 6 :: u4 :: .int .i64 (k : Int) :: .int .u64 (wkN k : Int) :: y7 :: .bool true :: u9 :: u10 :: u11 :: u12 :: u13 :: u14 :: u15 :: u16 :: u17 :: u18 :: u19 :: u20 :: u21 :: u22 :: u23 :: u24 :: u25 :: u26 :: u27 :: u28 :: y29 :: y30 :: y31 :: y32 :: y33 :: y34 :: y35 :: y36 :: y37 :: y38 :: y39 :: y40 :: u41 :: u42 :: u43 :: u44 :: u45 :: u46 :: u47 :: u48 :: u49 :: u50 :: u51 :: u52 :: u53 :: u54 :: u55 :: u56 :: u57 :: u58 :: u59 :: u60 :: u61 :: u62 :: u63 :: u64 :: u65 :: u66 :: u67 :: u68 :: u69 :: u70 :: u71 :: u72 :: u73 :: u74 :: u75 :: u76 :: u77 :: u78 :: u79 :: u80 :: u81 :: u82 :: u83 :: u84 :: u85 :: u86 :: u87 :: u88 :: u89 :: u90 :: u91 :: u92 :: u93 :: u94 :: u95 :: u96 :: u97 :: u98 :: u99 :: u100 :: u101 :: u102 :: u103 :: u104 :: u105 :: u106 :: u107 :: u108 :: u109 :: u110 :: u111 :: u112 :: u113 :: u114 :: u115 :: u116 :: u117 :: u118 :: u119 :: u120 :: u121 :: u122 :: u123 :: u124 :: u125 :: u126 :: u127 :: u128 :: u129 :: u130 :: u131 :: u132 :: u133 :: u134 :: u135 :: u136 :: u137 :: u138 :: u139 :: [])), []⟩ ∧ e = .normal ∧ (∃ w2, Only (fun _ => False) w1 w2 ∧ Outs b B (wkM (k + 1)) (wkOut k) y7 w2 w')) ⟨(List.toArray (u0 :: .pointer (some ⟨b, 0, none⟩) :: u2 :: .slice (some ⟨gA, 0, none⟩) 6 6 :: u4 :: .int .i64 (k : Int) :: .int .u64 (wkN k : Int) :: u7 :: u8 :: u9 :: u10 :: u11 :: u12 :: u13 :: u14 :: u15 :: u16 :: u17 :: u18 :: u19 :: u20 :: u21 :: u22 :: u23 :: u24 :: u25 :: u26 :: u27 :: u28 :: u29 :: u30 :: u31 :: u32 :: u33 :: u34 :: u35 :: u36 :: u37 :: u38 :: u39 :: u40 :: u41 :: u42 :: u43 :: u44 :: u45 :: u46 :: u47 :: u48 :: u49 :: u50 :: u51 :: u52 :: u53 :: u54 :: u55 :: u56 :: u57 :: u58 :: u59 :: u60 :: u61 :: u62 :: u63 :: u64 :: u65 :: u66 :: u67 :: u68 :: u69 :: u70 :: u71 :: u72 :: u73 :: u74 :: u75 :: u76 :: u77 :: u78 :: u79 :: u80 :: u81 :: u82 :: u83 :: u84 :: u85 :: u86 :: u87 :: u88 :: u89 :: u90 :: u91 :: u92 :: u93 :: u94 :: u95 :: u96 :: u97 :: u98 :: u99 :: u100 :: u101 :: u102 :: u103 :: u104 :: u105 :: u106 :: u107 :: u108 :: u109 :: u110 :: u111 :: u112 :: u113 :: u114 :: u115 :: u116 :: u117 :: u118 :: u119 :: u120 :: u121 :: u122 :: u123 :: u124 :: u125 :: u126 :: u127 :: u128 :: u129 :: u130 :: u131 :: u132 :: u133 :: u134 :: u135 :: u136 :: u137 :: u138 :: u139 :: [])), []⟩ w0 := by
  conv => arg 2; whnf
  subst hw0
  have HAT := Lib.hid (show (#[.int .u64 0, .int .u64 0, .int .u64 1, .int .u64 2, .int .u64 3, .int .u64 3] : Array Value)[k]? = some (.int .u64 (wkAt k : Int)) from by
    have : k = 0 ∨ k = 1 ∨ k = 2 ∨ k = 3 ∨ k = 4 ∨ k = 5 := by omega
    rcases this with rfl | rfl | rfl | rfl | rfl | rfl <;> rfl)
  have hkI : (k : Int) < 6 := by omega
  have hk6 : k < 6 := hk
  refine wp_region_posts rw10_A [3, 8] [3, 8, 9, 10, 11, 12, 13] rw10_kill rw10_uses [12, 13] [8] [0, 1, 2, 4, 5, 9, 10, 11, 12, 13] []
      (some ?v0 :: some ?v1 :: some ?v2 :: none :: some ?v4 :: some ?v5 :: some ?v6 :: some ?v7 :: none :: none :: none :: none :: none :: none :: [])
      ?T (fun wx => Bfr wx b (wkM k) v us B ∧ Is wx gA 22 #[.int .u64 0, .int .u64 0, .int .u64 1, .int .u64 2, .int .u64 3, .int .u64 3] ∧ Only (fun _ => False) w1 wx) ?W ?E (by kernel_rfl) (by kernel_rfl) (by kernel_rfl) (fun x => ?hT) ?hF ?hini (Reg.all_ops ?runs) ?pres ?fin
  case W => exact fun j x w' => match j with | 3 => ∃ g, x 3 = .agg ((pkN (wkN k)).cls (.slice none 0 0) (.slice none 0 0) (.slice (some ⟨g, 0, none⟩) 2 2)) ∧ Is w' g 5 #[.int .u8 ((wkN k % 256 : Nat) : Int), .int .u8 1] | 8 => ∃ vo w2, x 8 = .tuple #[vo, .bool true] ∧ Only (fun _ => False) w1 w2 ∧ Outs b B (wkM (k + 1)) (wkOut k) vo w2 w' | 9 => ∃ vo w2, x 9 = .tuple #[vo, .bool true] ∧ Only (fun _ => False) w1 w2 ∧ Outs b B (wkM (k + 1)) (wkOut k) vo w2 w' | 10 => ∃ vo w2, x 10 = vo ∧ Only (fun _ => False) w1 w2 ∧ Outs b B (wkM (k + 1)) (wkOut k) vo w2 w' | 11 => x 11 = .bool true | 12 => ∃ vo w2, x 12 = vo ∧ Only (fun _ => False) w1 w2 ∧ Outs b B (wkM (k + 1)) (wkOut k) vo w2 w' | 13 => x 13 = .bool true | _ => True
  case E => exact fun i wx wy => match i with | 3 => Only (fun _ => False) wx wy | _ => True
  case hT =>
    simp only [Reg.fillV, Act.put, List.setIfInBounds_toArray, List.set_cons_zero, List.set_cons_succ]
    rfl
  case runs =>
    refine And.intro ?_ ?_
    · refine Reg.ob_bare (fun _ => rfl) rfl rfl rfl (fun x w1x => ?_)
      go_simp
      with_reducible rfl
    refine And.intro ?_ ?_
    · refine Reg.ob_bare (fun _ => rfl) rfl rfl rfl (fun x w1x => ?_)
      go_simp
      with_reducible rfl
    refine And.intro ?_ ?_
    · refine Reg.ob_bare (fun _ => rfl) rfl rfl rfl (fun x w1x => ?_)
      go_simp
      with_reducible rfl
    refine And.intro ?_ ?_
    · refine Reg.ob_some (fun _ => rfl) rfl (fun x w1x hF hU K hK => ?_)
      replace hF := hF rfl
      go_simp
      refine (packet_is (wkN k) _).mono ?_
      rintro e w5 ⟨g, rfl, -, hI, ho⟩
      exact hK _ w5 (fun _ _ _ => ⟨hF.1.pure ho, hF.2.1.only ho (by simp), hF.2.2.trans ho (fun _ _ e => e)⟩) ho ⟨g, rfl, hI⟩
    refine And.intro ?_ ?_
    · refine Reg.ob_bare (fun _ => rfl) rfl rfl rfl (fun x w1x => ?_)
      go_simp
      with_reducible rfl
    refine And.intro ?_ ?_
    · refine Reg.ob_bare (fun _ => rfl) rfl rfl rfl (fun x w1x => ?_)
      go_simp
      with_reducible rfl
    refine And.intro ?_ ?_
    · refine Reg.ob_pure (fun _ => rfl) rfl rfl rfl rfl (fun x w1x hF => ?_)
      have ca : w1x.cell? ⟨gA, k, none⟩ = some (.int .u64 (wkAt k : Int)) := (by rw [hF.2.1.cell]; exact HAT.out)
      go_simp
      with_reducible rfl
    refine And.intro ?_ ?_
    · refine Reg.ob_pure (fun _ => rfl) rfl rfl rfl rfl (fun x w1x hF => ?_)
      have ca : w1x.cell? ⟨gA, k, none⟩ = some (.int .u64 (wkAt k : Int)) := (by rw [hF.2.1.cell]; exact HAT.out)
      go_simp
      with_reducible rfl
    refine And.intro ?_ ?_
    · refine Reg.ob_some (fun _ => rfl) rfl (fun x w1x hF hU K hK => ?_)
      replace hF := hF rfl
      obtain ⟨⟨g, hx, hI⟩, -⟩ := hU
      have hx : x 3 = .agg ((pkN (wkN k)).cls (.slice none 0 0) (.slice none 0 0) (.slice (some ⟨g, 0, none⟩) 2 2)) := hx
      have HT := Lib.hid (wk_in k b B g hk v us w1x hF.1 (Nat.le_trans hBs hF.2.2.size) hI)
      revert hK
      simp only [Nat.reduceAdd, hx]
      intro hK
      go_simp
      refine HT.out.mono ?_
      rintro e w5 ⟨vo, rfl, ho⟩
      exact hK _ w5 (fun _ h h' => by first | exact absurd h (by decide) | exact absurd h' (by decide)) trivial ⟨vo, w1x, rfl, hF.2.2, ho⟩
    refine And.intro ?_ ?_
    · refine Reg.ob_some (fun _ => rfl) rfl (fun x w1x hF hU K hK => ?_)
      obtain ⟨⟨vo, w2, hx, hq⟩, -⟩ := hU
      have hx : x 8 = .tuple #[vo, .bool true] := hx
      revert hK
      simp only [Nat.reduceAdd, hx]
      intro hK
      go_simp
      exact hK _ _ (fun h _ _ => absurd h (by decide)) rfl ⟨vo, w2, rfl, hq⟩
    refine And.intro ?_ ?_
    · refine Reg.ob_some (fun _ => rfl) rfl (fun x w1x hF hU K hK => ?_)
      obtain ⟨⟨vo, w2, hx, hq⟩, -⟩ := hU
      have hx : x 9 = .tuple #[vo, .bool true] := hx
      revert hK
      simp only [Nat.reduceAdd, hx]
      intro hK
      go_simp
      exact hK _ _ (fun h _ _ => absurd h (by decide)) rfl ⟨vo, w2, rfl, hq⟩
    refine And.intro ?_ ?_
    · refine Reg.ob_some (fun _ => rfl) rfl (fun x w1x hF hU K hK => ?_)
      obtain ⟨⟨vo, w2, hx, hq⟩, -⟩ := hU
      have hx : x 9 = .tuple #[vo, .bool true] := hx
      revert hK
      simp only [Nat.reduceAdd, hx]
      intro hK
      go_simp
      exact hK _ _ (fun h _ _ => absurd h (by decide)) rfl (by first | rfl | trivial)
    refine And.intro ?_ ?_
    · refine Reg.ob_some (fun _ => rfl) rfl (fun x w1x hF hU K hK => ?_)
      obtain ⟨⟨vo, w2, hx, hq⟩, -⟩ := hU
      have hx : x 10 = vo := hx
      revert hK
      simp only [Nat.reduceAdd, hx]
      intro hK
      go_simp
      exact hK _ _ (fun h _ _ => absurd h (by decide)) rfl ⟨vo, w2, rfl, hq⟩
    refine And.intro ?_ ?_
    · refine Reg.ob_some (fun _ => rfl) rfl (fun x w1x hF hU K hK => ?_)
      obtain ⟨hx, -⟩ := hU
      have hx : x 11 = .bool true := hx
      revert hK
      simp only [Nat.reduceAdd, hx]
      intro hK
      go_simp
      exact hK _ _ (fun h _ _ => absurd h (by decide)) rfl (by first | rfl | trivial)
    exact trivial
  case hF =>
    exact ⟨hB.pure ((Only.refl _ _).drewN 1), hA.only ((Only.refl (fun _ => False) _).drewN 1) (by simp), (Only.refl _ _).drewN 1⟩
  case hini =>
    exact trivial
  case pres =>
    intro i hi j hj hc x wx wy hF hE hW
    simp only [List.mem_cons, List.mem_nil_iff, or_false] at hi hj
    rcases hi with rfl | rfl <;> rcases hj with rfl | rfl | rfl | rfl | rfl | rfl | rfl
    all_goals first
      | (exfalso; revert hc; decide)
      | exact hW
  case fin =>
    rintro x w9 hF hU
    obtain ⟨⟨vo, w2, hx, hq⟩, hx2, -⟩ := hU
    have hx : x 12 = vo := hx
    have hx2 : x 13 = .bool true := hx2
    simp only [Nat.reduceAdd, hx, hx2]
    repeat apply Exists.intro
    first | exact ⟨rfl, trivial, w2, hq⟩ | exact ⟨trivial, rfl, w2, hq⟩ | exact ⟨rfl, w2, hq⟩

set_option maxRecDepth 100000 in
set_option maxHeartbeats 4000000 in
theorem rw10 (k b B gA : Nat) (hk : k < 6) (v : Value) (us : List V3) (w1 : World) (hB : Bfr w1 b (wkM k) v us B) (hA : Is w1 gA 22 #[.int .u64 0, .int .u64 0, .int .u64 1, .int .u64 2, .int .u64 3, .int .u64 3]) (hBs : B ≤ w1.heap.size) (u0 u2 u4 u7 u8 u9 u10 u11 u12 u13 u14 u15 u16 u17 u18 u19 u20 u21 u22 u23 u24 u25 u26 u27 u28 u29 u30 u31 u32 u33 u34 u35 u36 u37 u38 u39 u40 u41 u42 u43 u44 u45 u46 u47 u48 u49 u50 u51 u52 u53 u54 u55 u56 u57 u58 u59 u60 u61 u62 u63 u64 u65 u66 u67 u68 u69 u70 u71 u72 u73 u74 u75 u76 u77 u78 u79 u80 u81 u82 u83 u84 u85 u86 u87 u88 u89 u90 u91 u92 u93 u94 u95 u96 u97 u98 u99 u100 u101 u102 u103 u104 u105 u106 u107 u108 u109 u110 u111 u112 u113 u114 u115 u116 u117 u118 u119 u120 u121 u122 u123 u124 u125 u126 u127 u128 u129 u130 u131 u132 u133 u134 u135 u136 u137 u138 u139 : Value) (Q : Exit → Act → World → Prop) (w0 : World) (hw0 : w1 = w0)
    (hend : ∀ (y7 y29 y30 y31 y32 y33 y34 y35 y36 y37 y38 y39 y40 : Value) (w' : World), (∃ w2, Only (fun _ => False) w1 w2 ∧ Outs b B (wkM (k + 1)) (wkOut k) y7 w2 w') → Q .normal ⟨(List.toArray (u0 :: .pointer (some ⟨b, 0, none⟩) :: u2 :: .slice (some ⟨gA, 0, none⟩) 6 6 :: u4 :: .int .i64 (k : Int) :: .int .u64 (wkN k : Int) :: y7 :: .bool true :: u9 :: u10 :: u11 :: u12 :: u13 :: u14 :: u15 :: u16 :: u17 :: u18 :: u19 :: u20 :: u21 :: u22 :: u23 :: u24 :: u25 :: u26 :: u27 :: u28 :: y29 :: y30 :: y31 :: y32 :: y33 :: y34 :: y35 :: y36 :: y37 :: y38 :: y39 :: y40 :: u41 :: u42 :: u43 :: u44 :: u45 :: u46 :: u47 :: u48 :: u49 :: u50 :: u51 :: u52 :: u53 :: u54 :: u55 :: u56 :: u57 :: u58 :: u59 :: u60 :: u61 :: u62 :: u63 :: u64 :: u65 :: u66 :: u67 :: u68 :: u69 :: u70 :: u71 :: u72 :: u73 :: u74 :: u75 :: u76 :: u77 :: u78 :: u79 :: u80 :: u81 :: u82 :: u83 :: u84 :: u85 :: u86 :: u87 :: u88 :: u89 :: u90 :: u91 :: u92 :: u93 :: u94 :: u95 :: u96 :: u97 :: u98 :: u99 :: u100 :: u101 :: u102 :: u103 :: u104 :: u105 :: u106 :: u107 :: u108 :: u109 :: u110 :: u111 :: u112 :: u113 :: u114 :: u115 :: u116 :: u117 :: u118 :: u119 :: u120 :: u121 :: u122 :: u123 :: u124 :: u125 :: u126 :: u127 :: u128 :: u129 :: u130 :: u131 :: u132 :: u133 :: u134 :: u135 :: u136 :: u137 :: u138 :: u139 :: [])), []⟩ w') :
    Code.wp Try.prog rw10_code Q ⟨(List.toArray (u0 :: .pointer (some ⟨b, 0, none⟩) :: u2 :: .slice (some ⟨gA, 0, none⟩) 6 6 :: u4 :: .int .i64 (k : Int) :: .int .u64 (wkN k : Int) :: u7 :: u8 :: u9 :: u10 :: u11 :: u12 :: u13 :: u14 :: u15 :: u16 :: u17 :: u18 :: u19 :: u20 :: u21 :: u22 :: u23 :: u24 :: u25 :: u26 :: u27 :: u28 :: u29 :: u30 :: u31 :: u32 :: u33 :: u34 :: u35 :: u36 :: u37 :: u38 :: u39 :: u40 :: u41 :: u42 :: u43 :: u44 :: u45 :: u46 :: u47 :: u48 :: u49 :: u50 :: u51 :: u52 :: u53 :: u54 :: u55 :: u56 :: u57 :: u58 :: u59 :: u60 :: u61 :: u62 :: u63 :: u64 :: u65 :: u66 :: u67 :: u68 :: u69 :: u70 :: u71 :: u72 :: u73 :: u74 :: u75 :: u76 :: u77 :: u78 :: u79 :: u80 :: u81 :: u82 :: u83 :: u84 :: u85 :: u86 :: u87 :: u88 :: u89 :: u90 :: u91 :: u92 :: u93 :: u94 :: u95 :: u96 :: u97 :: u98 :: u99 :: u100 :: u101 :: u102 :: u103 :: u104 :: u105 :: u106 :: u107 :: u108 :: u109 :: u110 :: u111 :: u112 :: u113 :: u114 :: u115 :: u116 :: u117 :: u118 :: u119 :: u120 :: u121 :: u122 :: u123 :: u124 :: u125 :: u126 :: u127 :: u128 :: u129 :: u130 :: u131 :: u132 :: u133 :: u134 :: u135 :: u136 :: u137 :: u138 :: u139 :: [])), []⟩ w0 := by
  refine wp_mono (rw10_in k b B gA hk v us w1 hB hA hBs _ _ _ _ _ _ _ _ _ _ _ _ _ _ _ _ _ _ _ _ _ _ _ _ _ _ _ _ _ _ _ _ _ _ _ _ _ _ _ _ _ _ _ _ _ _ _ _ _ _ _ _ _ _ _ _ _ _ _ _ _ _ _ _ _ _ _ _ _ _ _ _ _ _ _ _ _ _ _ _ _ _ _ _ _ _ _ _ _ _ _ _ _ _ _ _ _ _ _ _ _ _ _ _ _ _ _ _ _ _ _ _ _ _ _ _ _ _ _ _ _ _ _ _ _ _ _ _ _ _ _ _ _ _ _ _ w0 hw0) ?_
  rintro e a w' h
  obtain ⟨y7, h⟩ := h
  obtain ⟨y29, h⟩ := h
  obtain ⟨y30, h⟩ := h
  obtain ⟨y31, h⟩ := h
  obtain ⟨y32, h⟩ := h
  obtain ⟨y33, h⟩ := h
  obtain ⟨y34, h⟩ := h
  obtain ⟨y35, h⟩ := h
  obtain ⟨y36, h⟩ := h
  obtain ⟨y37, h⟩ := h
  obtain ⟨y38, h⟩ := h
  obtain ⟨y39, h⟩ := h
  obtain ⟨y40, h⟩ := h
  obtain ⟨h, rfl, hq⟩ := h
  subst h
  exact hend y7 y29 y30 y31 y32 y33 y34 y35 y36 y37 y38 y39 y40 w' hq
theorem outs_len {l : List (Bool × Nat × Nat)} {its : List It} (h : its.map (fun x => (x.gap, x.a, x.z)) = l) : its.length = l.length := by rw [← h, List.length_map]
theorem outs_slice {w : World} {B : Nat} {vo : Value} {l : List (Bool × Nat × Nat)} {its : List It} (h : its.map (fun x => (x.gap, x.a, x.z)) = l) (hs : OwnS w B 62 14 vo (its.map It.cls)) : ∃ A c, vo = .slice A l.length c ∧ l.length ≤ c := by
  obtain ⟨A, c, e, hc⟩ := hs.slice
  rw [List.length_map, outs_len h] at e hc
  exact ⟨A, c, e, hc⟩
/-- The cells of what goes. -/
theorem outs_cells {w : World} {B : Nat} {vo : Value} {l : List (Bool × Nat × Nat)} {its : List It} (h : its.map (fun x => (x.gap, x.a, x.z)) = l) (hs : OwnS w B 62 14 vo (its.map It.cls)) (hp : 0 < l.length) : ∃ g c, vo = .slice (some ⟨g, 0, none⟩) l.length c ∧ l.length ≤ c ∧
    ∀ (i : Nat) (gp : Bool) (a z : Nat), l[i]? = some (gp, a, z) → w.cell? ⟨g, i * 14, none⟩ = some (.bool gp) ∧ w.cell? ⟨g, i * 14 + 1, none⟩ = some (.int .u64 (a : Int)) ∧ w.cell? ⟨g, i * 14 + 2, none⟩ = some (.int .u64 (z : Int)) := by
  obtain ⟨g, c, e, hc, -, -, hcell⟩ := hs.at_ (by rw [List.length_map, outs_len h]; exact hp)
  rw [List.length_map, outs_len h] at e hc
  refine ⟨g, c, e, hc, fun i gp a z hi => ?_⟩
  rw [← h, List.getElem?_map] at hi
  cases hx : its[i]? with
  | none => rw [hx] at hi; simp at hi
  | some x =>
    rw [hx] at hi
    simp at hi
    obtain ⟨h1, h2, h3⟩ := hi
    have hm : (its.map It.cls)[i]? = some x.cls := by rw [List.getElem?_map, hx]; rfl
    refine ⟨?_, ?_, ?_⟩
    · have := hcell i 0 _ hm (by decide)
      rw [Nat.add_zero] at this
      rw [this, ← h1]
      rfl
    · rw [hcell i 1 _ hm (by decide), ← h2]
      rfl
    · rw [hcell i 2 _ hm (by decide), ← h3]
      rfl
theorem wk_many : ∀ k, k < 6 → (wkOut k).length = wkMany k
  | 0, _ => rfl
  | 1, _ => rfl
  | 2, _ => rfl
  | 3, _ => rfl
  | 4, _ => rfl
  | 5, _ => rfl
  | k + 6, h => by omega
theorem rtick_outs (b now B : Nat) (m : Bf) (v : Value) (us : List V3) (w : World) (h : Bfr w b m v us B) (hg : m.Good) (hnow : now < 18446744073709551616) :
    Calls Try.prog 13 #[ptr b, .int .u64 (now : Int)] w fun e w' => ∃ vo, e = .returned vo ∧ Outs b B (m.gone (m.goes (m.must now))) (itemsN m.nx (m.ws.take (m.goes (m.must now)))) vo w w' :=
  (rtick_is b now B m v us w h hg hnow).mono fun _ _ ⟨vo, he, hw⟩ => ⟨vo, he, hw.outs h.pks.len⟩
theorem wk_tick7 : (wkM 6).goes ((wkM 6).must 7) = 0 ∧ itemsN (wkM 6).nx ((wkM 6).ws.take 0) = [] := ⟨rfl, rfl⟩
theorem wk_tick8 : (wkM 6).goes ((wkM 6).must 8) = 2 ∧ itemsN (wkM 6).nx ((wkM 6).ws.take 2) = [(true, 13, 13), (false, 14, 14), (false, 15, 15)] := ⟨rfl, rfl⟩
/-- The end. -/
def Works (w : World) (e : Ending) (w' : World) : Prop := e = .returned (.bool true) ∧ Only (fun _ => False) w w'
set_option maxRecDepth 100000 in
set_option maxHeartbeats 4000000 in
theorem rworks_is (w : World) : Calls Try.prog 8 #[] w (Works w) := by
  have HN := Lib.hid (show Calls Try.prog 9 #[.int .i64 2, .int .u64 5] w (Made 2 5 w) from new_yes 2 5 w (by decide) (by decide))
  go_enter Try.func8, Try.ntmps8
  go_wp2_with fail
  refine HN.out.mono ?_
  rintro e w1 ⟨b, rfl, hB, hb, ho⟩
  have HB := Lib.hid hB
  have HO := Lib.hid ho
  have HBB := Lib.hid hb
  clear HN hB ho hb
  go_wp2
  generalize hw2 : World.alloc (World.alloc w1 _) _ = w2
  have IA := Lib.hid (show Is w2 w1.heap.size 22 #[.int .u64 0, .int .u64 0, .int .u64 1, .int .u64 2, .int .u64 3, .int .u64 3] from by rw [← hw2]; exact (Is.made w1 _ _).alloc _)
  have IM := Lib.hid (show Is w2 (w1.heap.size + 1) 3 #[.int .i64 1, .int .i64 0, .int .i64 2, .int .i64 0, .int .i64 0, .int .i64 2] from by
    rw [← hw2]
    have := Is.made (w1.alloc (.cells #[.int .u64 0, .int .u64 0, .int .u64 1, .int .u64 2, .int .u64 3, .int .u64 3] 22)) 3 #[.int .i64 1, .int .i64 0, .int .i64 2, .int .i64 0, .int .i64 0, .int .i64 2]
    rw [World.size_alloc] at this
    exact this)
  have B2 := Lib.hid (show Bfr w2 b (wkM 0) (.slice none 0 0) [] w.heap.size from by rw [← hw2]; exact HB.out.pure (((Only.refl _ w1).alloc _).alloc _))
  have O2 := Lib.hid (show Only (fun _ => False) w w2 from by rw [← hw2]; exact (HO.out.alloc _).alloc _)
  obtain ⟨gA, hgA⟩ : ∃ gA, w1.heap.size = gA := ⟨_, rfl⟩
  obtain ⟨gM, hgM⟩ : ∃ gM, w1.heap.size + 1 = gM := ⟨_, rfl⟩
  rw [hgM] at IM ⊢
  rw [hgA] at IA ⊢
  clear hw2 hgA hgM HB HO
  go_loopw [5] (fun s5 wr => ∃ (k : Nat) (v : Value) (us : List V3), k ≤ 6 ∧ s5 = .int .i64 (k : Int) ∧ Bfr wr b (wkM k) v us w.heap.size ∧ Is wr gA 22 #[.int .u64 0, .int .u64 0, .int .u64 1, .int .u64 2, .int .u64 3, .int .u64 3] ∧ Is wr gM 3 #[.int .i64 1, .int .i64 0, .int .i64 2, .int .i64 0, .int .i64 0, .int .i64 2] ∧ Only (fun _ => False) w wr) (fun s5 _ => 6 - (intOf s5).toNat)
  case atStart => exact ⟨0, _, _, by omega, rfl, B2.out, IA.out, IM.out, O2.out⟩
  case round =>
    obtain ⟨k, v, us, hk, rfl, hB, hA, hM, ho⟩ := hrel
    have HB := Lib.hid hB
    have HA := Lib.hid hA
    have HM := Lib.hid hM
    have HO := Lib.hid ho
    clear B2 IA IM O2 hB hA hM ho
    by_cases hlt : k < 6
    · have hkI : (k : Int) < 6 := by omega
      have hk6 : k = 0 ∨ k = 1 ∨ k = 2 ∨ k = 3 ∨ k = 4 ∨ k = 5 := by omega
      have cn : (#[.int .u64 7, .int .u64 9, .int .u64 8, .int .u64 12, .int .u64 14, .int .u64 15] : Array Value)[k]? = some (.int .u64 (wkN k : Int)) := by rcases hk6 with rfl | rfl | rfl | rfl | rfl | rfl <;> rfl
      have cm0 : (#[.int .i64 1, .int .i64 0, .int .i64 2, .int .i64 0, .int .i64 0, .int .i64 2] : Array Value)[k]? = some (.int .i64 (wkMany k : Int)) := by rcases hk6 with rfl | rfl | rfl | rfl | rfl | rfl <;> rfl
      have HN0 := Lib.hid (fun (o : Obj) (ho : o = .cells #[.int .u64 7, .int .u64 9, .int .u64 8, .int .u64 12, .int .u64 14, .int .u64 15] 22) => show (wr.alloc o).cell? ⟨wr.heap.size, k, none⟩ = some (.int .u64 (wkN k : Int)) from by rw [ho, (Is.made wr _ _).cell]; exact cn)
      have c1 := HN0.out _ rfl
      have CM := Lib.hid cm0
      clear hk6 cn cm0
      go_upto_region 10 with (fail)
      generalize hw3 : World.alloc wr _ = w3
      have O3 := Lib.hid (show Only (fun _ => False) wr w3 from by rw [← hw3]; exact (Only.refl _ wr).alloc _)
      clear hw3 c1 HN0
      refine rw10 k b w.heap.size gA hlt v us w3 (HB.out.pure O3.out) (HA.out.only O3.out (by simp)) (Nat.le_trans HO.out.size O3.out.size) _ _ _ _ _ _ _ _ _ _ _ _ _ _ _ _ _ _ _ _ _ _ _ _ _ _ _ _ _ _ _ _ _ _ _ _ _ _ _ _ _ _ _ _ _ _ _ _ _ _ _ _ _ _ _ _ _ _ _ _ _ _ _ _ _ _ _ _ _ _ _ _ _ _ _ _ _ _ _ _ _ _ _ _ _ _ _ _ _ _ _ _ _ _ _ _ _ _ _ _ _ _ _ _ _ _ _ _ _ _ _ _ _ _ _ _ _ _ _ _ _ _ _ _ _ _ _ _ _ _ _ _ _ _ _ _ _ w3 rfl ?_
      rintro vo y29 y30 y31 y32 y33 y34 y35 y36 y37 y38 y39 y40 w5 ⟨w4, ho4, its, hits, hS, ⟨v5, us5, hB5⟩, ho5⟩
      have HB5 := Lib.hid hB5
      have O5 := Lib.hid (show Only (fun _ => False) w w5 from (HO.out.trans (O3.out.trans ho4 (fun _ _ e => e)) (fun _ _ e => e)).went (by rw [HBB.out]; exact Nat.le_refl _) (Nat.le_refl _) ho5)
      have keep : ∀ (q : Nat) (U : TypeId) (cs : Array Value), Is wr q U cs → U ≠ 79 → U ≠ 65 → Is w5 q U cs := fun q U cs hI h1 h2 => by
        have h4 := (hI.only O3.out (by simp)).only ho4 (by simp)
        refine h4.only ho5 (fun e => ?_)
        rcases e with e | ⟨-, ds, e⟩
        · exact h4.apart (((HB.out.pure O3.out).pure ho4).is) h2 e
        · exact h4.apart e h1 rfl
      have HA5 := Lib.hid (keep _ _ _ HA.out (by decide) (by decide))
      have HM5 := Lib.hid (keep _ _ _ HM.out (by decide) (by decide))
      have cm : w5.cell? ⟨gM, k, none⟩ = some (.int .i64 (wkMany k : Int)) := by rw [HM5.out.cell]; exact CM.out
      have HS := Lib.hid hS
      have HIT := Lib.hid hits
      clear hB5 ho4 ho5 keep hS hits HB HA HM HO O3
      by_cases h5 : k = 5
      · subst h5
        obtain ⟨g, c, rfl, hc, hcell⟩ := outs_cells HIT.out HS.out (by decide)
        obtain ⟨d0, d1, d2⟩ := hcell 0 true 10 11 rfl
        obtain ⟨-, d4, -⟩ := hcell 1 false 12 12 rfl
        simp at d0 d1 d2 d4
        rw [show (wkOut 5).length = 2 from rfl] at hc ⊢
        clear hcell
        go_wp2
        go_roundw
        case rel => repeat apply Exists.intro
                    exact ⟨⟨6, v5, us5, by omega, rfl, HB5.out, HA5.out, HM5.out, O5.out⟩, rfl⟩
        case measure => simp [intOf]
      · have h5I : ¬ (k : Int) = 5 := by omega
        obtain ⟨A, c, rfl, hc⟩ := outs_slice HIT.out HS.out
        rw [wk_many k hlt]
        go_wp2
        go_roundw
        case rel => repeat apply Exists.intro
                    exact ⟨⟨k + 1, v5, us5, by omega, by go_num, HB5.out, HA5.out, HM5.out, O5.out⟩, rfl⟩
        case measure => simp [intOf]; omega
    · obtain rfl : k = 6 := by omega
      have hG6 := wk_good 6 (by omega)
      go_wp2_with fail
      refine (rtick_outs b 7 w.heap.size (wkM 6) v us wr HB.out hG6 (by decide)).mono ?_
      rintro e w2 ⟨v7, rfl, its7, hi7, hs7, ⟨v2, us2, hB2⟩, ho7⟩
      rw [wk_tick7.1] at hi7 hB2
      rw [wk_tick7.2] at hi7
      rw [Bf.gone_zero] at hB2
      obtain ⟨A7, c7, rfl, -⟩ := outs_slice hi7 hs7
      have B7 := Lib.hid hB2
      have O7 := Lib.hid (HO.out.went (by rw [HBB.out]; exact Nat.le_refl _) (Nat.le_refl _) ho7)
      clear hi7 hs7 ho7 hB2
      go_wp2_with fail
      refine (rtick_outs b 8 w.heap.size (wkM 6) v2 us2 w2 B7.out hG6 (by decide)).mono ?_
      rintro e w3 ⟨v8, rfl, its8, hi8, hs8, ⟨v3, us3, hB3⟩, ho8⟩
      rw [wk_tick8.1] at hi8 hB3
      rw [wk_tick8.2] at hi8
      obtain ⟨g8, c8, rfl, hc8, hcell⟩ := outs_cells hi8 hs8 (by decide)
      have HC8 := Lib.hid hcell
      have B8 := Lib.hid hB3
      have O8 := Lib.hid (O7.out.went (by rw [HBB.out]; exact Nat.le_refl _) (Nat.le_refl _) ho8)
      clear hi8 hs8 ho8 hB3 hcell
      go_wp2_with fail
      refine (packet_is 13 _).mono ?_
      rintro e w4 ⟨g4, rfl, -, -, ho4⟩
      have O4 := Lib.hid ho4
      clear ho4
      go_wp2_with fail
      refine (rin_no b 13 8 w.heap.size _ rfl ((wkM 6).gone 2) v3 us3 w4 (B8.out.pure O4.out) (by rw [← wk_tick8.1]; exact goes_good hG6 _) (of_decide_eq_true rfl)).mono ?_
      rintro e w5 ⟨rfl, ho5⟩
      have O45 := Lib.hid (O4.out.trans ho5 (fun _ _ e => e))
      have keep8 : ∀ (q : Nat) (z : Value), w3.cell? ⟨g8, q, none⟩ = some z → w5.cell? ⟨g8, q, none⟩ = some z := fun q z h => grown_cell O45.out h (World.block_lt_of_cell? w3 ⟨g8, q, none⟩ h)
      obtain ⟨d0, d1, d2⟩ := HC8.out 0 true 13 13 rfl
      obtain ⟨-, d4, -⟩ := HC8.out 1 false 14 14 rfl
      obtain ⟨-, d5, -⟩ := HC8.out 2 false 15 15 rfl
      replace d0 := keep8 _ _ d0
      replace d1 := keep8 _ _ d1
      replace d2 := keep8 _ _ d2
      replace d4 := keep8 _ _ d4
      replace d5 := keep8 _ _ d5
      simp at d0 d1 d2 d4 d5
      replace hc8 : 3 ≤ c8 := hc8
      clear keep8 ho5
      go_wp2
      go_ret
      exact ⟨rfl, O8.out.trans O45.out (fun _ _ e => e)⟩
end Go.Proofs.Ytdcclighccejhaa
