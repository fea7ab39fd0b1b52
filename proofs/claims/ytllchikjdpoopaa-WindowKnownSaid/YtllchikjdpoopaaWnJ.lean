/- The reference's In. Conditions: as each says. -/
import Derived.Test.YtllchikjdpoopaaWnI
import Derived.Test.YtllchikjdpoopaaRegL
import Derived.Test.YtllchikjdpoopaaStr
set_option linter.unusedVariables false
namespace Go.Proofs.Ytllchikjdpoopaa
open Go Go.RowKit

/-- What is answered of a struct and one more. -/
theorem res_cell1 {P : Program} {fn : Func} {p q : Tmp} {ty : TypeId} (h : fn.results = #[.cell p ty, .tmp q]) (tmps : Array Value) (w : World) (g : Nat) (t : TypeId) (cs : Array Value) (d : TypeDesc) (x : Value)
    (hp : tmps.getD p undef = .pointer (some ⟨g, 0, none⟩)) (hq : tmps.getD q undef = x) (hg : Is w g t cs)
    (hu : P.underlying ty = some d) (hd : (match d with | .struct _ | .array _ _ => true | _ => false) = true) (hi : (P.info? ty).map (·.size) = some cs.size) :
    (results fn tmps).run P w = .ok (.tuple #[.agg cs, x]) w := by
  have hp' : tmps[p]?.getD undef = .pointer (some ⟨g, 0, none⟩) := by simpa using hp
  have hq' : tmps[q]?.getD undef = x := by simpa using hq
  simp [results, h, hp', hq', asAddr, run_loadVar_row w g t ty cs (0, 0) d hg hu hd hi]
/-- What the reference's In answers. -/
def RCame (s : Nat) (L : List Nat) (n : Nat) (v0 : Value) (w : World) (e : Ending) (w' : World) : Prop := ∃ v, e = .returned (.tuple #[rwV s v, .int .i64 (rLook s L n : Int)]) ∧ Rd .u64 w' v (nats (rIn s L n)) ∧ (v = .slice none 0 0 ∨ ∃ ad n c, v = .slice (some ad) n c) ∧ (v = v0 ∨ ∀ k, v.ownBlock = some k → w.heap.size ≤ k) ∧ Only (fun _ => False) w w'
theorem own_form {w : World} {B n sz : Nat} {T : TypeId} {v : Value} {xs : List Value} (h : w.ownsRow B T sz v n xs) : v = .slice none 0 0 ∨ ∃ ad n c, v = .slice (some ad) n c := by
  rcases h.2 with ⟨rfl, _⟩ | ⟨g, cap, cur, rfl, _⟩
  · exact .inl rfl
  · exact .inr ⟨_, _, _, rfl⟩
theorem onlyB {B : Nat} {w w0 w1 : World} (h : Only (fun _ => False) w w0) (k : Only (fun j => B ≤ j) w0 w1) (hB : w.heap.size ≤ B) : Only (fun _ => False) w w1 := h.trans k (fun i hi e => by omega)
theorem own_base {w : World} {B n sz : Nat} {T : TypeId} {v : Value} {xs : List Value} (h : w.ownsRow B T sz v n xs) {k : Nat} (hk : v.ownBlock = some k) : B ≤ k := by
  rcases h.2 with ⟨rfl, _⟩ | ⟨g, cap, cur, rfl, hb, _⟩
  · simp [Value.ownBlock] at hk
  · simp only [Value.ownBlock, Option.some.injEq] at hk
    omega
def rin6_A : List (List Nat) := ([] :: [0] :: [] :: [] :: [3] :: [2, 4, 3] :: [1, 5, 0, 2, 4, 3] :: [] :: [6, 5, 0, 1, 2, 3, 4] :: (7 :: 8 :: 0 :: 1 :: 2 :: 3 :: 4 :: 5 :: 6 :: []) :: [])
def rin6_kill : List (List Nat) := ([] :: [] :: [] :: [] :: [] :: [4, 10] :: [] :: [] :: [4, 5, 6, 10] :: [] :: [])
def rin6_uses : List (List Nat) := ([] :: [] :: [] :: [] :: [] :: [4, 10] :: [5] :: [] :: [6] :: [] :: [])
noncomputable def rin6_code : Code := ((Try.f10.body.bind (codeRegion 6)).getD .skip)
set_option maxRecDepth 100000 in
set_option maxHeartbeats 4000000 in
theorem rin6_in (n p q B s c : Nat) (v0 : Value) (A : Option Addr) (L M : List Nat) (hM : M = L ++ [n]) (hl : L.length ≤ 1000) (hq : B ≤ q) (u0 u3 u5 u8 u9 u10 u11 u12 u13 u14 u15 u16 u17 u18 u19 u20 u21 u22 u23 u24 u25 u26 : Value) (w0 : World) (hP : Is w0 p 30 #[.int .i64 (s : Int), v0]) (hQ : Is w0 q 30 #[.int .i64 0, .slice none 0 0]) (hO : w0.ownsRow B 23 1 (.slice A L.length c) L.length (cells64 L)) (hB : B ≤ w0.heap.size) :
    Code.wp Try.prog rin6_code (fun e a w' => ∃ y19 y20 y21 y22 y23 y24 y25 y26 : Value, a = ⟨(List.toArray (u0 :: .int .u64 (n : Int) :: .pointer (some ⟨p, 0, none⟩) :: u3 :: .pointer (some ⟨q, 0, none⟩) :: .int .i64 0 :: .int .i64 0 :: .slice A L.length c :: u8 :: u9 :: u10 :: u11 :: u12 :: u13 :: u14 :: u15 :: u16 :: u17 :: u18 :: y19 :: y20 :: y21 :: y22 :: y23 :: y24 :: y25 :: y26 :: [])), []⟩ ∧ e = .normal ∧ (∃ A' c', Is w' q 30 #[.int .i64 (s : Int), .slice A' M.length c'] ∧ w'.ownsRow B 23 1 (.slice A' M.length c') M.length (cells64 M) ∧ Only (fun k => B ≤ k) w0 w')) ⟨(List.toArray (u0 :: .int .u64 (n : Int) :: .pointer (some ⟨p, 0, none⟩) :: u3 :: .pointer (some ⟨q, 0, none⟩) :: u5 :: .int .i64 0 :: .slice A L.length c :: u8 :: u9 :: u10 :: u11 :: u12 :: u13 :: u14 :: u15 :: u16 :: u17 :: u18 :: u19 :: u20 :: u21 :: u22 :: u23 :: u24 :: u25 :: u26 :: [])), []⟩ w0 := by
  conv => arg 2; whnf
  have HM := Lib.hid hM
  clear hM
  refine wp_region_posts rin6_A [4, 5, 8] [4, 5, 6, 8, 10] rin6_kill rin6_uses [8] [8] [7, 9] [10]
      (some ?v0 :: some ?v1 :: some ?v2 :: some ?v3 :: none :: none :: none :: some ?v7 :: none :: some ?v9 :: [])
      ?T (fun wx => Is wx p 30 #[.int .i64 (s : Int), v0] ∧ Is wx q 30 #[.int .i64 0, .slice none 0 0] ∧ Only (fun k => B ≤ k) w0 wx) ?W ?E (by kernel_rfl) (by kernel_rfl) (by kernel_rfl) (fun x => ?hT) ?hF ?hini (Reg.all_ops ?runs) ?pres ?fin
  case W => exact fun j x wz => match j with | 4 => ∃ lb, x 4 = .slice (some ⟨lb, 0, none⟩) 1 1 ∧ Is wz lb 23 #[.int .u64 (n : Int)] | 5 => ∃ A' c', x 5 = .slice A' M.length c' ∧ wz.ownsRow B 23 1 (.slice A' M.length c') M.length (cells64 M) | 6 => ∃ A' c', x 6 = .agg #[.int .i64 (s : Int), .slice A' M.length c'] ∧ wz.ownsRow B 23 1 (.slice A' M.length c') M.length (cells64 M) | 8 => ∃ A' c', Is wz q 30 #[.int .i64 (s : Int), .slice A' M.length c'] ∧ wz.ownsRow B 23 1 (.slice A' M.length c') M.length (cells64 M) ∧ Only (fun k => B ≤ k) w0 wz | 10 => wz.ownsRow B 23 1 (.slice A L.length c) L.length (cells64 L) | _ => True
  case E => exact fun i wx wy => match i with | 4 => Only (fun _ => False) wx wy | 5 => Only (fun k => (Value.slice A L.length c).ownBlock = some k) wx wy | _ => True
  case hT =>
    simp only [Reg.fillV, Act.put, List.setIfInBounds_toArray, List.set_cons_zero, List.set_cons_succ]
    rfl
  case runs =>
    refine And.intro ?_ ?_
    · refine Reg.ob_pure (fun _ => rfl) rfl rfl rfl rfl (fun x w1 hF => ?_)
      obtain ⟨h1, h2, -⟩ := hF
      have c0 := h1.cell 0
      simp at c0
      go_simp
      with_reducible rfl
    refine And.intro ?_ ?_
    · refine Reg.ob_pure (fun _ => rfl) rfl rfl rfl rfl (fun x w1 hF => ?_)
      obtain ⟨h1, h2, -⟩ := hF
      have c0 := h1.cell 0
      simp at c0
      go_simp
      with_reducible rfl
    refine And.intro ?_ ?_
    · refine Reg.ob_pure (fun _ => rfl) rfl rfl rfl rfl (fun x w1 hF => ?_)
      obtain ⟨h1, h2, -⟩ := hF
      have c0 := h1.cell 0
      simp at c0
      go_simp
      with_reducible rfl
    refine And.intro ?_ ?_
    · refine Reg.ob_pure (fun _ => rfl) rfl rfl rfl rfl (fun x w1 hF => ?_)
      obtain ⟨h1, h2, -⟩ := hF
      have c0 := h1.cell 0
      simp at c0
      go_simp
      with_reducible rfl
    refine And.intro ?_ ?_
    · refine Reg.ob_some (fun _ => rfl) rfl (fun x w1 hF hU K hK => ?_)
      obtain ⟨h1, h2, h4⟩ := hF rfl
      go_simp
      have ho : Only (fun _ => False) w1 (w1.alloc (.cells #[.int .u64 (n : Int)] 23)) := (Only.refl _ _).alloc _
      exact hK _ _ (fun _ _ _ => ⟨h1.only ho (by simp), h2.only ho (by simp), h4.trans ho (fun _ _ e => e.elim)⟩) ho ⟨_, rfl, Is.made _ _ _⟩
    refine And.intro ?_ ?_
    · refine Reg.ob_some (fun _ => rfl) rfl (fun x w1 hF hU K hK => ?_)
      obtain ⟨h1, h2, h4⟩ := hF rfl
      obtain ⟨⟨lb, h0, hi⟩, h3, -⟩ := hU
      have h0 : x 4 = .slice (some ⟨lb, 0, none⟩) 1 1 := h0
      have h3 : w1.ownsRow B 23 1 (.slice A L.length c) L.length (cells64 L) := h3
      have hM := HM.out
      subst hM
      refine app64one w1 (.tmp 21) (.tmp 23) rfl B (.slice A L.length c) L n lb (by rfl) h3 (by simpa [Act.eval] using h0) hi (by omega) (Nat.le_trans hB h4.size) ?_
      intro A' c' w5 hown ho
      exact hK _ w5 (fun _ _ _ => ⟨h1.only ho (owned_off h3 h1 (by decide)), h2.only ho (owned_off h3 h2 (by decide)), h4.trans ho (fun i hi e => own_base h3 e)⟩) ho ⟨A', c', rfl, hown⟩
    refine And.intro ?_ ?_
    · refine Reg.ob_some (fun _ => rfl) rfl (fun x w1 hF hU K hK => ?_)
      obtain ⟨⟨A', c', h5, hu⟩, -⟩ := hU
      have h5 : x 5 = .slice A' M.length c' := h5
      revert hK
      simp only [Nat.reduceAdd, h5]
      intro hK
      go_simp
      exact hK _ _ (fun h => by cases h) rfl ⟨A', c', rfl, hu⟩
    refine And.intro ?_ ?_
    · refine Reg.ob_bare (fun _ => rfl) rfl rfl rfl (fun x w1 => ?_)
      go_simp
      with_reducible rfl
    refine And.intro ?_ ?_
    · refine Reg.ob_some (fun _ => rfl) rfl (fun x w1 hF hU K hK => ?_)
      obtain ⟨h1, h2, h4⟩ := hF rfl
      obtain ⟨⟨A', c', h6, hu⟩, -⟩ := hU
      have h6 : x 6 = .agg #[.int .i64 (s : Int), .slice A' M.length c'] := h6
      refine wp_store_row 30 _ _ rfl q #[.int .i64 (s : Int), .slice A' M.length c'] rfl (by simpa [Act.eval] using h6) 30 _ h2 Try.sizeRw rfl (by simp [Value.oneCell']) ?_
      have ho : Only (fun k => k = q) w1 (w1.setRow q #[.int .i64 (s : Int), .slice A' M.length c']) := Only.setRow (S := fun k => k = q) (Only.refl _ w1) (fun _ => rfl) _
      exact hK undef _ (fun _ h _ => by cases h) trivial ⟨A', c', h2.setRow _, owned_only hu ho (fun k hk e => owned_off hu h2 (by decide) (by rw [hk, e])), h4.trans ho (fun i hi e => by subst e; exact hq)⟩
    refine And.intro ?_ ?_
    · refine Reg.ob_bare (fun _ => rfl) rfl rfl rfl (fun x w1 => ?_)
      go_simp
      with_reducible rfl
    exact trivial
  case hF =>
    exact ⟨hP.only (onlyN _ 1) (by simp), hQ.only (onlyN _ 1) (by simp), (onlyN _ 1).mono (fun _ _ e => e.elim)⟩
  case hini =>
    exact ⟨fun x => owned_only hO (onlyN w0 1) (by simp), trivial⟩
  case pres =>
    intro i hi j hj hc x wx wy hF hE hW
    simp only [List.mem_cons, List.mem_nil_iff, or_false] at hi hj
    rcases hi with rfl | rfl | rfl <;> rcases hj with rfl | rfl | rfl | rfl | rfl
    all_goals first | (exfalso; revert hc; decide) | skip
    exact owned_only (show wx.ownsRow B 23 1 (.slice A L.length c) L.length (cells64 L) from hW) hE (by simp)
  case fin =>
    rintro x w9 hF hU
    obtain ⟨hQ, -⟩ := hU
    repeat apply Exists.intro
    exact ⟨rfl, rfl, hQ⟩

set_option maxRecDepth 100000 in
set_option maxHeartbeats 4000000 in
theorem rin6 (n p q B s c : Nat) (v0 : Value) (A : Option Addr) (L M : List Nat) (hM : M = L ++ [n]) (hl : L.length ≤ 1000) (hq : B ≤ q) (u0 u3 u5 u8 u9 u10 u11 u12 u13 u14 u15 u16 u17 u18 u19 u20 u21 u22 u23 u24 u25 u26 : Value) (Q : Exit → Act → World → Prop) (w0 : World) (hP : Is w0 p 30 #[.int .i64 (s : Int), v0]) (hQ : Is w0 q 30 #[.int .i64 0, .slice none 0 0]) (hO : w0.ownsRow B 23 1 (.slice A L.length c) L.length (cells64 L)) (hB : B ≤ w0.heap.size)
    (hend : ∀ (y19 y20 y21 y22 y23 y24 y25 y26 : Value) (w' : World), (∃ A' c', Is w' q 30 #[.int .i64 (s : Int), .slice A' M.length c'] ∧ w'.ownsRow B 23 1 (.slice A' M.length c') M.length (cells64 M) ∧ Only (fun k => B ≤ k) w0 w') → Q .normal ⟨(List.toArray (u0 :: .int .u64 (n : Int) :: .pointer (some ⟨p, 0, none⟩) :: u3 :: .pointer (some ⟨q, 0, none⟩) :: .int .i64 0 :: .int .i64 0 :: .slice A L.length c :: u8 :: u9 :: u10 :: u11 :: u12 :: u13 :: u14 :: u15 :: u16 :: u17 :: u18 :: y19 :: y20 :: y21 :: y22 :: y23 :: y24 :: y25 :: y26 :: [])), []⟩ w') :
    Code.wp Try.prog rin6_code Q ⟨(List.toArray (u0 :: .int .u64 (n : Int) :: .pointer (some ⟨p, 0, none⟩) :: u3 :: .pointer (some ⟨q, 0, none⟩) :: u5 :: .int .i64 0 :: .slice A L.length c :: u8 :: u9 :: u10 :: u11 :: u12 :: u13 :: u14 :: u15 :: u16 :: u17 :: u18 :: u19 :: u20 :: u21 :: u22 :: u23 :: u24 :: u25 :: u26 :: [])), []⟩ w0 := by
  refine wp_mono (rin6_in n p q B s c v0 A L M hM hl hq _ _ _ _ _ _ _ _ _ _ _ _ _ _ _ _ _ _ _ _ _ _ w0 hP hQ hO hB) ?_
  rintro e a w' h
  obtain ⟨y19, h⟩ := h
  obtain ⟨y20, h⟩ := h
  obtain ⟨y21, h⟩ := h
  obtain ⟨y22, h⟩ := h
  obtain ⟨y23, h⟩ := h
  obtain ⟨y24, h⟩ := h
  obtain ⟨y25, h⟩ := h
  obtain ⟨y26, h⟩ := h
  obtain ⟨h, rfl, hq⟩ := h
  subst h
  exact hend y19 y20 y21 y22 y23 y24 y25 y26 w' hq

set_option maxRecDepth 20000 in
set_option maxHeartbeats 2000000 in
theorem rin_is (s n : Nat) (v : Value) (L : List Nat) (w : World) (hv : Rd .u64 w v (nats L)) (hl : L.length ≤ 1000) (hs1 : 1 ≤ s) (hs2 : s ≤ 1024) (hL : ∀ x ∈ L, x < 18446744073709551616) (hn0 : v = .slice none 0 0 ∨ ∃ ad n c, v = .slice (some ad) n c) :
    Calls Try.prog 10 #[rwV s v, .int .u64 (n : Int)] w (RCame s L n v w) := by
  have HLK := Lib.hid (fun (w1 : World) (ho : Only (fun _ => False) w w1) => rlook_is s n v L w1 (hv.said ho) (by omega) hs1 hs2 hL)
  have HV := Lib.hid hv
  have HIN := Lib.hid (show rIn s L n = if rLook s L n = 0 then L ++ [n] else L from rfl)
  have HN0 := Lib.hid hn0
  unfold RCame
  generalize rIn s L n = L2 at *
  generalize rLook s L n = lk at *
  clear hL hn0 hv
  go_enter Try.func10, Try.ntmps10
  go_upto_region 1 with (fail)
  obtain ⟨p, hp⟩ : ∃ p, w.heap.size = p := ⟨_, rfl⟩
  obtain ⟨q, hq⟩ : ∃ q, w.heap.size + 1 = q := ⟨_, rfl⟩
  generalize hw2 : World.alloc (World.alloc w _) _ = w2
  have I1 := Lib.hid (show Is w2 p 30 #[.int .i64 (s : Int), v] from by rw [← hw2, ← hp]; exact (Is.made w _ _).alloc _)
  have I2 := Lib.hid (show Is w2 q 30 #[.int .i64 0, .slice none 0 0] from by
    have e : (w.alloc (.cells #[.int .i64 (s : Int), v] 30)).heap.size = w.heap.size + 1 := by simp
    rw [← hw2, ← hq, ← e]
    exact Is.made _ _ _)
  have O2 := Lib.hid (show Only (fun _ => False) w w2 from by rw [← hw2]; exact ((Only.refl _ w).alloc _).alloc _)
  rw [hq, hp]
  have hwp : w.heap.size ≤ p := by omega
  have hwq : w.heap.size ≤ q := by omega
  have HNE := Lib.hid (show p ≠ q by omega)
  clear hw2 hp hq
  go_wp2_with (refine wpList_load_want (o := ⟨some 8, _, _, _, _, _⟩) rfl _ _ rfl p rfl _ _ _ I1.out Try.underlying30 rfl Try.sizeRw ?_)
  refine (HLK.out _ O2.out).mono ?_
  rintro e w3 ⟨rfl, ho⟩
  have J1 := Lib.hid (I1.out.only ho (by simp))
  have J2 := Lib.hid (I2.out.only ho (by simp))
  have O3 := Lib.hid (O2.out.trans ho (fun _ _ e => e))
  clear ho I1 I2 O2 HLK
  by_cases h0 : lk = 0
  · subst h0
    rw [if_pos rfl] at HIN
    have c1 := J1.out.cell 1
    simp at c1
    go_upto_region 6 with (refine wpList_app64 w3 rfl _ _ rfl w.heap.size v L rfl rfl HN0.out (HV.out.said O3.out) (by omega) O3.out.size ?_; intro A c w5 hown ho)
    have K1 := Lib.hid (J1.out.only ho (by simp))
    have K2 := Lib.hid (J2.out.only ho (by simp))
    have O5 := Lib.hid (O3.out.trans ho (fun _ _ e => e))
    clear ho
    refine rin6 n p q w.heap.size s c v A L (L ++ [n]) rfl hl hwq _ _ _ _ _ _ _ _ _ _ _ _ _ _ _ _ _ _ _ _ _ _ _ w5 K1.out K2.out hown O5.out.size ?_
    rintro y18 y19 y20 y21 y22 y23 y24 y25 w6 ⟨A', c', hi6, hown6, ho6⟩
    have O6 := Lib.hid (onlyB O5.out ho6 (Nat.le_refl _))
    go_wp2
    refine bodyPost_ret (res_cell1 Try.results10 _ w6 q 30 _ _ _ rfl rfl hi6 Try.underlying30 rfl Try.sizeRw) rfl ?_
    exact ⟨_, rfl, by rw [HIN.out]; exact own_rd64 hown6, own_form hown6, .inr (fun k hk => own_base hown6 hk), O6.out⟩
  · rw [if_neg h0] at HIN
    have hlk : ((lk : Int) == 0) = false := by rw [beq_eq_false_iff_ne]; omega
    go_wp2_with (first | (refine wpList_load_want (o := ⟨some 13, _, _, _, _, _⟩) rfl _ _ rfl p rfl _ _ _ J1.out Try.underlying30 rfl Try.sizeRw ?_) | (refine wpList_store_is rfl 30 _ _ rfl q #[.int .i64 (s : Int), v] rfl rfl 30 _ J2.out Try.sizeRw rfl (by rcases HN0.out with rfl | ⟨_, _, _, rfl⟩ <;> simp [Value.oneCell']) ?_; intro w6 hi6 ho6))
    refine bodyPost_ret (res_cell1 Try.results10 _ w6 q 30 _ _ _ rfl rfl hi6 Try.underlying30 rfl Try.sizeRw) rfl ?_
    have O6 : Only (fun _ => False) w w6 := O3.out.trans ho6 (fun i hi e => by omega)
    exact ⟨v, rfl, by rw [HIN.out]; exact HV.out.said O6, HN0.out, .inl rfl, O6⟩
end Go.Proofs.Ytllchikjdpoopaa
