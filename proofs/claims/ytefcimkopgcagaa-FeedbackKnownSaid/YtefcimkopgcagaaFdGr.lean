/- Merged of FdB FdC FdD FdE FdF FdG. Conditions: as each says. -/
import Derived.Test.YtefcimkopgcagaaFsGr
import Derived.Test.YtefcimkopgcagaaFcU
import Derived.Test.YtefcimkopgcagaaBtGr
import Derived.Test.YtefcimkopgcagaaFbN
/- Digits and bytes: numbers of whole bytes, plainly. Conditions: as each says. -/
set_option linter.unusedVariables false
set_option linter.unusedSimpArgs false
namespace Go.Proofs.Ytefcimkopgcagaa
open Go.RowKit

theorem num_cat (bs : List Nat) (p a b : Nat) (h : p + a + b ≤ 8 * bs.length) : num bs p (a + b) = num bs p a * 2 ^ b + num bs (p + a) b := by
  unfold num
  rw [List.take_add, List.drop_drop, val_append]
  have e : (((D bs).drop (p + a)).take b).length = b := by
    rw [List.length_take, List.length_drop, D_length]
    omega
  rw [e]
theorem num_bytes (bs : List Nat) (k : Nat) (hb : ∀ x ∈ bs, x < 256) : ∀ n, k + n ≤ bs.length → num bs (8 * k) (8 * n) = vu ((bs.drop k).take n)
  | 0, _ => by simp [num_zero, vu]
  | n + 1, h => by
    rw [show 8 * (n + 1) = 8 * n + 8 by omega, num_cat bs (8 * k) (8 * n) 8 (by omega), num_bytes bs k hb n (by omega), show 8 * k + 8 * n = 8 * (k + n) by omega,
      digs_val_byte bs (k + n) (by omega) hb, List.take_succ_eq_append_getElem (by rw [List.length_drop]; omega), vu_snoc, List.getElem_drop]
theorem num_four (bs : List Nat) (k : Nat) (hb : ∀ x ∈ bs, x < 256) (h : k + 4 ≤ bs.length) : num bs (8 * k) 32 = fourB bs k := num_bytes bs k hb 4 h
theorem num_one8 (bs : List Nat) (k : Nat) (hb : ∀ x ∈ bs, x < 256) (h : k < bs.length) : num bs (8 * k) 8 = bs.getD k 0 := by
  rw [digs_val_byte bs k h hb, List.getD_eq_getElem?_getD, List.getElem?_eq_getElem h]
  rfl
theorem prAt_is (bs : List Nat) (j : Nat) (hb : ∀ x ∈ bs, x < 256) (h : 8 + 4 * j + 4 ≤ bs.length) : prAt bs 64 j = pairAt bs j := by
  have e := num_four bs (8 + 4 * j) hb h
  rw [show 8 * (8 + 4 * j) = 64 + 32 * j by omega] at e
  have e2 : num bs (64 + 32 * j) 32 = num bs (64 + 32 * j) 16 * 65536 + num bs (64 + 32 * j + 16) 16 := num_cat bs (64 + 32 * j) 16 16 (by omega)
  have h1 : num bs (64 + 32 * j + 16) 16 < 65536 := num_lt bs (64 + 32 * j + 16) 16
  unfold prAt pairAt
  rw [← e, e2]
  generalize num bs (64 + 32 * j) 16 = a at *
  generalize num bs (64 + 32 * j + 16) 16 = b at *
  rw [Pr.mk.injEq]
  omega
theorem odAt_is (bs : List Nat) (j : Nat) (hb : ∀ x ∈ bs, x < 256) (h : 8 + 8 * j + 8 ≤ bs.length) : odAt bs 64 j = orderAt bs j := by
  have e := num_four bs (8 + 8 * j) hb (by omega)
  rw [show 8 * (8 + 8 * j) = 64 + 64 * j by omega] at e
  have e2 := num_one8 bs (8 + 8 * j + 4) hb (by omega)
  rw [show 8 * (8 + 8 * j + 4) = 64 + 64 * j + 32 by omega] at e2
  unfold odAt orderAt
  rw [e, e2]
theorem exp_is (bs : List Nat) (hb : ∀ x ∈ bs, x < 256) (h : 16 ≤ bs.length) : num bs 104 6 = fourB bs 12 % 16777216 / 262144 ∧ num bs 110 18 = fourB bs 12 % 16777216 % 262144 := by
  have e : num bs 96 32 = fourB bs 12 := num_four bs 12 hb (by omega)
  have e2 : num bs 96 32 = num bs 96 8 * 16777216 + num bs 104 24 := num_cat bs 96 8 24 (by omega)
  have e3 : num bs 104 24 = num bs 104 6 * 262144 + num bs 110 18 := num_cat bs 104 6 18 (by omega)
  have h1 : num bs 104 6 < 64 := num_lt bs 104 6
  have h2 : num bs 110 18 < 262144 := num_lt bs 110 18
  rw [← e, e2, e3]
  generalize num bs 96 8 = a at *
  generalize num bs 104 6 = b at *
  generalize num bs 110 18 = c at *
  clear e e2 e3
  omega

/-- A reader that has failed gives nothing more. -/
theorem tk_failed (bs : List Nat) (n : Nat) (s : Nat × Int) (h : s.2 ≠ 0) : tk bs n s = (0, s.1, asked s.2 n 64 (8 * bs.length - s.1) 1) ∧ asked s.2 n 64 (8 * bs.length - s.1) 1 ≠ 0 := by
  have hne : asked s.2 n 64 (8 * bs.length - s.1) 1 ≠ 0 := fun e => h (asked_ok e).1
  unfold tk
  rw [if_neg hne]
  exact ⟨rfl, hne⟩
theorem tk_ok (bs : List Nat) (n p : Nat) (hn : n ≤ 64) (h : p + n ≤ 8 * bs.length) : tk bs n (p, 0) = (num bs p n, p + n, 0) := by
  have e : asked 0 n 64 (8 * bs.length - p) 1 = 0 := asked_zero (by omega) (by omega) (by rw [Nat.div_one]; omega)
  unfold tk
  rw [if_pos e]
theorem tk_short (bs : List Nat) (n p : Nat) (h : 8 * bs.length < p + n) (hp : p ≤ 8 * bs.length) : (tk bs n (p, 0)).2.1 = p ∧ (tk bs n (p, 0)).2.2 ≠ 0 := by
  have e : asked 0 n 64 (8 * bs.length - p) 1 ≠ 0 := fun e => by
    have := (asked_ok e).2.2.2
    rw [Nat.div_one] at this
    omega
  unfold tk
  rw [if_neg e]
  exact ⟨rfl, e⟩
theorem tk_bad (bs : List Nat) (n : Nat) (s : Nat × Int) (h : s.2 ≠ 0) : (tk bs n s).2.1 = s.1 ∧ (tk bs n s).2.2 ≠ 0 := by
  obtain ⟨e, hne⟩ := tk_failed bs n s h
  rw [e]
  exact ⟨rfl, hne⟩
theorem tkS_bad (bs : List Nat) (s : Nat × Int) (h : s.2 ≠ 0) : ∀ n, (tkS bs n s).2.2 ≠ 0
  | 0 => h
  | n + 1 => (tk_bad bs 32 _ (tkS_bad bs s h n)).2
theorem tkS_ok (bs : List Nat) (p : Nat) : ∀ n, p + 32 * n ≤ 8 * bs.length → tkS bs n (p, 0) = ((List.range n).map fun j => num bs (p + 32 * j) 32, p + 32 * n, 0)
  | 0, _ => rfl
  | n + 1, h => by
    rw [tkS, tkS_ok bs p n (by omega)]
    simp only
    rw [tk_ok bs 32 (p + 32 * n) (by omega) (by omega), List.range_succ, List.map_append, List.map_singleton]
    rfl
theorem tkS_pos (bs : List Nat) (p : Nat) (hp : p ≤ 8 * bs.length) : ∀ n, (tkS bs n (p, 0)).2.2 = 0 → p + 32 * n ≤ 8 * bs.length
  | 0, _ => by omega
  | n + 1, h => by
    by_cases h0 : (tkS bs n (p, 0)).2.2 = 0
    · have hn := tkS_pos bs p hp n h0
      have e := tkS_ok bs p n hn
      rw [tkS, e] at h
      simp only at h
      by_cases hh : p + 32 * n + 32 ≤ 8 * bs.length
      · omega
      · exact absurd h (tk_short bs 32 (p + 32 * n) (by omega) hn).2
    · exact absurd h (tk_bad bs 32 _ h0).2
end Go.Proofs.Ytefcimkopgcagaa

/- takeRate, whole. Conditions: as each says. -/
set_option linter.unusedVariables false
set_option linter.unusedSimpArgs false
namespace Go.Proofs.Ytefcimkopgcagaa
open Go.RowKit

def tr1_A : List (List Nat) := ([] :: [] :: [] :: [2] :: [3, 2] :: [] :: [5, 3, 2] :: [6, 5, 3, 2] :: [0, 2, 3, 4, 6, 5] :: [8, 0, 2, 3, 4, 6, 5] :: (9 :: 4 :: 6 :: 0 :: 2 :: 3 :: 8 :: 5 :: []) :: (1 :: 0 :: 2 :: 3 :: 4 :: 5 :: 6 :: 7 :: 8 :: 9 :: 10 :: []) :: (11 :: 0 :: 1 :: 2 :: 3 :: 4 :: 5 :: 6 :: 7 :: 8 :: 9 :: 10 :: []) :: (12 :: 7 :: 10 :: 0 :: 1 :: 2 :: 3 :: 4 :: 5 :: 6 :: 8 :: 9 :: 11 :: []) :: [])
def tr1_kill : List (List Nat) := ([] :: [] :: [] :: [14] :: [] :: [] :: [14, 3] :: [] :: [] :: [] :: [14, 3, 6] :: [] :: [] :: [14, 3, 6, 10] :: [])
def tr1_uses : List (List Nat) := ([] :: [] :: [] :: [14] :: [] :: [] :: [3] :: [] :: [] :: [] :: [6] :: [] :: [] :: [10] :: [])
noncomputable def tr1_code : Code := ((Try.f76.body.bind (codeRegion 1)).getD .skip)
set_option maxRecDepth 100000 in
set_option maxHeartbeats 4000000 in
theorem tr1_in (cs : Array Value) (mb br : Nat) (bs : List Nat) (v : Value) (s1 s2 s3 : Nat × Int) (ex mt : Nat) (w0 : World) (h5 : cs[5]? = some (.int .u8 0)) (h6 : cs[6]? = some (.int .u32 0)) (hmb : w0.heap.size ≤ mb) (hbr : w0.heap.size ≤ br) (hex : ex < 64) (hmt : mt < 262144) (t2 : ∀ wx, Rdr wx br bs s1.1 s1.2 v → Calls Try.prog 57 #[.pointer (some ⟨br, 0, none⟩), .int .i64 6] wx (Took wx br bs s2.1 s2.2 v (ex : Nat))) (t3 : ∀ wx, Rdr wx br bs s2.1 s2.2 v → Calls Try.prog 57 #[.pointer (some ⟨br, 0, none⟩), .int .i64 18] wx (Took wx br bs s3.1 s3.2 v (mt : Nat))) (u2 u3 u4 u5 u6 u7 u8 u9 u10 u11 u12 u13 u14 u15 u16 u17 u18 u19 u20 u21 u22 u23 u24 u25 u26 u27 u28 u29 u30 u31 u32 u33 u34 : Value) (w : World) (hG : Mp cs mb w0 w) (hR0 : Rdr w br bs s1.1 s1.2 v) :
    Code.wp Try.prog tr1_code (fun e a w' => ∃ y7 y8 y9 y10 y11 y12 y13 y14 y15 y16 y17 y18 : Value, a = ⟨(List.toArray (.pointer (some ⟨mb, 0, none⟩) :: .pointer (some ⟨br, 0, none⟩) :: u2 :: u3 :: u4 :: u5 :: u6 :: y7 :: y8 :: y9 :: y10 :: y11 :: y12 :: y13 :: y14 :: y15 :: y16 :: y17 :: y18 :: u19 :: u20 :: u21 :: u22 :: u23 :: u24 :: u25 :: u26 :: u27 :: u28 :: u29 :: u30 :: u31 :: u32 :: u33 :: u34 :: [])), []⟩ ∧ e = .normal ∧ (Mp ((cs.setIfInBounds 5 (.int .u8 (ex : Nat))).setIfInBounds 6 (.int .u32 (mt : Nat))) mb w0 w' ∧ Rdr w' br bs s3.1 s3.2 v)) ⟨(List.toArray (.pointer (some ⟨mb, 0, none⟩) :: .pointer (some ⟨br, 0, none⟩) :: u2 :: u3 :: u4 :: u5 :: u6 :: u7 :: u8 :: u9 :: u10 :: u11 :: u12 :: u13 :: u14 :: u15 :: u16 :: u17 :: u18 :: u19 :: u20 :: u21 :: u22 :: u23 :: u24 :: u25 :: u26 :: u27 :: u28 :: u29 :: u30 :: u31 :: u32 :: u33 :: u34 :: [])), []⟩ w := by
  conv => arg 2; whnf
  have T2 := Lib.hid t2
  have T3 := Lib.hid t3
  have H5 := Lib.hid h5
  have H6b := Lib.hid (show (cs.setIfInBounds 5 (.int .u8 (ex : Nat)))[6]? = some (.int .u32 0) from by rw [Array.getElem?_setIfInBounds_ne (by omega)]; exact h6)
  have e3 : IntKind.u8.wrap (ex : Int) = (ex : Int) := by rw [IntKind.wrap_u8]; omega
  have e4 : IntKind.u32.wrap (mt : Int) = (mt : Int) := by rw [IntKind.wrap_u32]; omega
  clear t2 t3 h5 h6 hex hmt
  refine wp_region_text tr1_A [3, 6, 10, 13] [3, 6, 10, 13, 14] tr1_kill tr1_uses [13] [] [] [14]
      (some ?v0 :: some ?v1 :: some ?v2 :: some (.int .u64 (ex : Nat)) :: some ?v4 :: some ?v5 :: some (.int .u64 (mt : Nat)) :: some ?v7 :: some ?v8 :: some ?v9 :: none :: some ?v11 :: some ?v12 :: none :: [])
      ?T (fun wx => True) ?W ?E (by kernel_rfl) (by kernel_rfl) (by kernel_rfl) (fun x => ?hT) ?hF ?hini (Reg.all_ops ?runs) ?pres ?fin
  case W => exact fun j x w' => match j with | 3 => Mp cs mb w0 w' ∧ Rdr w' br bs s2.1 s2.2 v | 6 => Mp cs mb w0 w' ∧ Rdr w' br bs s3.1 s3.2 v | 10 => Mp (cs.setIfInBounds 5 (.int .u8 (ex : Nat))) mb w0 w' ∧ Rdr w' br bs s3.1 s3.2 v | 13 => Mp ((cs.setIfInBounds 5 (.int .u8 (ex : Nat))).setIfInBounds 6 (.int .u32 (mt : Nat))) mb w0 w' ∧ Rdr w' br bs s3.1 s3.2 v | 14 => Mp cs mb w0 w' ∧ Rdr w' br bs s1.1 s1.2 v | _ => True
  case E => exact fun i wx wy => True
  case hT =>
    simp only [Reg.fillV, Act.put, List.setIfInBounds_toArray, List.set_cons_zero, List.set_cons_succ]
    rfl
  case runs =>
    refine And.intro ?_ ?_
    · refine Reg.ob_pure (fun _ => rfl) rfl rfl rfl rfl (fun x w1 hF => ?_)
      go_simp
      with_reducible rfl
    refine And.intro ?_ ?_
    · refine Reg.ob_pure (fun _ => rfl) rfl rfl rfl rfl (fun x w1 hF => ?_)
      go_simp
      with_reducible rfl
    refine And.intro ?_ ?_
    · refine Reg.ob_pure (fun _ => rfl) rfl rfl rfl rfl (fun x w1 hF => ?_)
      go_simp
      with_reducible rfl
    refine And.intro ?_ ?_
    · refine Reg.ob_told (fun _ => rfl) rfl (fun x w1 hF hU K hK => ?_)
      obtain ⟨⟨hG, hR⟩, -⟩ := hU
      have hR : Rdr w1 br bs s1.1 s1.2 v := hR
      have HT := T2.out w1 hR
      go_simp
      refine HT.mono ?_
      rintro e w5 ⟨rfl, hR2, ho⟩
      exact hK w5 (fun _ _ _ => trivial) trivial ⟨Mp.took hG hbr hR ho, hR2⟩
    refine And.intro ?_ ?_
    · refine Reg.ob_pure (fun _ => rfl) rfl rfl rfl rfl (fun x w1 hF => ?_)
      go_simp
      with_reducible rfl
    refine And.intro ?_ ?_
    · refine Reg.ob_pure (fun _ => rfl) rfl rfl rfl rfl (fun x w1 hF => ?_)
      go_simp
      with_reducible rfl
    refine And.intro ?_ ?_
    · refine Reg.ob_told (fun _ => rfl) rfl (fun x w1 hF hU K hK => ?_)
      obtain ⟨⟨hG, hR⟩, -⟩ := hU
      have hR : Rdr w1 br bs s2.1 s2.2 v := hR
      have HT := T3.out w1 hR
      go_simp
      refine HT.mono ?_
      rintro e w5 ⟨rfl, hR2, ho⟩
      exact hK w5 (fun _ _ _ => trivial) trivial ⟨Mp.took hG hbr hR ho, hR2⟩
    refine And.intro ?_ ?_
    · refine Reg.ob_pure (fun _ => rfl) rfl rfl rfl rfl (fun x w1 hF => ?_)
      go_simp
      with_reducible rfl
    refine And.intro ?_ ?_
    · refine Reg.ob_pure (fun _ => rfl) rfl rfl rfl rfl (fun x w1 hF => ?_)
      go_simp
      with_reducible rfl
    refine And.intro ?_ ?_
    · refine Reg.ob_pure (fun _ => rfl) rfl rfl rfl rfl (fun x w1 hF => ?_)
      go_simp
      with_reducible rfl
    refine And.intro ?_ ?_
    · refine Reg.ob_some (fun _ => rfl) rfl (fun x w1 hF hU K hK => ?_)
      obtain ⟨⟨hG, hR⟩, -⟩ := hU
      have hG : Mp cs mb w0 w1 := hG
      have hR : Rdr w1 br bs s3.1 s3.2 v := hR
      have cf : w1.cell? ⟨mb, 5, none⟩ = some (.int .u8 0) := (hG.io.cell 5).trans H5.out
      have ff := hG.io.free 5
      go_simp
      exact hK undef _ (fun _ _ _ => trivial) trivial ⟨hG.put hmb 5 _, fx_rdr hR hG.io 5 _⟩
    refine And.intro ?_ ?_
    · refine Reg.ob_pure (fun _ => rfl) rfl rfl rfl rfl (fun x w1 hF => ?_)
      go_simp
      with_reducible rfl
    refine And.intro ?_ ?_
    · refine Reg.ob_pure (fun _ => rfl) rfl rfl rfl rfl (fun x w1 hF => ?_)
      go_simp
      with_reducible rfl
    refine And.intro ?_ ?_
    · refine Reg.ob_some (fun _ => rfl) rfl (fun x w1 hF hU K hK => ?_)
      obtain ⟨⟨hG, hR⟩, -⟩ := hU
      have hG : Mp (cs.setIfInBounds 5 (.int .u8 (ex : Nat))) mb w0 w1 := hG
      have hR : Rdr w1 br bs s3.1 s3.2 v := hR
      have cf : w1.cell? ⟨mb, 6, none⟩ = some (.int .u32 0) := (hG.io.cell 6).trans H6b.out
      have ff := hG.io.free 6
      go_simp
      exact hK undef _ (fun _ _ _ => trivial) trivial ⟨hG.put hmb 6 _, fx_rdr hR hG.io 6 _⟩
    exact trivial
  case hF =>
    exact trivial
  case hini =>
    exact ⟨fun x => ⟨hG, hR0⟩, trivial⟩
  case pres =>
    intro i hi j hj hc x wx wy hF hE hW
    simp only [List.mem_cons, List.mem_nil_iff, or_false] at hi hj
    rcases hi with rfl | rfl | rfl | rfl <;> rcases hj with rfl | rfl | rfl | rfl | rfl
    all_goals (exfalso; revert hc; decide)
  case fin =>
    rintro x w9 hF hU
    obtain ⟨hQ, -⟩ := hU
    repeat apply Exists.intro
    exact ⟨rfl, rfl, hQ⟩

set_option maxRecDepth 100000 in
set_option maxHeartbeats 4000000 in
theorem tr1 (cs : Array Value) (mb br : Nat) (bs : List Nat) (v : Value) (s1 s2 s3 : Nat × Int) (ex mt : Nat) (w0 : World) (h5 : cs[5]? = some (.int .u8 0)) (h6 : cs[6]? = some (.int .u32 0)) (hmb : w0.heap.size ≤ mb) (hbr : w0.heap.size ≤ br) (hex : ex < 64) (hmt : mt < 262144) (t2 : ∀ wx, Rdr wx br bs s1.1 s1.2 v → Calls Try.prog 57 #[.pointer (some ⟨br, 0, none⟩), .int .i64 6] wx (Took wx br bs s2.1 s2.2 v (ex : Nat))) (t3 : ∀ wx, Rdr wx br bs s2.1 s2.2 v → Calls Try.prog 57 #[.pointer (some ⟨br, 0, none⟩), .int .i64 18] wx (Took wx br bs s3.1 s3.2 v (mt : Nat))) (u2 u3 u4 u5 u6 u7 u8 u9 u10 u11 u12 u13 u14 u15 u16 u17 u18 u19 u20 u21 u22 u23 u24 u25 u26 u27 u28 u29 u30 u31 u32 u33 u34 : Value) (Q : Exit → Act → World → Prop) (w : World) (hG : Mp cs mb w0 w) (hR0 : Rdr w br bs s1.1 s1.2 v)
    (hend : ∀ (y7 y8 y9 y10 y11 y12 y13 y14 y15 y16 y17 y18 : Value) (w' : World), (Mp ((cs.setIfInBounds 5 (.int .u8 (ex : Nat))).setIfInBounds 6 (.int .u32 (mt : Nat))) mb w0 w' ∧ Rdr w' br bs s3.1 s3.2 v) → Q .normal ⟨(List.toArray (.pointer (some ⟨mb, 0, none⟩) :: .pointer (some ⟨br, 0, none⟩) :: u2 :: u3 :: u4 :: u5 :: u6 :: y7 :: y8 :: y9 :: y10 :: y11 :: y12 :: y13 :: y14 :: y15 :: y16 :: y17 :: y18 :: u19 :: u20 :: u21 :: u22 :: u23 :: u24 :: u25 :: u26 :: u27 :: u28 :: u29 :: u30 :: u31 :: u32 :: u33 :: u34 :: [])), []⟩ w') :
    Code.wp Try.prog tr1_code Q ⟨(List.toArray (.pointer (some ⟨mb, 0, none⟩) :: .pointer (some ⟨br, 0, none⟩) :: u2 :: u3 :: u4 :: u5 :: u6 :: u7 :: u8 :: u9 :: u10 :: u11 :: u12 :: u13 :: u14 :: u15 :: u16 :: u17 :: u18 :: u19 :: u20 :: u21 :: u22 :: u23 :: u24 :: u25 :: u26 :: u27 :: u28 :: u29 :: u30 :: u31 :: u32 :: u33 :: u34 :: [])), []⟩ w := by
  refine wp_mono (tr1_in cs mb br bs v s1 s2 s3 ex mt w0 h5 h6 hmb hbr hex hmt t2 t3 _ _ _ _ _ _ _ _ _ _ _ _ _ _ _ _ _ _ _ _ _ _ _ _ _ _ _ _ _ _ _ _ _ w hG hR0) ?_
  rintro e a w' h
  obtain ⟨y7, h⟩ := h
  obtain ⟨y8, h⟩ := h
  obtain ⟨y9, h⟩ := h
  obtain ⟨y10, h⟩ := h
  obtain ⟨y11, h⟩ := h
  obtain ⟨y12, h⟩ := h
  obtain ⟨y13, h⟩ := h
  obtain ⟨y14, h⟩ := h
  obtain ⟨y15, h⟩ := h
  obtain ⟨y16, h⟩ := h
  obtain ⟨y17, h⟩ := h
  obtain ⟨y18, h⟩ := h
  obtain ⟨h, rfl, hq⟩ := h
  subst h
  exact hend y7 y8 y9 y10 y11 y12 y13 y14 y15 y16 y17 y18 w' hq
theorem fd_end (cs : Array Value) (mb br n j : Nat) (s3 : Nat × Int) (bs : List Nat) (v : Value) (w0 w5 : World) (A' : Option Addr) (c' : Nat) (hjn : j < n) (hn : n < 256)
    (hG : Mp (cs.setIfInBounds 7 (.slice A' (j + 1) c')) mb w0 w5) (hO : OwnS w5 w0.heap.size 22 1 (.slice A' (j + 1) c') ((tkS bs (j + 1) s3).1.map fun x => [Value.int .u32 (x : Nat)])) (hR : Rdr w5 br bs (tkS bs (j + 1) s3).2.1 (tkS bs (j + 1) s3).2.2 v) :
    (∃ (i : Nat) (A : Option Addr) (c : Nat), Value.int .u64 (((j : Int) + 1)) = .int .u64 (i : Int) ∧ i ≤ n ∧ Mp (cs.setIfInBounds 7 (.slice A i c)) mb w0 w5 ∧ OwnS w5 w0.heap.size 22 1 (.slice A i c) ((tkS bs i s3).1.map fun x => [Value.int .u32 (x : Nat)]) ∧ Rdr w5 br bs (tkS bs i s3).2.1 (tkS bs i s3).2.2 v) ∧
      n - (intOf (Value.int .u64 (((j : Int) + 1)))).toNat < n - (intOf (Value.int .u64 (j : Int))).toNat := by
  exact ⟨⟨j + 1, A', c', rfl, by omega, hG, hO, hR⟩, by simp [intOf]; omega⟩
set_option maxRecDepth 100000 in
set_option maxHeartbeats 4000000 in
theorem takerate_is (cs : Array Value) (mb br p n ex mt : Nat) (s1 s2 s3 : Nat × Int) (bs : List Nat) (f : Int) (v : Value) (w0 w : World) (h5 : cs[5]? = some (.int .u8 0)) (h6 : cs[6]? = some (.int .u32 0)) (h7 : cs[7]? = some (.slice none 0 0)) (hmb : w0.heap.size ≤ mb) (hbr : w0.heap.size ≤ br)
    (hG : Mp cs mb w0 w) (hR : Rdr w br bs p f v) (h1 : tk bs 8 (p, f) = (n, s1)) (h2 : tk bs 6 s1 = (ex, s2)) (h3 : tk bs 18 s2 = (mt, s3)) :
    Calls Try.prog 76 #[.pointer (some ⟨mb, 0, none⟩), .pointer (some ⟨br, 0, none⟩)] w fun e w' => e = .returned (.tuple #[]) ∧ ∃ A c, Mp (((cs.setIfInBounds 5 (.int .u8 (ex : Nat))).setIfInBounds 6 (.int .u32 (mt : Nat))).setIfInBounds 7 (.slice A n c)) mb w0 w' ∧ OwnS w' w0.heap.size 22 1 (.slice A n c) ((tkS bs n s3).1.map fun x => [Value.int .u32 (x : Nat)]) ∧ Rdr w' br bs (tkS bs n s3).2.1 (tkS bs n s3).2.2 v := by
  have hn : n < 256 := by have := tk_lt bs 8 (p, f); rw [h1] at this; simpa using this
  have hex : ex < 64 := by have := tk_lt bs 6 s1; rw [h2] at this; simpa using this
  have hmt : mt < 262144 := by have := tk_lt bs 18 s2; rw [h3] at this; simpa using this
  have T1 := Lib.hid (show ∀ wx, Rdr wx br bs p f v → Calls Try.prog 57 #[.pointer (some ⟨br, 0, none⟩), .int .i64 8] wx (Took wx br bs s1.1 s1.2 v (n : Nat)) from fun wx h => by
    have := tk_is br p 8 bs f v wx h (by omega)
    rw [h1] at this
    exact this)
  have T2 := Lib.hid (show ∀ wx, Rdr wx br bs s1.1 s1.2 v → Calls Try.prog 57 #[.pointer (some ⟨br, 0, none⟩), .int .i64 6] wx (Took wx br bs s2.1 s2.2 v (ex : Nat)) from fun wx h => by
    have := tk_is br s1.1 6 bs s1.2 v wx h (by omega)
    rw [h2] at this
    exact this)
  have T3 := Lib.hid (show ∀ wx, Rdr wx br bs s2.1 s2.2 v → Calls Try.prog 57 #[.pointer (some ⟨br, 0, none⟩), .int .i64 18] wx (Took wx br bs s3.1 s3.2 v (mt : Nat)) from fun wx h => by
    have := tk_is br s2.1 18 bs s2.2 v wx h (by omega)
    rw [h3] at this
    exact this)
  have H5 := Lib.hid h5
  have H6 := Lib.hid h6
  have H7 := Lib.hid h7
  have HG := Lib.hid hG
  have HR := Lib.hid hR
  have hw8 : IntKind.u8.wrap (ex : Int) = (ex : Int) := by rw [IntKind.wrap_u8]; omega
  have hw32 : IntKind.u32.wrap (mt : Int) = (mt : Int) := by rw [IntKind.wrap_u32]; omega
  clear h1 h2 h3 h5 h6 h7 hG hR
  go_enter Try.func76, Try.ntmps76
  go_upto_region 1 with (go_at_call 57; refine (T1.out _ HR.out).mono ?_; rintro e w1 ⟨rfl, hr1, ho1⟩; have R1 := Lib.hid hr1; have G1 := Lib.hid (HG.out.took hbr HR.out ho1); clear hr1 ho1)
  go_upto_region 1 with (fail)
  refine tr1 cs mb br bs v s1 s2 s3 ex mt w0 H5.out H6.out hmb hbr hex hmt T2.out T3.out _ _ _ _ _ _ _ _ _ _ _ _ _ _ _ _ _ _ _ _ _ _ _ _ _ _ _ _ _ _ _ _ _ _ w1 G1.out R1.out ?_
  rintro y7 y8 y9 y10 y11 y12 y13 y14 y15 y16 y17 y18 w4 ⟨hG, hR⟩
  have G4 := Lib.hid hG
  have R4 := Lib.hid hR
  clear hG hR
  have H7b := Lib.hid (show ((cs.setIfInBounds 5 (.int .u8 (ex : Nat))).setIfInBounds 6 (.int .u32 (mt : Nat)))[7]? = some (.slice none 0 0) from by
    rw [Array.getElem?_setIfInBounds_ne (by omega), Array.getElem?_setIfInBounds_ne (by omega)]
    exact H7.out)
  clear R1 G1 HR HG T1 T2 T3 hw8 hw32 H5 H6 H7
  obtain ⟨ds, hds⟩ : ∃ ds, ((cs.setIfInBounds 5 (.int .u8 (ex : Nat))).setIfInBounds 6 (.int .u32 (mt : Nat))) = ds := ⟨_, rfl⟩
  rw [hds] at G4 H7b
  have HDS := Lib.hid hds
  clear hds
  go_wp2
  go_loopw [20] (fun i wr => ∃ (j : Nat) (A : Option Addr) (c : Nat), i = .int .u64 (j : Int) ∧ j ≤ n ∧ Mp (ds.setIfInBounds 7 (.slice A j c)) mb w0 wr ∧ OwnS wr w0.heap.size 22 1 (.slice A j c) ((tkS bs j s3).1.map fun x => [Value.int .u32 (x : Nat)]) ∧ Rdr wr br bs (tkS bs j s3).2.1 (tkS bs j s3).2.2 v) (fun i _ => n - (intOf i).toNat)
  case atStart => exact ⟨0, none, 0, rfl, by omega, by rw [set_self H7b.out]; exact G4.out, OwnS.nil _ _ _ _, R4.out⟩
  case round =>
    obtain ⟨j, A, c, rfl, hj, hG, hown, hR⟩ := hrel
    have GJ := Lib.hid hG
    have OJ := Lib.hid hown
    have RJ := Lib.hid hR
    clear hG hown hR
    by_cases hjn : j < n
    · have hjI : (j : Int) < (n : Int) := by omega
      have hsz : 7 < ds.size := by
        have := Array.getElem?_eq_some_iff.mp H7b.out
        exact this.1
      go_upto_region 4 with (fail)
      refine tr4 (ds.setIfInBounds 7 (.slice A j c)) mb br (tkS bs j s3).2.1 j c bs v A ((tkS bs j s3).1.map fun x => [Value.int .u32 (x : Nat)]) (tk bs 32 (tkS bs j s3).2).1 (tk bs 32 (tkS bs j s3).2).2.1 (tkS bs j s3).2.2 (tk bs 32 (tkS bs j s3).2).2.2 w0 (set_at _ hsz) (by simp [tkS_length]) (by omega) hmb hbr (fun wx h => tk_is br (tkS bs j s3).2.1 32 bs (tkS bs j s3).2.2 v wx h (by omega)) (by have := tk_lt bs 32 (tkS bs j s3).2; simpa using this) _ _ _ _ _ _ _ _ _ _ _ _ _ _ _ _ _ _ _ _ _ _ _ _ _ _ _ _ _ _ _ _ _ _ wr GJ.out RJ.out OJ.out ?_
      rintro y22 y23 y24 y25 y26 y27 y28 y29 y30 y31 y32 y33 w5 ⟨A', c', hG, hown, hR⟩
      rw [set_twice] at hG
      have G2 := Lib.hid hG
      have O2 := Lib.hid (show OwnS w5 w0.heap.size 22 1 (.slice A' (j + 1) c') ((tkS bs (j + 1) s3).1.map fun x => [Value.int .u32 (x : Nat)]) from by
        rw [tkS, List.map_append, List.map_singleton]
        exact hown)
      have R2 := Lib.hid (show Rdr w5 br bs (tkS bs (j + 1) s3).2.1 (tkS bs (j + 1) s3).2.2 v from hR)
      clear hG hown hR GJ OJ RJ
      go_wp2
      exact fd_end ds mb br n j s3 bs v w0 w5 A' c' hjn hn G2.out O2.out R2.out
    · obtain rfl : j = n := by omega
      go_wp2
      exact bodyPost_end (v := .tuple #[]) (by simp [results, Try.results76]) rfl ⟨rfl, A, c, by rw [HDS.out]; exact GJ.out, OJ.out, RJ.out⟩
end Go.Proofs.Ytefcimkopgcagaa

/- feedback.Parse: a sort's parts, taken; two of its regions. Conditions: as each says. -/
set_option linter.unusedVariables false
set_option linter.unusedSimpArgs false
namespace Go.Proofs.Ytefcimkopgcagaa
open Go.RowKit

/-- A message whose parts are taken from a reader that stands at st; where the reader stands then. -/
def tkMs (m : Ms) (bs : List Nat) (st : Nat × Int) : Ms × Nat × Int :=
  if m.sort = 1 then ({ m with pairs := (List.range ((8 * bs.length - st.1) / 32)).map (prAt bs st.1) }, st.1 + 32 * ((8 * bs.length - st.1) / 32), st.2)
  else if m.sort = 3 then ({ m with orders := (List.range ((8 * bs.length - st.1) / 64)).map (odAt bs st.1) }, st.1 + 64 * ((8 * bs.length - st.1) / 64), st.2)
  else if m.sort = 4 then ({ m with exp := (tk bs 6 (tk bs 8 st).2).1, mant := (tk bs 18 (tk bs 6 (tk bs 8 st).2).2).1, srcs := (tkS bs (tk bs 8 st).1 (tk bs 18 (tk bs 6 (tk bs 8 st).2).2).2).1 }, (tkS bs (tk bs 8 st).1 (tk bs 18 (tk bs 6 (tk bs 8 st).2).2).2).2)
  else (m, st)
/-- A message's rows are owned. -/
def OwnM (B : Nat) (m : Ms) (vp vo vs : Value) (w : World) : Prop :=
  OwnS w B 82 2 vp (m.pairs.map Pr.lst) ∧ OwnS w B 85 2 vo (m.orders.map Od.lst) ∧ OwnS w B 22 1 vs (m.srcs.map fun x => [Value.int .u32 (x : Nat)])
theorem own_rdo {w : World} {B : Nat} {T : TypeId} {v : Value} {l : List Od} (h : OwnS w B T 2 v (l.map Od.lst)) : RdO w v l := by
  obtain ⟨A, c, rfl, hc⟩ := OwnS.slice h
  rw [List.length_map] at hc
  refine ⟨A, c, by rw [List.length_map], hc, fun hp => ?_⟩
  obtain ⟨g, c', e, -, -, -, hcell⟩ := OwnS.at_ h (by simpa using hp)
  injection e with e1
  subst e1
  refine ⟨g, 0, rfl, fun i p hi => ?_⟩
  have h0 := hcell i 0 p.lst (by simp [hi]) (by omega)
  have h1 := hcell i 1 p.lst (by simp [hi]) (by omega)
  refine ⟨?_, ?_⟩
  · rw [Nat.zero_add]; exact h0
  · rw [Nat.zero_add]; exact h1
theorem OwnM.rd {B : Nat} {m : Ms} {vp vo vs : Value} {w : World} (h : OwnM B m vp vo vs w) : RdM m vp vo vs w := ⟨OwnP.rd h.1, own_rdo h.2.1, own32s_rd h.2.2⟩
theorem OwnM.only {B : Nat} {m : Ms} {vp vo vs : Value} {w w1 : World} (h : OwnM B m vp vo vs w) (ho : Only (fun _ => False) w w1) : OwnM B m vp vo vs w1 := ⟨OwnS.only h.1 ho (by simp), OwnS.only h.2.1 ho (by simp), OwnS.only h.2.2 ho (by simp)⟩
theorem OwnM.far {B ob : Nat} {m : Ms} {vp vo vs : Value} {w w1 : World} {T : TypeId} {cs : Array Value} (h : OwnM B m vp vo vs w) (hI : Is w ob T cs) (h1 : 82 ≠ T) (h2 : 85 ≠ T) (h3 : 22 ≠ T) (ho : Only (fun k => k = ob) w w1) : OwnM B m vp vo vs w1 :=
  ⟨OwnS.only h.1 ho (fun k hk e => owned_off h.1.1 hI h1 (by rw [hk, e])), OwnS.only h.2.1 ho (fun k hk e => owned_off h.2.1.1 hI h2 (by rw [hk, e])), OwnS.only h.2.2 ho (fun k hk e => owned_off h.2.2.1 hI h3 (by rw [hk, e]))⟩
theorem OwnM.nil (w : World) (B : Nat) (m : Ms) (h1 : m.pairs = []) (h2 : m.orders = []) (h3 : m.srcs = []) : OwnM B m (.slice none 0 0) (.slice none 0 0) (.slice none 0 0) w := by
  unfold OwnM
  rw [h1, h2, h3]
  exact ⟨OwnS.nil _ _ _ _, OwnS.nil _ _ _ _, OwnS.nil _ _ _ _⟩
theorem OwnM.low {B B' : Nat} {m : Ms} {vp vo vs : Value} {w : World} (h : OwnM B m vp vo vs w) (hB : B' ≤ B) : OwnM B' m vp vo vs w := ⟨⟨owned_low h.1.1 hB, h.1.2⟩, ⟨owned_low h.2.1.1 hB, h.2.1.2⟩, ⟨owned_low h.2.2.1 hB, h.2.2.2⟩⟩
def msB (s a b : Nat) : Ms := ⟨s, a, b, [], [], 0, 0, []⟩
/-- A sort's parts are taken: the contract of its function. -/
def Takes (fn : Nat) (m : Ms) (bs : List Nat) (st : Nat × Int) : Prop := ∀ (v : Value) (mb br : Nat) (w0 w : World), Mp (m.cls (.slice none 0 0) (.slice none 0 0) (.slice none 0 0)) mb w0 w → Rdr w br bs st.1 st.2 v → w0.heap.size ≤ mb → w0.heap.size ≤ br →
  Calls Try.prog fn #[.pointer (some ⟨mb, 0, none⟩), .pointer (some ⟨br, 0, none⟩)] w fun e w' => e = .returned (.tuple #[]) ∧ ∃ vp vo vs, Mp ((tkMs m bs st).1.cls vp vo vs) mb w0 w' ∧ OwnM w0.heap.size (tkMs m bs st).1 vp vo vs w' ∧ Rdr w' br bs (tkMs m bs st).2.1 (tkMs m bs st).2.2 v
theorem takes_1 (a b : Nat) (bs : List Nat) (st : Nat × Int) (hl : bs.length ≤ 10000) (hf : st.2 = 0 ∨ (8 * bs.length - st.1) / 32 = 0) : Takes 70 (msB 1 a b) bs st := by
  intro v mb br w0 w hM hR h1 h2
  refine (takepairs_is _ mb br st.1 _ bs st.2 v w0 w rfl hl h1 h2 hM hR rfl hf).mono ?_
  rintro e w' ⟨rfl, A, c, h3, h4, h5⟩
  refine ⟨rfl, _, .slice none 0 0, .slice none 0 0, h3, ⟨h4, OwnS.nil _ _ _ _, OwnS.nil _ _ _ _⟩, h5⟩
theorem takes_3 (a b : Nat) (bs : List Nat) (st : Nat × Int) (hl : bs.length ≤ 10000) (hf : st.2 = 0 ∨ (8 * bs.length - st.1) / 64 = 0) : Takes 74 (msB 3 a b) bs st := by
  intro v mb br w0 w hM hR h1 h2
  refine (takeorders_is _ mb br st.1 _ bs st.2 v w0 w rfl hl h1 h2 hM hR rfl hf).mono ?_
  rintro e w' ⟨rfl, A, c, h3, h4, h5⟩
  refine ⟨rfl, .slice none 0 0, _, .slice none 0 0, h3, ⟨OwnS.nil _ _ _ _, h4, OwnS.nil _ _ _ _⟩, h5⟩
theorem takes_4 (a b : Nat) (bs : List Nat) (st : Nat × Int) : Takes 76 (msB 4 a b) bs st := by
  intro v mb br w0 w hM hR h1 h2
  refine (takerate_is _ mb br st.1 (tk bs 8 st).1 (tk bs 6 (tk bs 8 st).2).1 (tk bs 18 (tk bs 6 (tk bs 8 st).2).2).1 (tk bs 8 st).2 (tk bs 6 (tk bs 8 st).2).2 (tk bs 18 (tk bs 6 (tk bs 8 st).2).2).2 bs st.2 v w0 w rfl rfl rfl h1 h2 hM hR rfl rfl rfl).mono ?_
  rintro e w' ⟨rfl, A, c, h3, h4, h5⟩
  exact ⟨rfl, .slice none 0 0, .slice none 0 0, _, h3, ⟨OwnS.nil _ _ _ _, OwnS.nil _ _ _ _, h4⟩, h5⟩
theorem nothing_is (p q : Value) (w : World) : Calls Try.prog 72 #[p, q] w fun e w' => e = .returned (.tuple #[]) ∧ w = w' := by
  go_enter Try.func72, Try.ntmps72
  go_wp2
  go_end0
  exact ⟨rfl, rfl⟩
theorem takes_2 (a b : Nat) (bs : List Nat) (st : Nat × Int) : Takes 72 (msB 2 a b) bs st := by
  intro v mb br w0 w hM hR h1 h2
  refine (nothing_is _ _ w).mono ?_
  rintro e w' ⟨rfl, rfl⟩
  exact ⟨rfl, .slice none 0 0, .slice none 0 0, .slice none 0 0, hM, OwnM.nil _ _ _ rfl rfl rfl, hR⟩
theorem ftake_1 : ∀ (args : Array Value) (w : World), (callFunc 70 args).run Try.prog w = .ok (.enter 70 args) w := fun _ _ => by kernel_rfl
theorem ftake_2 : ∀ (args : Array Value) (w : World), (callFunc 72 args).run Try.prog w = .ok (.enter 72 args) w := fun _ _ => by kernel_rfl
theorem ftake_3 : ∀ (args : Array Value) (w : World), (callFunc 74 args).run Try.prog w = .ok (.enter 74 args) w := fun _ _ => by kernel_rfl
theorem ftake_4 : ∀ (args : Array Value) (w : World), (callFunc 76 args).run Try.prog w = .ok (.enter 76 args) w := fun _ _ => by kernel_rfl
theorem isnt {T U : TypeId} {w : World} {a b : Nat} {x y : Array Value} (h : Is w a T x) (k : Is w b U y) (hne : T ≠ U) {S : World} (ho : Only (fun j => j = b) w S) : Is S a T x := h.only ho (fun e => Is.apart h k hne e)
abbrev BR (br : Nat) (bs : List Nat) (v : Value) (s : Nat × Int) (w : World) : Prop := Rdr w br bs s.1 s.2 v
def fp5_A : List (List Nat) := ([] :: [] :: [1] :: [2, 1] :: [] :: [4, 2, 1] :: [5, 4, 2, 1] :: [0, 3, 6, 2, 1, 5, 4] :: [] :: (8 :: 7 :: 5 :: 0 :: 1 :: 2 :: 3 :: 4 :: 6 :: []) :: [])
def fp5_kill : List (List Nat) := ([] :: [] :: [10] :: [] :: [] :: [2, 10] :: [] :: [] :: [] :: [2, 5, 8, 10] :: [])
def fp5_uses : List (List Nat) := ([] :: [] :: [10] :: [] :: [] :: [2] :: [] :: [] :: [] :: [8, 5] :: [])
noncomputable def fp5_code : Code := ((Try.f23.body.bind (codeRegion 5)).getD .skip)
set_option maxRecDepth 100000 in
set_option maxHeartbeats 4000000 in
theorem fp5_in (s x1 x2 br : Nat) (bs : List Nat) (v : Value) (a1 a2 : Nat × Int) (h1 : x1 < 4294967296) (h2 : x2 < 4294967296) (t1 : ∀ wx, BR br bs v (0, 0) wx → Calls Try.prog 57 #[.pointer (some ⟨br, 0, none⟩), .int .i64 32] wx (Took wx br bs a1.1 a1.2 v (x1 : Nat))) (t2 : ∀ wx, BR br bs v a1 wx → Calls Try.prog 57 #[.pointer (some ⟨br, 0, none⟩), .int .i64 32] wx (Took wx br bs a2.1 a2.2 v (x2 : Nat))) (u0 u1 u2 u3 u5 u7 u8 u9 u10 u11 u12 u13 u14 u15 u16 u17 u18 u19 u20 u21 u22 u23 u24 u25 u26 u27 u28 u29 u30 u31 u32 u33 u34 u35 u36 u37 u38 u39 u40 u41 u42 u43 u44 u45 u46 u47 u48 u49 u50 u51 u52 u53 u54 u55 u56 u57 u58 u59 u60 u61 u62 : Value) (w : World) (hR0 : BR br bs v (0, 0) w) :
    Code.wp Try.prog fp5_code (fun e a w' => ∃ y7 y23 y24 y25 y26 y27 y28 y29 y30 : Value, a = ⟨(List.toArray (u0 :: u1 :: u2 :: u3 :: .int .u8 (s : Nat) :: u5 :: .pointer (some ⟨br, 0, none⟩) :: y7 :: u8 :: u9 :: u10 :: u11 :: u12 :: u13 :: u14 :: u15 :: u16 :: u17 :: u18 :: u19 :: u20 :: u21 :: u22 :: y23 :: y24 :: y25 :: y26 :: y27 :: y28 :: y29 :: y30 :: u31 :: u32 :: u33 :: u34 :: u35 :: u36 :: u37 :: u38 :: u39 :: u40 :: u41 :: u42 :: u43 :: u44 :: u45 :: u46 :: u47 :: u48 :: u49 :: u50 :: u51 :: u52 :: u53 :: u54 :: u55 :: u56 :: u57 :: u58 :: u59 :: u60 :: u61 :: u62 :: [])), []⟩ ∧ e = .normal ∧ (∃ mb, y7 = .pointer (some ⟨mb, 0, none⟩) ∧ w.heap.size ≤ mb ∧ Is w' mb 27 ((msB s x1 x2).cls (.slice none 0 0) (.slice none 0 0) (.slice none 0 0)) ∧ BR br bs v a2 w' ∧ Only (fun k => k = br) w w')) ⟨(List.toArray (u0 :: u1 :: u2 :: u3 :: .int .u8 (s : Nat) :: u5 :: .pointer (some ⟨br, 0, none⟩) :: u7 :: u8 :: u9 :: u10 :: u11 :: u12 :: u13 :: u14 :: u15 :: u16 :: u17 :: u18 :: u19 :: u20 :: u21 :: u22 :: u23 :: u24 :: u25 :: u26 :: u27 :: u28 :: u29 :: u30 :: u31 :: u32 :: u33 :: u34 :: u35 :: u36 :: u37 :: u38 :: u39 :: u40 :: u41 :: u42 :: u43 :: u44 :: u45 :: u46 :: u47 :: u48 :: u49 :: u50 :: u51 :: u52 :: u53 :: u54 :: u55 :: u56 :: u57 :: u58 :: u59 :: u60 :: u61 :: u62 :: [])), []⟩ w := by
  conv => arg 2; whnf
  have T1 := Lib.hid t1
  have T2 := Lib.hid t2
  have e3 : IntKind.u32.wrap (x1 : Int) = (x1 : Int) := by rw [IntKind.wrap_u32]; omega
  have e4 : IntKind.u32.wrap (x2 : Int) = (x2 : Int) := by rw [IntKind.wrap_u32]; omega
  clear t1 t2 h1 h2
  refine wp_region_text fp5_A [2, 5, 8, 9] [2, 5, 8, 9, 10] fp5_kill fp5_uses [9] [] [] [10]
      (some ?v0 :: some ?v1 :: some (.int .u64 (x1 : Nat)) :: some ?v3 :: some ?v4 :: some (.int .u64 (x2 : Nat)) :: some ?v6 :: some ?v7 :: none :: none :: [])
      ?T (fun wx => Only (fun k => k = br) w wx) ?W ?E (by kernel_rfl) (by kernel_rfl) (by kernel_rfl) (fun x => ?hT) ?hF ?hini (Reg.all_ops ?runs) ?pres ?fin
  case W => exact fun j x w' => match j with | 2 => BR br bs v a1 w' | 5 => BR br bs v a2 w' | 8 => ∃ mb, x 8 = .pointer (some ⟨mb, 0, none⟩) ∧ w.heap.size ≤ mb ∧ Is w' mb 27 ((msB 0 0 0).cls (.slice none 0 0) (.slice none 0 0) (.slice none 0 0)) | 9 => ∃ mb, x 8 = .pointer (some ⟨mb, 0, none⟩) ∧ w.heap.size ≤ mb ∧ Is w' mb 27 ((msB s x1 x2).cls (.slice none 0 0) (.slice none 0 0) (.slice none 0 0)) ∧ BR br bs v a2 w' | 10 => BR br bs v (0, 0) w' | _ => True
  case E => exact fun i wx wy => match i with | 8 => Only (fun _ => False) wx wy | 9 => True | _ => Only (fun k => k = br) wx wy ∧ ∃ ds, Is wx br 127 ds
  case hT =>
    simp only [Reg.fillV, Act.put, List.setIfInBounds_toArray, List.set_cons_zero, List.set_cons_succ]
    rfl
  case runs =>
    refine And.intro ?_ ?_
    · refine Reg.ob_pure (fun _ => rfl) rfl rfl rfl rfl (fun x w1 hF => ?_)
      go_simp
      with_reducible rfl
    refine And.intro ?_ ?_
    · refine Reg.ob_pure (fun _ => rfl) rfl rfl rfl rfl (fun x w1 hF => ?_)
      go_simp
      with_reducible rfl
    refine And.intro ?_ ?_
    · refine Reg.ob_told (fun _ => rfl) rfl (fun x w1 hF hU K hK => ?_)
      replace hF := hF rfl
      obtain ⟨hR, -⟩ := hU
      have hR : BR br bs v (0, 0) w1 := hR
      have HT := T1.out w1 hR
      go_simp
      refine HT.mono ?_
      rintro e w5 ⟨rfl, hR2, ho⟩
      exact hK w5 (fun _ _ _ => hF.trans ho (fun _ _ e => e)) ⟨ho, _, hR.is⟩ hR2
    refine And.intro ?_ ?_
    · refine Reg.ob_pure (fun _ => rfl) rfl rfl rfl rfl (fun x w1 hF => ?_)
      go_simp
      with_reducible rfl
    refine And.intro ?_ ?_
    · refine Reg.ob_pure (fun _ => rfl) rfl rfl rfl rfl (fun x w1 hF => ?_)
      go_simp
      with_reducible rfl
    refine And.intro ?_ ?_
    · refine Reg.ob_told (fun _ => rfl) rfl (fun x w1 hF hU K hK => ?_)
      replace hF := hF rfl
      obtain ⟨hR, -⟩ := hU
      have hR : BR br bs v a1 w1 := hR
      have HT := T2.out w1 hR
      go_simp
      refine HT.mono ?_
      rintro e w5 ⟨rfl, hR2, ho⟩
      exact hK w5 (fun _ _ _ => hF.trans ho (fun _ _ e => e)) ⟨ho, _, hR.is⟩ hR2
    refine And.intro ?_ ?_
    · refine Reg.ob_pure (fun _ => rfl) rfl rfl rfl rfl (fun x w1 hF => ?_)
      go_simp
      with_reducible rfl
    refine And.intro ?_ ?_
    · refine Reg.ob_pure (fun _ => rfl) rfl rfl rfl rfl (fun x w1 hF => ?_)
      go_simp
      with_reducible rfl
    refine And.intro ?_ ?_
    · refine Reg.ob_some (fun _ => rfl) rfl (fun x w1 hF hU K hK => ?_)
      replace hF := hF rfl
      go_simp
      exact hK _ _ (fun _ _ _ => hF.alloc _) ((Only.refl _ _).alloc _) ⟨_, rfl, hF.size, Is.made _ _ _⟩
    refine And.intro ?_ ?_
    · refine Reg.ob_some (fun _ => rfl) rfl (fun x w1 hF hU K hK => ?_)
      replace hF := hF rfl
      obtain ⟨⟨mb, h8, hge, hI⟩, hR, -⟩ := hU
      have h8 : x 8 = .pointer (some ⟨mb, 0, none⟩) := h8
      have hR : BR br bs v a2 w1 := hR
      revert hK
      simp only [Nat.reduceAdd, h8]
      intro hK
      refine wp_store_row 27 _ _ rfl mb ((msB s x1 x2).cls (.slice none 0 0) (.slice none 0 0) (.slice none 0 0)) rfl rfl 27 _ hI Try.sizeMe rfl (by simp [Ms.cls, msB, Value.oneCell']) ?_
      have ho : Only (fun k => k = mb) w1 (w1.setRow mb ((msB s x1 x2).cls (.slice none 0 0) (.slice none 0 0) (.slice none 0 0))) := Only.setRow (S := fun k => k = mb) (Only.refl _ w1) (fun _ => rfl) _
      exact hK undef _ (fun _ _ _ => hF.trans ho (fun i hi e => by omega)) trivial ⟨mb, h8, hge, Is.setRow hI _, Rdr.only hR ho (fun e => Is.apart hI hR.is (by decide) e.symm) (fun k hk e => owned_off hR.row hI (by decide) (by rw [hk, e]))⟩
    exact trivial
  case hF =>
    exact Only.refl _ _
  case hini =>
    exact ⟨fun x => hR0, trivial⟩
  case pres =>
    intro i hi j hj hc x wx wy hF hE hW
    simp only [List.mem_cons, List.mem_nil_iff, or_false] at hi hj
    rcases hi with rfl | rfl | rfl | rfl <;> rcases hj with rfl | rfl | rfl | rfl | rfl
    all_goals first
      | (exfalso; revert hc; decide)
      | exact Rdr.only hW hE (by simp) (by simp)
      | (obtain ⟨ho, ds, hd⟩ := hE; obtain ⟨mb, h8, hge, hI⟩ := hW; exact ⟨mb, h8, hge, isnt hI hd (by decide) ho⟩)
  case fin =>
    rintro x w9 hF hU
    obtain ⟨⟨mb, h8, hge, hI, hR⟩, -⟩ := hU
    repeat apply Exists.intro
    exact ⟨rfl, rfl, mb, h8, hge, hI, hR, hF rfl⟩

set_option maxRecDepth 100000 in
set_option maxHeartbeats 4000000 in
theorem fp5 (s x1 x2 br : Nat) (bs : List Nat) (v : Value) (a1 a2 : Nat × Int) (h1 : x1 < 4294967296) (h2 : x2 < 4294967296) (t1 : ∀ wx, BR br bs v (0, 0) wx → Calls Try.prog 57 #[.pointer (some ⟨br, 0, none⟩), .int .i64 32] wx (Took wx br bs a1.1 a1.2 v (x1 : Nat))) (t2 : ∀ wx, BR br bs v a1 wx → Calls Try.prog 57 #[.pointer (some ⟨br, 0, none⟩), .int .i64 32] wx (Took wx br bs a2.1 a2.2 v (x2 : Nat))) (u0 u1 u2 u3 u5 u7 u8 u9 u10 u11 u12 u13 u14 u15 u16 u17 u18 u19 u20 u21 u22 u23 u24 u25 u26 u27 u28 u29 u30 u31 u32 u33 u34 u35 u36 u37 u38 u39 u40 u41 u42 u43 u44 u45 u46 u47 u48 u49 u50 u51 u52 u53 u54 u55 u56 u57 u58 u59 u60 u61 u62 : Value) (Q : Exit → Act → World → Prop) (w : World) (hR0 : BR br bs v (0, 0) w)
    (hend : ∀ (y7 y23 y24 y25 y26 y27 y28 y29 y30 : Value) (w' : World), (∃ mb, y7 = .pointer (some ⟨mb, 0, none⟩) ∧ w.heap.size ≤ mb ∧ Is w' mb 27 ((msB s x1 x2).cls (.slice none 0 0) (.slice none 0 0) (.slice none 0 0)) ∧ BR br bs v a2 w' ∧ Only (fun k => k = br) w w') → Q .normal ⟨(List.toArray (u0 :: u1 :: u2 :: u3 :: .int .u8 (s : Nat) :: u5 :: .pointer (some ⟨br, 0, none⟩) :: y7 :: u8 :: u9 :: u10 :: u11 :: u12 :: u13 :: u14 :: u15 :: u16 :: u17 :: u18 :: u19 :: u20 :: u21 :: u22 :: y23 :: y24 :: y25 :: y26 :: y27 :: y28 :: y29 :: y30 :: u31 :: u32 :: u33 :: u34 :: u35 :: u36 :: u37 :: u38 :: u39 :: u40 :: u41 :: u42 :: u43 :: u44 :: u45 :: u46 :: u47 :: u48 :: u49 :: u50 :: u51 :: u52 :: u53 :: u54 :: u55 :: u56 :: u57 :: u58 :: u59 :: u60 :: u61 :: u62 :: [])), []⟩ w') :
    Code.wp Try.prog fp5_code Q ⟨(List.toArray (u0 :: u1 :: u2 :: u3 :: .int .u8 (s : Nat) :: u5 :: .pointer (some ⟨br, 0, none⟩) :: u7 :: u8 :: u9 :: u10 :: u11 :: u12 :: u13 :: u14 :: u15 :: u16 :: u17 :: u18 :: u19 :: u20 :: u21 :: u22 :: u23 :: u24 :: u25 :: u26 :: u27 :: u28 :: u29 :: u30 :: u31 :: u32 :: u33 :: u34 :: u35 :: u36 :: u37 :: u38 :: u39 :: u40 :: u41 :: u42 :: u43 :: u44 :: u45 :: u46 :: u47 :: u48 :: u49 :: u50 :: u51 :: u52 :: u53 :: u54 :: u55 :: u56 :: u57 :: u58 :: u59 :: u60 :: u61 :: u62 :: [])), []⟩ w := by
  refine wp_mono (fp5_in s x1 x2 br bs v a1 a2 h1 h2 t1 t2 _ _ _ _ _ _ _ _ _ _ _ _ _ _ _ _ _ _ _ _ _ _ _ _ _ _ _ _ _ _ _ _ _ _ _ _ _ _ _ _ _ _ _ _ _ _ _ _ _ _ _ _ _ _ _ _ _ _ _ _ _ w hR0) ?_
  rintro e a w' h
  obtain ⟨y7, h⟩ := h
  obtain ⟨y23, h⟩ := h
  obtain ⟨y24, h⟩ := h
  obtain ⟨y25, h⟩ := h
  obtain ⟨y26, h⟩ := h
  obtain ⟨y27, h⟩ := h
  obtain ⟨y28, h⟩ := h
  obtain ⟨y29, h⟩ := h
  obtain ⟨y30, h⟩ := h
  obtain ⟨h, rfl, hq⟩ := h
  subst h
  exact hend y7 y23 y24 y25 y26 y27 y28 y29 y30 w' hq
def fp6_A : List (List Nat) := ([] :: [] :: [1] :: [2, 1] :: [0, 3, 2, 1] :: [4, 0, 3, 2, 1] :: [] :: [6] :: (5 :: 7 :: 4 :: 0 :: 3 :: 2 :: 1 :: 6 :: []) :: (8 :: 4 :: 0 :: 1 :: 2 :: 3 :: 5 :: 6 :: 7 :: []) :: [])
def fp6_kill : List (List Nat) := ([] :: [] :: [] :: [] :: [10] :: [4] :: [] :: [] :: [4, 5] :: [] :: [])
def fp6_uses : List (List Nat) := ([] :: [] :: [] :: [] :: [10] :: [4] :: [] :: [] :: [5] :: [] :: [])
noncomputable def fp6_code : Code := ((Try.f23.body.bind (codeRegion 6)).getD .skip)
set_option maxRecDepth 100000 in
set_option maxHeartbeats 4000000 in
theorem fp6_in (s br sb : Nat) (nm : ByteArray) (nd : Bool) (bs : List Nat) (v : Value) (a2 a3 : Nat × Int) (hs2 : (srtV s)[2]? = some (.string nm)) (hnm : nm.size ≤ 100) (hby : ∀ wx, BR br bs v a2 wx → Calls Try.prog 58 #[.pointer (some ⟨br, 0, none⟩), .int .i64 (nm.size : Nat)] wx fun e w' => ∃ A n c out, e = .returned (.slice A n c) ∧ out.length = n ∧ Src w' (.slice A n c) out ∧ ((strOfNums (nats out)).toList == nm.toList) = nd ∧ BR br bs v a3 w' ∧ Only (fun k => k = br) wx w') (u0 u1 u2 u3 u4 u7 u8 u9 u10 u11 u12 u13 u14 u15 u16 u17 u18 u19 u20 u21 u22 u23 u24 u25 u26 u27 u28 u29 u30 u31 u32 u33 u34 u35 u36 u37 u38 u39 u40 u41 u42 u43 u44 u45 u46 u47 u48 u49 u50 u51 u52 u53 u54 u55 u56 u57 u58 u59 u60 u61 u62 : Value) (w : World) (hR0 : BR br bs v a2 w) (hS : Is w sb 93 (srtV s)) :
    Code.wp Try.prog fp6_code (fun e a w' => ∃ y31 y32 y33 y34 y35 y36 y37 y38 y39 : Value, a = ⟨(List.toArray (u0 :: u1 :: u2 :: u3 :: u4 :: .pointer (some ⟨sb, 0, none⟩) :: .pointer (some ⟨br, 0, none⟩) :: u7 :: .bool nd :: u9 :: u10 :: u11 :: u12 :: u13 :: u14 :: u15 :: u16 :: u17 :: u18 :: u19 :: u20 :: u21 :: u22 :: u23 :: u24 :: u25 :: u26 :: u27 :: u28 :: u29 :: u30 :: y31 :: y32 :: y33 :: y34 :: y35 :: y36 :: y37 :: y38 :: y39 :: u40 :: u41 :: u42 :: u43 :: u44 :: u45 :: u46 :: u47 :: u48 :: u49 :: u50 :: u51 :: u52 :: u53 :: u54 :: u55 :: u56 :: u57 :: u58 :: u59 :: u60 :: u61 :: u62 :: [])), []⟩ ∧ e = .normal ∧ (BR br bs v a3 w' ∧ Only (fun k => k = br) w w')) ⟨(List.toArray (u0 :: u1 :: u2 :: u3 :: u4 :: .pointer (some ⟨sb, 0, none⟩) :: .pointer (some ⟨br, 0, none⟩) :: u7 :: u8 :: u9 :: u10 :: u11 :: u12 :: u13 :: u14 :: u15 :: u16 :: u17 :: u18 :: u19 :: u20 :: u21 :: u22 :: u23 :: u24 :: u25 :: u26 :: u27 :: u28 :: u29 :: u30 :: u31 :: u32 :: u33 :: u34 :: u35 :: u36 :: u37 :: u38 :: u39 :: u40 :: u41 :: u42 :: u43 :: u44 :: u45 :: u46 :: u47 :: u48 :: u49 :: u50 :: u51 :: u52 :: u53 :: u54 :: u55 :: u56 :: u57 :: u58 :: u59 :: u60 :: u61 :: u62 :: [])), []⟩ w := by
  conv => arg 2; whnf
  have HBY := Lib.hid hby
  have HS2 := Lib.hid hs2
  clear hby hs2
  refine wp_region_posts fp6_A [4] [4, 5, 8, 10] fp6_kill fp6_uses [8] [] [] [10]
      (some ?v0 :: some ?v1 :: some ?v2 :: some ?v3 :: none :: none :: some ?v6 :: some ?v7 :: some (.bool nd) :: some ?v9 :: [])
      ?T (fun wx => Only (fun k => k = br) w wx ∧ Is wx sb 93 (srtV s)) ?W ?E (by kernel_rfl) (by kernel_rfl) (by kernel_rfl) (fun x => ?hT) ?hF ?hini (Reg.all_ops ?runs) ?pres ?fin
  case W => exact fun j x w' => match j with | 4 => ∃ A n c out, x 4 = .slice A n c ∧ out.length = n ∧ Src w' (.slice A n c) out ∧ ((strOfNums (nats out)).toList == nm.toList) = nd ∧ BR br bs v a3 w' | 5 => ∃ sa, x 5 = .string sa ∧ (sa.toList == nm.toList) = nd ∧ BR br bs v a3 w' | 8 => BR br bs v a3 w' | 10 => BR br bs v a2 w' | _ => True
  case E => exact fun i wx wy => match i with | 4 => Only (fun k => k = br) wx wy | _ => wx = wy
  case hT =>
    simp only [Reg.fillV, Act.put, List.setIfInBounds_toArray, List.set_cons_zero, List.set_cons_succ]
    rfl
  case runs =>
    refine And.intro ?_ ?_
    · refine Reg.ob_pure (fun _ => rfl) rfl rfl rfl rfl (fun x w1 hF => ?_)
      have s2 := (hF.2.cell 2).trans HS2.out
      go_simp
      with_reducible rfl
    refine And.intro ?_ ?_
    · refine Reg.ob_pure (fun _ => rfl) rfl rfl rfl rfl (fun x w1 hF => ?_)
      have s2 := (hF.2.cell 2).trans HS2.out
      go_simp
      with_reducible rfl
    refine And.intro ?_ ?_
    · refine Reg.ob_pure (fun _ => rfl) rfl rfl rfl rfl (fun x w1 hF => ?_)
      have s2 := (hF.2.cell 2).trans HS2.out
      go_simp
      with_reducible rfl
    refine And.intro ?_ ?_
    · refine Reg.ob_pure (fun _ => rfl) rfl rfl rfl rfl (fun x w1 hF => ?_)
      have s2 := (hF.2.cell 2).trans HS2.out
      go_simp
      with_reducible rfl
    refine And.intro ?_ ?_
    · refine Reg.ob_some (fun _ => rfl) rfl (fun x w1 hF hU K hK => ?_)
      replace hF := hF rfl
      obtain ⟨hR, -⟩ := hU
      have hR : BR br bs v a2 w1 := hR
      have HT := HBY.out w1 hR
      go_simp
      refine HT.mono ?_
      rintro e w5 ⟨A, n, c, out, rfl, h1, h2, h3, hR2, ho⟩
      exact hK _ w5 (fun _ _ _ => ⟨hF.1.trans ho (fun _ _ e => e), isnt hF.2 hR.is (by decide) ho⟩) ho ⟨A, n, c, out, rfl, h1, h2, h3, hR2⟩
    refine And.intro ?_ ?_
    · refine Reg.ob_some (fun _ => rfl) rfl (fun x w1 hF hU K hK => ?_)
      obtain ⟨⟨A, n, c, out, h4, hn, hs, hq, hR⟩, -⟩ := hU
      have h4 : x 4 = .slice A n c := h4
      have QC := conv_src hs hn
      revert hK
      simp only [Nat.reduceAdd, h4]
      intro hK
      go_simp
      exact hK _ _ (fun h => by cases h) rfl ⟨_, rfl, hq, hR⟩
    refine And.intro ?_ ?_
    · refine Reg.ob_pure (fun _ => rfl) rfl rfl rfl rfl (fun x w1 hF => ?_)
      have s2 := (hF.2.cell 2).trans HS2.out
      go_simp
      with_reducible rfl
    refine And.intro ?_ ?_
    · refine Reg.ob_pure (fun _ => rfl) rfl rfl rfl rfl (fun x w1 hF => ?_)
      have s2 := (hF.2.cell 2).trans HS2.out
      go_simp
      with_reducible rfl
    refine And.intro ?_ ?_
    · refine Reg.ob_told (fun _ => rfl) rfl (fun x w1 hF hU K hK => ?_)
      obtain ⟨⟨sa, h5, hq, hR⟩, -⟩ := hU
      have h5 : x 5 = .string sa := h5
      revert hK
      simp only [Nat.reduceAdd, h5]
      intro hK
      go_simp
      exact hK _ (fun h => by cases h) rfl hR
    refine And.intro ?_ ?_
    · refine Reg.ob_pure (fun _ => rfl) rfl rfl rfl rfl (fun x w1 hF => ?_)
      have s2 := (hF.2.cell 2).trans HS2.out
      go_simp
      with_reducible rfl
    exact trivial
  case hF =>
    exact ⟨(Only.refl _ _).drewN 1, hS.only ((Only.refl (fun _ => False) _).drewN 1) (by simp)⟩
  case hini =>
    exact ⟨fun x => hR0.drewN 1, trivial⟩
  case pres =>
    intro i hi j hj hc x wx wy hF hE hW
    simp only [List.mem_cons, List.mem_nil_iff, or_false] at hi hj
    subst hi
    rcases hj with rfl | rfl | rfl | rfl
    all_goals (exfalso; revert hc; decide)
  case fin =>
    rintro x w9 hF hU
    obtain ⟨hR, -⟩ := hU
    repeat apply Exists.intro
    exact ⟨rfl, rfl, hR, (hF rfl).1⟩

set_option maxRecDepth 100000 in
set_option maxHeartbeats 4000000 in
theorem fp6 (s br sb : Nat) (nm : ByteArray) (nd : Bool) (bs : List Nat) (v : Value) (a2 a3 : Nat × Int) (hs2 : (srtV s)[2]? = some (.string nm)) (hnm : nm.size ≤ 100) (hby : ∀ wx, BR br bs v a2 wx → Calls Try.prog 58 #[.pointer (some ⟨br, 0, none⟩), .int .i64 (nm.size : Nat)] wx fun e w' => ∃ A n c out, e = .returned (.slice A n c) ∧ out.length = n ∧ Src w' (.slice A n c) out ∧ ((strOfNums (nats out)).toList == nm.toList) = nd ∧ BR br bs v a3 w' ∧ Only (fun k => k = br) wx w') (u0 u1 u2 u3 u4 u7 u8 u9 u10 u11 u12 u13 u14 u15 u16 u17 u18 u19 u20 u21 u22 u23 u24 u25 u26 u27 u28 u29 u30 u31 u32 u33 u34 u35 u36 u37 u38 u39 u40 u41 u42 u43 u44 u45 u46 u47 u48 u49 u50 u51 u52 u53 u54 u55 u56 u57 u58 u59 u60 u61 u62 : Value) (Q : Exit → Act → World → Prop) (w : World) (hR0 : BR br bs v a2 w) (hS : Is w sb 93 (srtV s))
    (hend : ∀ (y31 y32 y33 y34 y35 y36 y37 y38 y39 : Value) (w' : World), (BR br bs v a3 w' ∧ Only (fun k => k = br) w w') → Q .normal ⟨(List.toArray (u0 :: u1 :: u2 :: u3 :: u4 :: .pointer (some ⟨sb, 0, none⟩) :: .pointer (some ⟨br, 0, none⟩) :: u7 :: .bool nd :: u9 :: u10 :: u11 :: u12 :: u13 :: u14 :: u15 :: u16 :: u17 :: u18 :: u19 :: u20 :: u21 :: u22 :: u23 :: u24 :: u25 :: u26 :: u27 :: u28 :: u29 :: u30 :: y31 :: y32 :: y33 :: y34 :: y35 :: y36 :: y37 :: y38 :: y39 :: u40 :: u41 :: u42 :: u43 :: u44 :: u45 :: u46 :: u47 :: u48 :: u49 :: u50 :: u51 :: u52 :: u53 :: u54 :: u55 :: u56 :: u57 :: u58 :: u59 :: u60 :: u61 :: u62 :: [])), []⟩ w') :
    Code.wp Try.prog fp6_code Q ⟨(List.toArray (u0 :: u1 :: u2 :: u3 :: u4 :: .pointer (some ⟨sb, 0, none⟩) :: .pointer (some ⟨br, 0, none⟩) :: u7 :: u8 :: u9 :: u10 :: u11 :: u12 :: u13 :: u14 :: u15 :: u16 :: u17 :: u18 :: u19 :: u20 :: u21 :: u22 :: u23 :: u24 :: u25 :: u26 :: u27 :: u28 :: u29 :: u30 :: u31 :: u32 :: u33 :: u34 :: u35 :: u36 :: u37 :: u38 :: u39 :: u40 :: u41 :: u42 :: u43 :: u44 :: u45 :: u46 :: u47 :: u48 :: u49 :: u50 :: u51 :: u52 :: u53 :: u54 :: u55 :: u56 :: u57 :: u58 :: u59 :: u60 :: u61 :: u62 :: [])), []⟩ w := by
  refine wp_mono (fp6_in s br sb nm nd bs v a2 a3 hs2 hnm hby _ _ _ _ _ _ _ _ _ _ _ _ _ _ _ _ _ _ _ _ _ _ _ _ _ _ _ _ _ _ _ _ _ _ _ _ _ _ _ _ _ _ _ _ _ _ _ _ _ _ _ _ _ _ _ _ _ _ _ _ _ w hR0 hS) ?_
  rintro e a w' h
  obtain ⟨y31, h⟩ := h
  obtain ⟨y32, h⟩ := h
  obtain ⟨y33, h⟩ := h
  obtain ⟨y34, h⟩ := h
  obtain ⟨y35, h⟩ := h
  obtain ⟨y36, h⟩ := h
  obtain ⟨y37, h⟩ := h
  obtain ⟨y38, h⟩ := h
  obtain ⟨y39, h⟩ := h
  obtain ⟨h, rfl, hq⟩ := h
  subst h
  exact hend y31 y32 y33 y34 y35 y36 y37 y38 y39 w' hq
end Go.Proofs.Ytefcimkopgcagaa

/- feedback.Parse's walk, by sort. Conditions: as each says. -/
set_option linter.unusedVariables false
set_option linter.unusedSimpArgs false
namespace Go.Proofs.Ytefcimkopgcagaa
open Go.RowKit

set_option maxRecDepth 100000 in
set_option maxHeartbeats 8000000 in
theorem fparse_sort (s kd ct pad fn x1 x2 : Nat) (nm : ByteArray) (a1 a2 a3 a4 : Nat × Int) (nd : Bool) (m : Ms) (vb : Value) (bs : List Nat) (w : World) (hs : Src w vb bs) (hb : ∀ x ∈ bs, x < 256) (hl : bs.length ≤ 10000)
    (hso : sOf kd ct = s) (hs1 : 1 ≤ s) (hs4 : s ≤ 4) (hc2 : (srtV s)[2]? = some (.string nm)) (hc14 : (srtV s)[14]? = some (.func (.func fn) #[] #[])) (hnm : nm.size ≤ 100)
    (t1 : tk bs 32 (0, 0) = (x1, a1)) (t2 : tk bs 32 a1 = (x2, a2))
    (hby : ∀ (v : Value) (br : Nat) (wx : World), BR br bs v a2 wx → Calls Try.prog 58 #[.pointer (some ⟨br, 0, none⟩), .int .i64 (nm.size : Nat)] wx fun e w' => ∃ A n c out, e = .returned (.slice A n c) ∧ out.length = n ∧ Src w' (.slice A n c) out ∧ ((strOfNums (nats out)).toList == nm.toList) = nd ∧ BR br bs v a3 w' ∧ Only (fun k => k = br) wx w')
    (htk : tkMs (msB s x1 x2) bs a3 = (m, a4)) (hT : Takes fn (msB s x1 x2) bs a3) (hcf : ∀ (args : Array Value) (w : World), (callFunc fn args).run Try.prog w = .ok (.enter fn args) w)
    (hfit : (m.pairs.length ≤ 1000000 ∧ m.orders.length ≤ 1000000 ∧ m.srcs.length ≤ 1000000) ∧ m.mant < 4294967296 ∧ m.exp < 256)
    (an : Ms × Int) (han : an = if nd = true ∧ a4.2 = 0 ∧ 8 * bs.length - a4.1 = 0 ∧ rightMs m = true then (m, 0) else (ms0, 63)) :
    Calls Try.prog 23 #[.agg #[.int .u8 (ct : Nat), .int .u8 (kd : Nat), vb, .int .u8 (pad : Nat)]] w fun e w' => ∃ vp vo vs, e = .returned (.tuple #[.agg (an.1.cls vp vo vs), .int .i64 an.2]) ∧ OwnM w.heap.size an.1 vp vo vs w' ∧ Only (fun _ => False) w w' := by
  have HS := Lib.hid hs
  have HB := Lib.hid hb
  have HL := Lib.hid hl
  have HSB := Lib.hid (fun wx => sortby_is kd ct wx)
  rw [hso] at HSB
  have HZ := Lib.hid (show _ ∧ _ ∧ _ from ⟨srt_size s hs1 hs4, srt_hold s hs1 hs4, srt_one s hs1 hs4⟩)
  have HC2 := Lib.hid hc2
  have HC14 := Lib.hid hc14
  have HNM := Lib.hid hnm
  have hx1 : x1 < 4294967296 := by have := tk_lt bs 32 (0, 0); rw [t1] at this; simpa using this
  have hx2 : x2 < 4294967296 := by have := tk_lt bs 32 a1; rw [t2] at this; simpa using this
  have T1 := Lib.hid (show ∀ br v wx, BR br bs v (0, 0) wx → Calls Try.prog 57 #[.pointer (some ⟨br, 0, none⟩), .int .i64 32] wx (Took wx br bs a1.1 a1.2 v (x1 : Nat)) from fun br v wx h => by
    have := tk_is br 0 32 bs 0 v wx h (by omega)
    rw [t1] at this
    exact this)
  have T2 := Lib.hid (show ∀ br v wx, BR br bs v a1 wx → Calls Try.prog 57 #[.pointer (some ⟨br, 0, none⟩), .int .i64 32] wx (Took wx br bs a2.1 a2.2 v (x2 : Nat)) from fun br v wx h => by
    have := tk_is br a1.1 32 bs a1.2 v wx h (by omega)
    rw [t2] at this
    exact this)
  have HX := Lib.hid (show x1 < 4294967296 ∧ x2 < 4294967296 from ⟨hx1, hx2⟩)
  have HBY := Lib.hid hby
  have HTK := Lib.hid htk
  have HT := Lib.hid hT
  have HCF := Lib.hid hcf
  have HFIT := Lib.hid hfit
  have HANS := Lib.hid han
  have hz0 : ((s : Int) == 0) = false := by rw [beq_eq_false_iff_ne]; omega
  clear hs hb hl hso hs1 hs4 hc2 hc14 hnm t1 t2 hby htk hT hcf hfit han hx1 hx2
  go_enter Try.func23, Try.ntmps23
  go_upto_region 1 with (fail)
  generalize hw0 : World.alloc _ _ = w0
  obtain ⟨pb, hpb⟩ : ∃ k, w.heap.size = k := ⟨_, rfl⟩
  obtain ⟨rb, hrb⟩ : ∃ k, w.heap.size + 1 = k := ⟨_, rfl⟩
  have I0 := Lib.hid (show Is w0 pb 41 #[.int .u8 (ct : Nat), .int .u8 (kd : Nat), vb, .int .u8 (pad : Nat)] from by rw [← hw0, ← hpb]; exact (Is.made _ _ _).alloc _)
  have R0 := Lib.hid (show Is w0 rb 27 ((msB 0 0 0).cls (.slice none 0 0) (.slice none 0 0) (.slice none 0 0)) from by rw [← hw0, ← hrb]; have h := Is.made (w.alloc (.cells #[.int .u8 (ct : Nat), .int .u8 (kd : Nat), vb, .int .u8 (pad : Nat)] 41)) 27 ((msB 0 0 0).cls (.slice none 0 0) (.slice none 0 0) (.slice none 0 0)); rw [World.size_alloc] at h; exact h)
  have P0 := Lib.hid (show Only (fun _ => False) w w0 from by rw [← hw0]; exact ((Only.refl _ w).alloc _).alloc _)
  have HRB := Lib.hid (show w.heap.size ≤ rb from by omega)
  rw [hrb, hpb]
  clear hw0 hpb hrb
  have c0 := I0.out.cell 0
  have c1 := I0.out.cell 1
  simp at c0 c1
  go_upto_region 2 with (first
    | (go_at_call 55; refine (HSB.out _).mono ?_; rintro e w2 ⟨rfl, ho2⟩; have O2 := Lib.hid ho2; clear ho2)
    | (refine wpList_store_is rfl 93 _ _ rfl w2.heap.size (srtV s) rfl rfl 93 (srtV 0) (Is.made w2 _ (srtV 0)) HZ.out.1 HZ.out.2.1 HZ.out.2.2 ?_; intro w3 hi3 ho3; have O3 := Lib.hid (fb_made ho3); have S3 := Lib.hid hi3; clear hi3 ho3))
  generalize w2.heap.size = sb at *
  have P3 := Lib.hid (only_more P0.out (only_more O2.out O3.out))
  have I3 := Lib.hid (I0.out.only (only_more O2.out O3.out) (by simp))
  have R3 := Lib.hid (R0.out.only (only_more O2.out O3.out) (by simp))
  clear I0 R0 P0 O2 O3 c0 c1
  have c2 := I3.out.cell 2
  simp at c2
  go_upto_region 5 with (go_at_call 56; refine (of_src vb bs _ 0 (Nat.zero_le _) (HS.out.of_only P3.out) (by have := HL.out; omega)).mono ?_; rintro e w4 ⟨br, rv, rfl, hbr, hir, hor, -, ho4⟩; have O4 := Lib.hid ho4; have BR4 := Lib.hid (show BR br bs rv (0, 0) w4 from ⟨hir, hor, HB.out, by have := HL.out; omega, Nat.zero_le _⟩); have HBR := Lib.hid hbr; clear hbr hir hor ho4)
  have S4 := Lib.hid (S3.out.only O4.out (by simp))
  refine fp5 s x1 x2 br bs rv a1 a2 HX.out.1 HX.out.2 (fun wx h => T1.out br rv wx h) (fun wx h => T2.out br rv wx h) _ _ _ _ _ _ _ _ _ _ _ _ _ _ _ _ _ _ _ _ _ _ _ _ _ _ _ _ _ _ _ _ _ _ _ _ _ _ _ _ _ _ _ _ _ _ _ _ _ _ _ _ _ _ _ _ _ _ _ _ _ _ w4 BR4.out ?_
  rintro y7 y23 y24 y25 y26 y27 y28 y29 y30 w5 ⟨mb, rfl, hge, hI5, hR5, ho5⟩
  have M5 := Lib.hid (show Mp ((msB s x1 x2).cls (.slice none 0 0) (.slice none 0 0) (.slice none 0 0)) mb w3 w5 from ⟨hI5, O4.out.trans ho5 (fun i hi e => by have := HBR.out; omega)⟩)
  have BR5 := Lib.hid hR5
  have HMB := Lib.hid (show w3.heap.size ≤ mb from Nat.le_trans O4.out.size hge)
  have S5 := Lib.hid (isnt S4.out BR4.out.is (by decide) ho5)
  clear hI5 hR5 ho5 hge S4 BR4 c2
  go_upto_region 6 with (fail)
  refine fp6 s br sb nm nd bs rv a2 a3 HC2.out HNM.out (fun wx h => HBY.out rv br wx h) _ _ _ _ _ _ _ _ _ _ _ _ _ _ _ _ _ _ _ _ _ _ _ _ _ _ _ _ _ _ _ _ _ _ _ _ _ _ _ _ _ _ _ _ _ _ _ _ _ _ _ _ _ _ _ _ _ _ _ _ _ _ w5 BR5.out S5.out ?_
  rintro y31 y32 y33 y34 y35 y36 y37 y38 y39 w6 ⟨hR6, ho6⟩
  have M6 := Lib.hid (M5.out.took HBR.out BR5.out ho6)
  have S6 := Lib.hid (isnt S5.out BR5.out.is (by decide) ho6)
  have BR6 := Lib.hid hR6
  clear hR6 ho6 M5 S5 BR5 O4
  have s14 := (S6.out.cell 14).trans HC14.out
  go_upto_region 8 with (fail)
  rw [HCF.out]
  simp only [Oper.upon]
  refine (HT.out rv mb br w3 w6 M6.out BR6.out HMB.out HBR.out).mono ?_
  rintro e w7 ⟨rfl, vp, vo, vs, hM, hW, hR⟩
  rw [HTK.out] at hM hW hR
  have G7 := Lib.hid hM
  have W7 := Lib.hid hW
  have R7 := Lib.hid hR
  clear hM hW hR M6 S6 BR6 s14 HTK HT HCF HBY T1 T2 HX
  have RB := Lib.hid (R3.out.only G7.out.pure (by simp))
  have OO := Lib.hid (only_more P3.out G7.out.pure)
  have HW3 := Lib.hid (show w.heap.size ≤ w3.heap.size from P3.out.size)
  clear R3 I3 S3
  go_upto_region 8 with (fail)
  obtain _ | _ := nd
  · have HAN := Lib.hid (show an = (ms0, 63) from by rw [HANS.out, if_neg (fun h => by cases h.1)])
    clear HANS
    go_wp2_with (refine wpList_store_is rfl 27 _ _ rfl rb ((msB 0 0 0).cls (.slice none 0 0) (.slice none 0 0) (.slice none 0 0)) rfl rfl 27 _ RB.out Try.sizeMe rfl (by simp [Ms.cls, msB, Value.oneCell']) ?_; intro w8 hi8 ho8)
    refine bodyPost_ret (res_pair Try.results23 _ w8 rb 27 _ _ _ rfl rfl hi8 Try.underlying27 rfl Try.sizeMe) rfl ?_
    exact ⟨.slice none 0 0, .slice none 0 0, .slice none 0 0, by rw [HAN.out]; rfl, by rw [HAN.out]; exact OwnM.nil _ _ _ rfl rfl rfl, OO.out.trans ho8 (fun i hi e => by have := HRB.out; omega)⟩
  have HER := Lib.hid (fun (wx : World) (h : Rdr wx br bs a4.1 a4.2 rv) => err_rdr br a4.1 bs a4.2 rv wx h)
  have HLE := Lib.hid (fun (wx : World) (h : Rdr wx br bs a4.1 a4.2 rv) => left_rdr br a4.1 bs a4.2 rv wx h)
  obtain ⟨p4, f4⟩ := a4
  simp only at HER HLE HANS R7
  by_cases hf : f4 = 0
  · subst hf
    obtain ⟨L, hL⟩ : ∃ L, 8 * bs.length - p4 = L := ⟨_, rfl⟩
    rw [hL] at HLE HANS
    clear hL
    by_cases hL0 : L = 0
    · subst hL0
      obtain ⟨r, hr⟩ : ∃ r, rightMs m = r := ⟨_, rfl⟩
      have HRI := Lib.hid (fun (wx : World) (h : RdM m vp vo vs wx) => fright_is m vp vo vs wx h HFIT.out.1 HFIT.out.2.1 HFIT.out.2.2)
      rw [hr] at HRI HANS
      clear hr
      go_wp2_with fail
      refine (HER.out _ R7.out).mono ?_
      rintro e w9 ⟨rfl, rfl⟩
      go_wp2_with fail
      refine (HLE.out _ R7.out).mono ?_
      rintro e w9 ⟨rfl, d9, rfl⟩
      have od := only_drewN w7 d9
      have G9 := Lib.hid (G7.out.go od)
      have W9 := Lib.hid (W7.out.only od)
      have RB9 := Lib.hid (RB.out.only od (by simp))
      have OO9 := Lib.hid (OO.out.trans od (fun _ _ e => e))
      clear G7 W7 RB OO od R7
      generalize w7.drewN d9 = w9 at *
      go_wp2_with (refine wpList_load_want (o := ⟨some 57, _, _, _, _, _⟩) rfl _ _ rfl mb rfl _ _ _ G9.out.io Try.underlying27 rfl Try.sizeMe ?_)
      refine (HRI.out _ W9.out.rd).mono ?_
      rintro e w10 ⟨rfl, ho⟩
      have G7 := Lib.hid (G9.out.go ho)
      have W7 := Lib.hid (W9.out.only ho)
      have RB := Lib.hid (RB9.out.only ho (by simp))
      have OO := Lib.hid (OO9.out.trans ho (fun _ _ e => e))
      clear G9 W9 RB9 OO9 ho
      obtain _ | _ := r
      · have HAN := Lib.hid (show an = (ms0, 63) from by rw [HANS.out, if_neg (fun h => by cases h.2.2.2)])
        clear HANS
        go_wp2_with (refine wpList_store_is rfl 27 _ _ rfl rb ((msB 0 0 0).cls (.slice none 0 0) (.slice none 0 0) (.slice none 0 0)) rfl rfl 27 _ RB.out Try.sizeMe rfl (by simp [Ms.cls, msB, Value.oneCell']) ?_; intro w8 hi8 ho8)
        refine bodyPost_ret (res_pair Try.results23 _ w8 rb 27 _ _ _ rfl rfl hi8 Try.underlying27 rfl Try.sizeMe) rfl ?_
        exact ⟨.slice none 0 0, .slice none 0 0, .slice none 0 0, by rw [HAN.out]; rfl, by rw [HAN.out]; exact OwnM.nil _ _ _ rfl rfl rfl, OO.out.trans ho8 (fun i hi e => by have := HRB.out; omega)⟩
      · have HAN := Lib.hid (show an = (m, 0) from by rw [HANS.out]; exact if_pos (by simp))
        have HONE := Lib.hid (Ms.one m (vp := vp) (vo := vo) (vs := vs) (by obtain ⟨A, c, h, -⟩ := OwnS.slice W7.out.1; exact ⟨_, _, _, h⟩) (by obtain ⟨A, c, h, -⟩ := OwnS.slice W7.out.2.1; exact ⟨_, _, _, h⟩) (by obtain ⟨A, c, h, -⟩ := OwnS.slice W7.out.2.2; exact ⟨_, _, _, h⟩))
        clear HANS
        go_wp2_with (first
          | (refine wpList_load_want (o := ⟨some 62, _, _, _, _, _⟩) rfl _ _ rfl mb rfl _ _ _ G7.out.io Try.underlying27 rfl Try.sizeMe ?_)
          | (refine wpList_store_is rfl 27 _ _ rfl rb (m.cls vp vo vs) rfl rfl 27 _ RB.out Try.sizeMe rfl HONE.out ?_; intro w8 hi8 ho8))
        refine bodyPost_ret (res_pair Try.results23 _ w8 rb 27 _ _ _ rfl rfl hi8 Try.underlying27 rfl Try.sizeMe) rfl ?_
        exact ⟨vp, vo, vs, by rw [HAN.out]; rfl, by rw [HAN.out]; exact OwnM.low (W7.out.far RB.out (by decide) (by decide) (by decide) ho8) HW3.out, OO.out.trans ho8 (fun i hi e => by have := HRB.out; omega)⟩
    · have HAN := Lib.hid (show an = (ms0, 63) from by rw [HANS.out, if_neg (fun h => hL0 h.2.2.1)])
      have hLI : (0 : Int) < (L : Int) := by omega
      clear HANS
      go_wp2_with fail
      refine (HER.out _ R7.out).mono ?_
      rintro e w9 ⟨rfl, rfl⟩
      go_wp2_with fail
      refine (HLE.out _ R7.out).mono ?_
      rintro e w9 ⟨rfl, d9, rfl⟩
      have od := only_drewN w7 d9
      have RB9 := Lib.hid (RB.out.only od (by simp))
      have OO9 := Lib.hid (OO.out.trans od (fun _ _ e => e))
      clear G7 W7 RB OO od R7
      generalize w7.drewN d9 = w9 at *
      have RB := RB9
      have OO := OO9
      clear RB9 OO9
      go_wp2_with (refine wpList_store_is rfl 27 _ _ rfl rb ((msB 0 0 0).cls (.slice none 0 0) (.slice none 0 0) (.slice none 0 0)) rfl rfl 27 _ RB.out Try.sizeMe rfl (by simp [Ms.cls, msB, Value.oneCell']) ?_; intro w8 hi8 ho8)
      refine bodyPost_ret (res_pair Try.results23 _ w8 rb 27 _ _ _ rfl rfl hi8 Try.underlying27 rfl Try.sizeMe) rfl ?_
      exact ⟨.slice none 0 0, .slice none 0 0, .slice none 0 0, by rw [HAN.out]; rfl, by rw [HAN.out]; exact OwnM.nil _ _ _ rfl rfl rfl, OO.out.trans ho8 (fun i hi e => by have := HRB.out; omega)⟩
  · have HAN := Lib.hid (show an = (ms0, 63) from by rw [HANS.out, if_neg (fun h => hf h.2.1)])
    have hfI : (f4 == 0) = false := by rw [beq_eq_false_iff_ne]; exact hf
    clear HANS
    go_wp2_with fail
    refine (HER.out _ R7.out).mono ?_
    rintro e w9 ⟨rfl, rfl⟩
    go_wp2_with (refine wpList_store_is rfl 27 _ _ rfl rb ((msB 0 0 0).cls (.slice none 0 0) (.slice none 0 0) (.slice none 0 0)) rfl rfl 27 _ RB.out Try.sizeMe rfl (by simp [Ms.cls, msB, Value.oneCell']) ?_; intro w8 hi8 ho8)
    refine bodyPost_ret (res_pair Try.results23 _ w8 rb 27 _ _ _ rfl rfl hi8 Try.underlying27 rfl Try.sizeMe) rfl ?_
    exact ⟨.slice none 0 0, .slice none 0 0, .slice none 0 0, by rw [HAN.out]; rfl, by rw [HAN.out]; exact OwnM.nil _ _ _ rfl rfl rfl, OO.out.trans ho8 (fun i hi e => by have := HRB.out; omega)⟩
end Go.Proofs.Ytefcimkopgcagaa

/- What feedback.Parse tells is what the document does, plainly. Conditions: as each says. -/
set_option linter.unusedVariables false
set_option linter.unusedSimpArgs false
namespace Go.Proofs.Ytefcimkopgcagaa
open Go.RowKit

/-- What a reader gives when n bytes are asked of it, and where it stands then. -/
def bys (bs : List Nat) (n : Nat) (s : Nat × Int) : List Nat × Nat × Int :=
  if asked s.2 n 9223372036854775807 (8 * bs.length - s.1) 8 = 0 then (bytesAt bs s.1 n, s.1 + 8 * n, 0) else ([], s.1, asked s.2 n 9223372036854775807 (8 * bs.length - s.1) 8)
theorem bys_bad (bs : List Nat) (n : Nat) (s : Nat × Int) (h : s.2 ≠ 0) : (bys bs n s).2.1 = s.1 ∧ (bys bs n s).2.2 ≠ 0 := by
  have hne : asked s.2 n 9223372036854775807 (8 * bs.length - s.1) 8 ≠ 0 := fun e => h (asked_ok e).1
  unfold bys
  rw [if_neg hne]
  exact ⟨rfl, hne⟩
theorem bys_ok (bs : List Nat) (n p : Nat) (hn : n ≤ 100) (h : p + 8 * n ≤ 8 * bs.length) : bys bs n (p, 0) = (bytesAt bs p n, p + 8 * n, 0) := by
  have e : asked 0 n 9223372036854775807 (8 * bs.length - p) 8 = 0 := asked_zero (by omega) (by omega) (by omega)
  unfold bys
  rw [if_pos e]
theorem bys_short (bs : List Nat) (n p : Nat) (h : 8 * bs.length < p + 8 * n) (hp : p ≤ 8 * bs.length) : (bys bs n (p, 0)).2.1 = p ∧ (bys bs n (p, 0)).2.2 ≠ 0 := by
  have e : asked 0 n 9223372036854775807 (8 * bs.length - p) 8 ≠ 0 := fun e => by
    have := (asked_ok e).2.2.2
    omega
  unfold bys
  rw [if_neg e]
  exact ⟨rfl, e⟩
theorem bys_is (b n : Nat) (bs : List Nat) (v : Value) (st : Nat × Int) (nm : ByteArray) (w : World) (hn : nm.size = n) (hn8 : n ≤ 100) (h : BR b bs v st w) :
    Calls Try.prog 58 #[.pointer (some ⟨b, 0, none⟩), .int .i64 (nm.size : Nat)] w fun e w' => ∃ A k c out, e = .returned (.slice A k c) ∧ out.length = k ∧ Src w' (.slice A k c) out ∧ ((strOfNums (nats out)).toList == nm.toList) = ((strOfNums (nats (bys bs n st).1)).toList == nm.toList) ∧ BR b bs v (bys bs n st).2 w' ∧ Only (fun k => k = b) w w' := by
  subst hn
  by_cases ha : asked st.2 (nm.size : Nat) 9223372036854775807 (8 * bs.length - st.1) 8 = 0
  · obtain ⟨hf, -, -, hle⟩ := asked_ok ha
    have hp := h.place
    obtain ⟨p, f⟩ := st
    simp only at hf hp hle ha
    subst hf
    have e : bys bs nm.size (p, 0) = (bytesAt bs p nm.size, p + 8 * nm.size, 0) := bys_ok bs _ p hn8 (by omega)
    rw [e]
    refine (bytes_ok b p nm.size bs v w h (by omega)).mono ?_
    rintro e w' ⟨u, rfl, hu, hr, ho⟩
    obtain ⟨A, c, rfl, -⟩ := own_slice hu
    exact ⟨A, _, c, _, rfl, rfl, Src.of_own hu, rfl, hr, ho⟩
  · have e : bys bs nm.size st = ([], st.1, asked st.2 (nm.size : Nat) 9223372036854775807 (8 * bs.length - st.1) 8) := by
      unfold bys
      rw [if_neg ha]
    rw [e]
    refine (bytes_fail b st.1 bs st.2 (nm.size : Nat) _ v w h rfl ha).mono ?_
    rintro e w' ⟨rfl, hr, ho⟩
    exact ⟨none, 0, 0, [], rfl, rfl, .inl ⟨rfl, rfl⟩, rfl, hr, ho⟩
theorem tkMs_bad (m : Ms) (bs : List Nat) (st : Nat × Int) (h : st.2 ≠ 0) : (tkMs m bs st).2.2 ≠ 0 := by
  unfold tkMs
  split
  · exact h
  split
  · exact h
  split
  · exact tkS_bad bs _ (tk_bad bs 18 _ (tk_bad bs 6 _ (tk_bad bs 8 st h).2).2).2 _
  · exact h
/-- The two numbers ahead. -/
theorem head_long (bs : List Nat) (hb : ∀ x ∈ bs, x < 256) (h : 8 ≤ bs.length) : tk bs 32 (0, 0) = (fourB bs 0, 32, 0) ∧ tk bs 32 (32, 0) = (fourB bs 4, 64, 0) := by
  have e1 := num_four bs 0 hb (by omega)
  have e2 := num_four bs 4 hb (by omega)
  rw [Nat.mul_zero] at e1
  rw [tk_ok bs 32 0 (by omega) (by omega), tk_ok bs 32 32 (by omega) (by omega), e1, ← e2]
  exact ⟨rfl, rfl⟩
theorem head_short (bs : List Nat) (h : bs.length < 8) : (tk bs 32 (tk bs 32 (0, 0)).2).2.2 ≠ 0 ∧ 8 * bs.length - (tk bs 32 (tk bs 32 (0, 0)).2).2.1 < 32 := by
  by_cases h4 : 4 ≤ bs.length
  · rw [tk_ok bs 32 0 (by omega) (by omega)]
    obtain ⟨h1, h2⟩ := tk_short bs 32 32 (by omega) (by omega)
    simp only [Nat.zero_add]
    exact ⟨h2, by rw [h1]; omega⟩
  · obtain ⟨h1, h2⟩ := tk_short bs 32 0 (by omega) (by omega)
    obtain ⟨h3, h5⟩ := tk_bad bs 32 _ h2
    exact ⟨h5, by rw [h3, h1]; omega⟩
def nmS (s : Nat) : ByteArray := if s = 4 then ⟨#[82, 69, 77, 66]⟩ else ⟨#[]⟩
/-- What the program tells, plainly: the message in the making, and where the reader stands. -/
def fnd (s : Nat) (bs : List Nat) : Bool := (strOfNums (nats (bys bs (nmS s).size (tk bs 32 (tk bs 32 (0, 0)).2).2).1)).toList == (nmS s).toList
def fmk (s : Nat) (bs : List Nat) : Ms × Nat × Int := tkMs (msB s (tk bs 32 (0, 0)).1 (tk bs 32 (tk bs 32 (0, 0)).2).1) bs (bys bs (nmS s).size (tk bs 32 (tk bs 32 (0, 0)).2).2).2
def fans (s : Nat) (bs : List Nat) : Ms × Int := if fnd s bs = true ∧ (fmk s bs).2.2 = 0 ∧ 8 * bs.length - (fmk s bs).2.1 = 0 ∧ rightMs (fmk s bs).1 = true then ((fmk s bs).1, 0) else (ms0, 63)
theorem fans_short (s : Nat) (bs : List Nat) (h : bs.length < 8) : fans s bs = (ms0, 63) := by
  unfold fans
  rw [if_neg]
  rintro ⟨-, h2, -, -⟩
  exact tkMs_bad _ _ _ (bys_bad _ _ _ (head_short bs h).1).2 h2
theorem nil_str : ((strOfNums (nats [])).toList == (⟨#[]⟩ : ByteArray).toList) = true := by
  rw [ByteArray.toList_eq, ByteArray.toList_eq, strOfNums_data]
  rfl
theorem fmk_low (s : Nat) (bs : List Nat) (hb : ∀ x ∈ bs, x < 256) (h : 8 ≤ bs.length) (hs : s ≠ 4) : fnd s bs = true ∧ fmk s bs = tkMs (msB s (fourB bs 0) (fourB bs 4)) bs (64, 0) := by
  obtain ⟨h1, h2⟩ := head_long bs hb h
  have e : nmS s = ⟨#[]⟩ := if_neg hs
  unfold fnd fmk
  rw [h1, h2, e]
  have e0 : bys bs (⟨#[]⟩ : ByteArray).size (64, 0) = ([], 64, 0) := bys_ok bs 0 64 (by omega) (by omega)
  rw [e0]
  exact ⟨nil_str, rfl⟩
theorem map_eq {α : Type} (f g : Nat → α) (n : Nat) (h : ∀ j, j < n → f j = g j) : (List.range n).map f = (List.range n).map g := by
  apply List.map_congr_left
  intro j hj
  exact h j (List.mem_range.1 hj)
theorem tkMs_1 (a b : Nat) (bs : List Nat) (st : Nat × Int) : tkMs (msB 1 a b) bs st = ({ msB 1 a b with pairs := (List.range ((8 * bs.length - st.1) / 32)).map (prAt bs st.1) }, st.1 + 32 * ((8 * bs.length - st.1) / 32), st.2) := rfl
theorem tkMs_2 (a b : Nat) (bs : List Nat) (st : Nat × Int) : tkMs (msB 2 a b) bs st = (msB 2 a b, st) := rfl
theorem tkMs_3 (a b : Nat) (bs : List Nat) (st : Nat × Int) : tkMs (msB 3 a b) bs st = ({ msB 3 a b with orders := (List.range ((8 * bs.length - st.1) / 64)).map (odAt bs st.1) }, st.1 + 64 * ((8 * bs.length - st.1) / 64), st.2) := rfl
theorem tkMs_4 (a b : Nat) (bs : List Nat) (st : Nat × Int) : tkMs (msB 4 a b) bs st = ({ msB 4 a b with exp := (tk bs 6 (tk bs 8 st).2).1, mant := (tk bs 18 (tk bs 6 (tk bs 8 st).2).2).1, srcs := (tkS bs (tk bs 8 st).1 (tk bs 18 (tk bs 6 (tk bs 8 st).2).2).2).1 }, (tkS bs (tk bs 8 st).1 (tk bs 18 (tk bs 6 (tk bs 8 st).2).2).2).2) := rfl
theorem fans_1 (bs : List Nat) (hb : ∀ x ∈ bs, x < 256) (hl : bs.length ≤ 10000) (h : 8 ≤ bs.length) :
    fans 1 bs = if 4 ≤ bs.length - 8 ∧ (bs.length - 8) % 4 = 0 then ({ msAt 1 bs with pairs := (List.range ((bs.length - 8) / 4)).map (pairAt bs) }, 0) else (ms0, 63) := by
  obtain ⟨h1, h2⟩ := fmk_low 1 bs hb h (by decide)
  unfold fans
  have hn : (8 * bs.length - 64) / 32 = (bs.length - 8) / 4 := by omega
  rw [h1, h2, tkMs_1, hn]
  by_cases hc : 4 ≤ bs.length - 8 ∧ (bs.length - 8) % 4 = 0
  · rw [if_pos hc]
    rw [if_pos]
    · rw [map_eq (prAt bs 64) (pairAt bs) _ (fun j hj => prAt_is bs j hb (by omega))]
      rfl
    · refine ⟨rfl, rfl, by show 8 * bs.length - (64 + 32 * ((bs.length - 8) / 4)) = 0; omega, decide_eq_true ?_⟩
      unfold okMs
      simp [msB]
      omega
  · rw [if_neg hc, if_neg]
    rintro ⟨-, -, h3, h4⟩
    have h3 : 8 * bs.length - (64 + 32 * ((bs.length - 8) / 4)) = 0 := h3
    have h5 := of_decide_eq_true h4
    unfold okMs at h5
    simp [msB] at h5
    omega
theorem fans_2 (bs : List Nat) (hb : ∀ x ∈ bs, x < 256) (h : 8 ≤ bs.length) : fans 2 bs = if bs.length - 8 = 0 then (msAt 2 bs, 0) else (ms0, 63) := by
  obtain ⟨h1, h2⟩ := fmk_low 2 bs hb h (by decide)
  unfold fans
  rw [h1, h2, tkMs_2]
  by_cases hc : bs.length - 8 = 0
  · rw [if_pos hc, if_pos ⟨rfl, rfl, by show 8 * bs.length - 64 = 0; omega, decide_eq_true (by unfold okMs; simp [msB])⟩]
    rfl
  · rw [if_neg hc, if_neg (fun h => hc (by have h9 : 8 * bs.length - 64 = 0 := h.2.2.1; omega))]
theorem fans_3 (bs : List Nat) (hb : ∀ x ∈ bs, x < 256) (hl : bs.length ≤ 10000) (h : 8 ≤ bs.length) :
    fans 3 bs = if 8 ≤ bs.length - 8 ∧ (bs.length - 8) % 8 = 0 then ({ msAt 3 bs with orders := (List.range ((bs.length - 8) / 8)).map (orderAt bs) }, 0) else (ms0, 63) := by
  obtain ⟨h1, h2⟩ := fmk_low 3 bs hb h (by decide)
  unfold fans
  have hn : (8 * bs.length - 64) / 64 = (bs.length - 8) / 8 := by omega
  rw [h1, h2, tkMs_3, hn]
  by_cases hc : 8 ≤ bs.length - 8 ∧ (bs.length - 8) % 8 = 0
  · rw [if_pos hc, if_pos]
    · rw [map_eq (odAt bs 64) (orderAt bs) _ (fun j hj => odAt_is bs j hb (by omega))]
      rfl
    · refine ⟨rfl, rfl, by show 8 * bs.length - (64 + 64 * ((bs.length - 8) / 8)) = 0; omega, decide_eq_true ?_⟩
      unfold okMs
      simp [msB]
      omega
  · rw [if_neg hc, if_neg]
    rintro ⟨-, -, h3, h4⟩
    have h3 : 8 * bs.length - (64 + 64 * ((bs.length - 8) / 8)) = 0 := h3
    have h5 := of_decide_eq_true h4
    unfold okMs at h5
    simp [msB] at h5
    omega
theorem remb_toList : (⟨#[82, 69, 77, 66]⟩ : ByteArray).toList = [82, 69, 77, 66] := by
  rw [ByteArray.toList_eq]
theorem fans_4 (bs : List Nat) (hb : ∀ x ∈ bs, x < 256) (h : 8 ≤ bs.length) :
    fans 4 bs = if 8 ≤ bs.length - 8 ∧ (bs.drop 8).take 4 = [82, 69, 77, 66] ∧ bs.length - 8 = 8 + 4 * bs.getD 12 0 then
      ({ msAt 4 bs with exp := fourB bs 12 % 16777216 / 262144, mant := fourB bs 12 % 16777216 % 262144, srcs := (List.range ((bs.length - 16) / 4)).map fun j => fourB bs (16 + 4 * j) }, 0) else (ms0, 63) := by
  obtain ⟨h1, h2⟩ := head_long bs hb h
  have e : nmS 4 = ⟨#[82, 69, 77, 66]⟩ := if_pos rfl
  have es : (⟨#[82, 69, 77, 66]⟩ : ByteArray).size = 4 := rfl
  by_cases h12 : 12 ≤ bs.length
  · have eb : bys bs 4 (64, 0) = ((bs.drop 8).take 4, 96, 0) := by rw [bys_ok bs 4 64 (by omega) (by omega), show 64 = 8 * 8 from rfl, bytesAt_aligned bs 8 4 (by omega) hb]
    have hnd : fnd 4 bs = decide ((bs.drop 8).take 4 = [82, 69, 77, 66]) := by
      unfold fnd
      rw [h1, h2, e, es, eb]
      have := str_eq ((bs.drop 8).take 4) [82, 69, 77, 66] (fun x hx => hb x (List.mem_of_mem_drop (List.mem_of_mem_take hx))) (by decide)
      rw [remb_str] at this
      rw [remb_toList]
      exact this
    have hmk : fmk 4 bs = tkMs (msB 4 (fourB bs 0) (fourB bs 4)) bs (96, 0) := by
      unfold fmk
      rw [h1, h2, e, es, eb]
    unfold fans
    rw [hnd, hmk, tkMs_4]
    by_cases h16 : 16 ≤ bs.length
    · have t1 : tk bs 8 (96, 0) = (bs.getD 12 0, 104, 0) := by rw [tk_ok bs 8 96 (by omega) (by omega), show 96 = 8 * 12 from rfl, num_one8 bs 12 hb (by omega)]
      have t2 : tk bs 6 (104, 0) = (fourB bs 12 % 16777216 / 262144, 110, 0) := by rw [tk_ok bs 6 104 (by omega) (by omega), (exp_is bs hb h16).1]
      have t3 : tk bs 18 (110, 0) = (fourB bs 12 % 16777216 % 262144, 128, 0) := by rw [tk_ok bs 18 110 (by omega) (by omega), (exp_is bs hb h16).2]
      rw [t1]
      rw [t2]
      rw [t3]
      have hn256 : bs.getD 12 0 < 256 := by rw [List.getD_eq_getElem?_getD, List.getElem?_eq_getElem (by omega)]; exact hb _ (List.getElem_mem (by omega))
      have hex : fourB bs 12 % 16777216 / 262144 ≤ 63 := by omega
      have hmt : fourB bs 12 % 16777216 % 262144 ≤ 262143 := by omega
      generalize bs.getD 12 0 = n at *
      generalize fourB bs 12 % 16777216 / 262144 = ex at *
      generalize fourB bs 12 % 16777216 % 262144 = mt at *
      by_cases hc : (bs.drop 8).take 4 = [82, 69, 77, 66] ∧ bs.length - 8 = 8 + 4 * n
      · have hS := tkS_ok bs 128 n (by omega)
        have hR : 8 ≤ bs.length - 8 ∧ (bs.drop 8).take 4 = [82, 69, 77, 66] ∧ bs.length - 8 = 8 + 4 * n := ⟨by omega, hc⟩
        rw [if_pos hR, if_pos]
        · rw [show (bs.length - 16) / 4 = n by omega]
          have hq : ((List.range n).map fun j => num bs (128 + 32 * j) 32) = (List.range n).map fun j => fourB bs (16 + 4 * j) :=
            map_eq _ _ n (fun j hj => by rw [← num_four bs (16 + 4 * j) hb (by omega)]; congr 1; omega)
          rw [hS]
          show (({ msB 4 (fourB bs 0) (fourB bs 4) with exp := ex, mant := mt, srcs := (List.range n).map fun j => num bs (128 + 32 * j) 32 } : Ms), (0 : Int)) = _
          rw [hq]
          rfl
        · refine ⟨decide_eq_true hc.1, by show (tkS bs n (128, 0)).2.2 = 0; rw [hS], by show 8 * bs.length - (tkS bs n (128, 0)).2.1 = 0; rw [hS]; show 8 * bs.length - (128 + 32 * n) = 0; omega, decide_eq_true ?_⟩
          have hlen := tkS_length bs (128, 0) n
          unfold okMs
          simp [msB, hlen]
          omega
      · have hR : ¬ (8 ≤ bs.length - 8 ∧ (bs.drop 8).take 4 = [82, 69, 77, 66] ∧ bs.length - 8 = 8 + 4 * n) := fun h => hc h.2
        rw [if_neg hR, if_neg]
        rintro ⟨h3, h4, h5, -⟩
        have h4 : (tkS bs n (128, 0)).2.2 = 0 := h4
        have h5 : 8 * bs.length - (tkS bs n (128, 0)).2.1 = 0 := h5
        have h6 := of_decide_eq_true h3
        have h7 := tkS_pos bs 128 (by omega) n h4
        rw [tkS_ok bs 128 n h7] at h5
        simp only at h5
        exact hc ⟨h6, by omega⟩
    · have hR : ¬ (8 ≤ bs.length - 8 ∧ (bs.drop 8).take 4 = [82, 69, 77, 66] ∧ bs.length - 8 = 8 + 4 * bs.getD 12 0) := fun h => h16 (by have := h.1; omega)
      rw [if_neg hR, if_neg]
      rintro ⟨-, h4, -, -⟩
      refine tkS_bad bs _ ?_ _ h4
      by_cases h13 : 13 ≤ bs.length
      · rw [tk_ok bs 8 96 (by omega) (by omega)]
        simp only
        by_cases h14 : 14 ≤ bs.length
        · rw [tk_ok bs 6 104 (by omega) (by omega)]
          simp only
          exact (tk_short bs 18 110 (by omega) (by omega)).2
        · exact (tk_bad bs 18 _ (tk_short bs 6 104 (by omega) (by omega)).2).2
      · exact (tk_bad bs 18 _ (tk_bad bs 6 _ (tk_short bs 8 96 (by omega) (by omega)).2).2).2
  · unfold fans
    have hR : ¬ (8 ≤ bs.length - 8 ∧ (bs.drop 8).take 4 = [82, 69, 77, 66] ∧ bs.length - 8 = 8 + 4 * bs.getD 12 0) := fun h => h12 (by have := h.1; omega)
    rw [if_neg hR, if_neg]
    rintro ⟨-, h4, -, -⟩
    unfold fmk at h4
    rw [h1, h2, e, es] at h4
    exact tkMs_bad _ _ _ (bys_short bs 4 64 (by omega) (by omega)).2 h4
theorem fans_is (kd ct : Nat) (bs : List Nat) (hb : ∀ x ∈ bs, x < 256) (hl : bs.length ≤ 10000) (hs : sOf kd ct ≠ 0) : fans (sOf kd ct) bs = rparse kd ct bs := by
  have h5 := sOf_lt kd ct
  unfold rparse
  rw [if_neg hs]
  by_cases h8 : bs.length < 8
  · rw [if_pos h8, fans_short _ _ h8]
  · rw [if_neg h8]
    have h : sOf kd ct = 1 ∨ sOf kd ct = 2 ∨ sOf kd ct = 3 ∨ sOf kd ct = 4 := by omega
    rcases h with h | h | h | h
    · rw [h, if_pos rfl, fans_1 bs hb hl (by omega)]
    · rw [h, if_neg (by decide), if_pos rfl, fans_2 bs hb (by omega)]
    · rw [h, if_neg (by decide), if_neg (by decide), if_pos rfl, fans_3 bs hb hl (by omega)]
    · rw [h, if_neg (by decide), if_neg (by decide), if_neg (by decide), fans_4 bs hb (by omega)]
end Go.Proofs.Ytefcimkopgcagaa

/- feedback.Parse: any packet. Conditions: as each says. -/
set_option linter.unusedVariables false
set_option linter.unusedSimpArgs false
namespace Go.Proofs.Ytefcimkopgcagaa
open Go.RowKit

/-- What feedback.Parse tells: the document's message, in rows of its own. -/
def FParsed (kd ct : Nat) (bs : List Nat) (w : World) (e : Ending) (w' : World) : Prop := ∃ vp vo vs, e = .returned (.tuple #[.agg ((rparse kd ct bs).1.cls vp vo vs), .int .i64 (rparse kd ct bs).2]) ∧ OwnM w.heap.size (rparse kd ct bs).1 vp vo vs w' ∧ Only (fun _ => False) w w'
set_option maxRecDepth 100000 in
set_option maxHeartbeats 4000000 in
theorem fparse_none (kd ct pad : Nat) (vb : Value) (w : World) (hso : sOf kd ct = 0) :
    Calls Try.prog 23 #[.agg #[.int .u8 (ct : Nat), .int .u8 (kd : Nat), vb, .int .u8 (pad : Nat)]] w fun e w' => e = .returned (.tuple #[.agg (ms0.cls (.slice none 0 0) (.slice none 0 0) (.slice none 0 0)), .int .i64 62]) ∧ Only (fun _ => False) w w' := by
  have HSB := Lib.hid (fun wx => sortby_is kd ct wx)
  rw [hso] at HSB
  clear hso
  go_enter Try.func23, Try.ntmps23
  go_upto_region 1 with (fail)
  generalize hw0 : World.alloc _ _ = w0
  obtain ⟨pb, hpb⟩ : ∃ k, w.heap.size = k := ⟨_, rfl⟩
  obtain ⟨rb, hrb⟩ : ∃ k, w.heap.size + 1 = k := ⟨_, rfl⟩
  have I0 := Lib.hid (show Is w0 pb 41 #[.int .u8 (ct : Nat), .int .u8 (kd : Nat), vb, .int .u8 (pad : Nat)] from by rw [← hw0, ← hpb]; exact (Is.made _ _ _).alloc _)
  have R0 := Lib.hid (show Is w0 rb 27 ((msB 0 0 0).cls (.slice none 0 0) (.slice none 0 0) (.slice none 0 0)) from by rw [← hw0, ← hrb]; have h := Is.made (w.alloc (.cells #[.int .u8 (ct : Nat), .int .u8 (kd : Nat), vb, .int .u8 (pad : Nat)] 41)) 27 ((msB 0 0 0).cls (.slice none 0 0) (.slice none 0 0) (.slice none 0 0)); rw [World.size_alloc] at h; exact h)
  have P0 := Lib.hid (show Only (fun _ => False) w w0 from by rw [← hw0]; exact ((Only.refl _ w).alloc _).alloc _)
  have HRB := Lib.hid (show w.heap.size ≤ rb from by omega)
  rw [hrb, hpb]
  clear hw0 hpb hrb
  have c0 := I0.out.cell 0
  have c1 := I0.out.cell 1
  simp at c0 c1
  go_upto_region 2 with (first
    | (go_at_call 55; refine (HSB.out _).mono ?_; rintro e w2 ⟨rfl, ho2⟩; have O2 := Lib.hid ho2; clear ho2)
    | (refine wpList_store_is rfl 93 _ _ rfl w2.heap.size (srtV 0) rfl rfl 93 (srtV 0) (Is.made w2 _ (srtV 0)) srt0_size rfl srt0_one ?_; intro w3 hi3 ho3; have O3 := Lib.hid (fb_made ho3); clear hi3 ho3))
  have P3 := Lib.hid (only_more P0.out (only_more O2.out O3.out))
  have R3 := Lib.hid (R0.out.only (only_more O2.out O3.out) (by simp))
  clear I0 R0 P0 O2 O3 c0 c1
  go_wp2_with (refine wpList_store_is rfl 27 _ _ rfl rb ((msB 0 0 0).cls (.slice none 0 0) (.slice none 0 0) (.slice none 0 0)) rfl rfl 27 _ R3.out Try.sizeMe rfl (by simp [Ms.cls, msB, Value.oneCell']) ?_; intro w8 hi8 ho8)
  refine bodyPost_ret (res_pair Try.results23 _ w8 rb 27 _ _ _ rfl rfl hi8 Try.underlying27 rfl Try.sizeMe) rfl ?_
  exact ⟨rfl, P3.out.trans ho8 (fun i hi e => by have := HRB.out; omega)⟩
theorem fmk_fit (s : Nat) (bs : List Nat) (hl : bs.length ≤ 10000) : ((fmk s bs).1.pairs.length ≤ 1000000 ∧ (fmk s bs).1.orders.length ≤ 1000000 ∧ (fmk s bs).1.srcs.length ≤ 1000000) ∧ (fmk s bs).1.mant < 4294967296 ∧ (fmk s bs).1.exp < 256 := by
  unfold fmk tkMs
  generalize bys bs (nmS s).size (tk bs 32 (tk bs 32 (0, 0)).2).2 = q
  obtain ⟨b, p, f⟩ := q
  simp only
  split
  · simp [msB]; omega
  split
  · simp [msB]; omega
  split
  · have h1 : (tk bs 6 (tk bs 8 (p, f)).2).1 < 64 := tk_lt bs 6 _
    have h2 : (tk bs 18 (tk bs 6 (tk bs 8 (p, f)).2).2).1 < 262144 := tk_lt bs 18 _
    have h3 : (tk bs 8 (p, f)).1 < 256 := tk_lt bs 8 _
    simp [msB, tkS_length]
    omega
  · simp [msB]
theorem fparse_of (s fn kd ct pad : Nat) (vb : Value) (bs : List Nat) (w : World) (hs : Src w vb bs) (hb : ∀ x ∈ bs, x < 256) (hl : bs.length ≤ 10000) (hso : sOf kd ct = s) (h1 : 1 ≤ s) (h4 : s ≤ 4)
    (hc2 : (srtV s)[2]? = some (.string (nmS s))) (hc14 : (srtV s)[14]? = some (.func (.func fn) #[] #[])) (hcf : ∀ (args : Array Value) (w : World), (callFunc fn args).run Try.prog w = .ok (.enter fn args) w)
    (hT : ∀ a b st, (st.2 = 0 ∨ 8 * bs.length - st.1 < 32) → Takes fn (msB s a b) bs st) :
    Calls Try.prog 23 #[.agg #[.int .u8 (ct : Nat), .int .u8 (kd : Nat), vb, .int .u8 (pad : Nat)]] w (FParsed kd ct bs w) := by
  have hnm : (nmS s).size ≤ 4 := by unfold nmS; split <;> decide
  have hst : (bys bs (nmS s).size (tk bs 32 (tk bs 32 (0, 0)).2).2).2.2 = 0 ∨ 8 * bs.length - (bys bs (nmS s).size (tk bs 32 (tk bs 32 (0, 0)).2).2).2.1 < 32 := by
    by_cases h8 : bs.length < 8
    · obtain ⟨h5, h6⟩ := head_short bs h8
      exact .inr (by rw [(bys_bad bs _ _ h5).1]; exact h6)
    · obtain ⟨h5, h6⟩ := head_long bs hb (by omega)
      rw [h5, h6]
      by_cases h9 : 64 + 8 * (nmS s).size ≤ 8 * bs.length
      · exact .inl (by rw [bys_ok bs _ 64 (by omega) h9])
      · exact .inr (by rw [(bys_short bs _ 64 (by omega) (by omega)).1]; omega)
  have ha := fans_is kd ct bs hb hl (by omega)
  rw [hso] at ha
  refine (fparse_sort s kd ct pad fn _ _ (nmS s) (tk bs 32 (0, 0)).2 (tk bs 32 (tk bs 32 (0, 0)).2).2 (bys bs (nmS s).size (tk bs 32 (tk bs 32 (0, 0)).2).2).2 (fmk s bs).2 (fnd s bs) (fmk s bs).1 vb bs w hs hb hl hso h1 h4 hc2 hc14 (by omega) rfl rfl
    (fun v br wx h => bys_is br _ bs v _ (nmS s) wx rfl (by omega) h) rfl (hT _ _ _ hst) hcf (fmk_fit s bs hl) (fans s bs) rfl).mono ?_
  rw [ha]
  intro e w' h
  exact h
theorem fparse_is (kd ct pad : Nat) (vb : Value) (bs : List Nat) (w : World) (hs : Src w vb bs) (hb : ∀ x ∈ bs, x < 256) (hl : bs.length ≤ 10000) :
    Calls Try.prog 23 #[.agg #[.int .u8 (ct : Nat), .int .u8 (kd : Nat), vb, .int .u8 (pad : Nat)]] w (FParsed kd ct bs w) := by
  have h5 := sOf_lt kd ct
  have h : sOf kd ct = 0 ∨ sOf kd ct = 1 ∨ sOf kd ct = 2 ∨ sOf kd ct = 3 ∨ sOf kd ct = 4 := by omega
  rcases h with h | h | h | h | h
  · refine (fparse_none kd ct pad vb w h).mono ?_
    rintro e w' ⟨rfl, ho⟩
    have hr : rparse kd ct bs = (ms0, 62) := by unfold rparse; rw [if_pos h]
    refine ⟨.slice none 0 0, .slice none 0 0, .slice none 0 0, by rw [hr], ?_, ho⟩
    rw [hr]
    exact OwnM.nil _ _ _ rfl rfl rfl
  · exact fparse_of 1 _ kd ct pad vb bs w hs hb hl h (by decide) (by decide) rfl rfl ftake_1 (fun a b st hst => takes_1 a b bs st hl (by omega))
  · exact fparse_of 2 _ kd ct pad vb bs w hs hb hl h (by decide) (by decide) rfl rfl ftake_2 (fun a b st hst => takes_2 a b bs st)
  · exact fparse_of 3 _ kd ct pad vb bs w hs hb hl h (by decide) (by decide) rfl rfl ftake_3 (fun a b st hst => takes_3 a b bs st hl (by omega))
  · exact fparse_of 4 _ kd ct pad vb bs w hs hb hl h (by decide) (by decide) rfl rfl ftake_4 (fun a b st hst => takes_4 a b bs st)
end Go.Proofs.Ytefcimkopgcagaa
