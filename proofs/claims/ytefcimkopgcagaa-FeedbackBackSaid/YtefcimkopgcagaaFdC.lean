/- takeRate, whole. Conditions: as each says. -/
import Derived.Test.YtefcimkopgcagaaFdB
set_option linter.unusedVariables false
set_option linter.unusedSimpArgs false
namespace Go.Proofs.Ytefcimkopgcagaa
open Go.RowKit

def tr1_A : List (List Nat) := ([] :: [] :: [] :: [2] :: [3, 2] :: [] :: [5, 3, 2] :: [6, 5, 3, 2] :: [0, 2, 3, 4, 6, 5] :: [8, 0, 2, 3, 4, 6, 5] :: (9 :: 4 :: 6 :: 0 :: 2 :: 3 :: 8 :: 5 :: []) :: (1 :: 0 :: 2 :: 3 :: 4 :: 5 :: 6 :: 7 :: 8 :: 9 :: 10 :: []) :: (11 :: 0 :: 1 :: 2 :: 3 :: 4 :: 5 :: 6 :: 7 :: 8 :: 9 :: 10 :: []) :: (12 :: 7 :: 10 :: 0 :: 1 :: 2 :: 3 :: 4 :: 5 :: 6 :: 8 :: 9 :: 11 :: []) :: [])
def tr1_kill : List (List Nat) := ([] :: [] :: [] :: [14] :: [] :: [] :: [14, 3] :: [] :: [] :: [] :: [14, 3, 6] :: [] :: [] :: [14, 3, 6, 10] :: [])
def tr1_uses : List (List Nat) := ([] :: [] :: [] :: [14] :: [] :: [] :: [3] :: [] :: [] :: [] :: [6] :: [] :: [] :: [10] :: [])
noncomputable def tr1_code : Code := ((Try.f76.body.bind (codeRegion 1)).getD .skip)
set_option maxRecDepth 100000 in
set_option maxHeartbeats 4000000 in
theorem tr1_in (cs : Array Value) (mb br : Nat) (bs : List Nat) (v : Value) (s1 s2 s3 : Nat × Int) (ex mt : Nat) (w0 : World) (h5 : cs[5]? = some (.int .u8 0)) (h6 : cs[6]? = some (.int .u32 0)) (hmb : w0.heap.size ≤ mb) (hbr : w0.heap.size ≤ br) (hex : ex < 64) (hmt : mt < 262144) (t2 : ∀ wx, Rdr wx br bs s1.1 s1.2 v → Calls Try.prog 57 #[.pointer (some ⟨br, 0, none⟩), .int .i64 6] wx (Took wx br bs s2.1 s2.2 v (ex : Nat))) (t3 : ∀ wx, Rdr wx br bs s2.1 s2.2 v → Calls Try.prog 57 #[.pointer (some ⟨br, 0, none⟩), .int .i64 18] wx (Took wx br bs s3.1 s3.2 v (mt : Nat))) (u2 u3 u4 u5 u6 u7 u8 u9 u10 u11 u12 u13 u14 u15 u16 u17 u18 u19 u20 u21 u22 u23 u24 u25 u26 u27 u28 u29 u30 u31 u32 u33 u34 : Value) (w : World) (hG : Mp cs mb w0 w) (hR0 : Rdr w br bs s1.1 s1.2 v) :
    Code.wp Try.prog tr1_code (fun e a w' => ∃ y7 y8 y9 y10 y11 y12 y13 y14 y15 y16 y17 y18 : Value, a = ⟨(List.toArray (.pointer (some ⟨mb, 0, none⟩) :: .pointer (some ⟨br, 0, none⟩) :: u2 :: u3 :: u4 :: u5 :: u6 :: y7 :: y8 :: y9 :: y10 :: y11 :: y12 :: y13 :: y14 :: y15 :: y16 :: y17 :: y18 :: u19 :: u20 :: u21 :: u22 :: u23 :: u24 :: u25 :: u26 :: u27 :: u28 :: u29 :: u30 :: u31 :: u32 :: u33 :: u34 :: [])), []⟩ ∧ e = .normal ∧ (Mp ((cs.setIfInBounds 5 (.int .u8 (ex : Nat))).setIfInBounds 6 (.int .u32 (mt : Nat))) mb w0 w' ∧ Rdr w' br bs s3.1 s3.2 v)) ⟨(List.toArray (.pointer (some ⟨mb, 0, none⟩) :: .pointer (some ⟨br, 0, none⟩) :: u2 :: u3 :: u4 :: u5 :: u6 :: u7 :: u8 :: u9 :: u10 :: u11 :: u12 :: u13 :: u14 :: u15 :: u16 :: u17 :: u18 :: u19 :: u20 :: u21 :: u22 :: u23 :: u24 :: u25 :: u26 :: u27 :: u28 :: u29 :: u30 :: u31 :: u32 :: u33 :: u34 :: [])), []⟩ w := by
  conv => arg 2; whnf
  have T2 := Lib.hid t2
  have T3 := Lib.hid t3
  have H5 := Lib.hid h5
  have H6b := Lib.hid (show (cs.setIfInBounds 5 (.int .u8 (ex : Nat)))[6]? = some (.int .u32 0) from by rw [Array.getElem?_setIfInBounds_ne (by omega)]; exact h6)
  have e3 : IntKind.u8.wrap (ex : Int) = (ex : Int) := by rw [IntKind.wrap_u8]; omega
  have e4 : IntKind.u32.wrap (mt : Int) = (mt : Int) := by rw [IntKind.wrap_u32]; omega
  clear t2 t3 h5 h6 hex hmt
  refine wp_region_text tr1_A [3, 6, 10, 13] [3, 6, 10, 13, 14] tr1_kill tr1_uses [13] [] [] [14]
      (some ?v0 :: some ?v1 :: some ?v2 :: some (.int .u64 (ex : Nat)) :: some ?v4 :: some ?v5 :: some (.int .u64 (mt : Nat)) :: some ?v7 :: some ?v8 :: some ?v9 :: none :: some ?v11 :: some ?v12 :: none :: [])
      ?T (fun wx => True) ?W ?E (by kernel_rfl) (by kernel_rfl) (by kernel_rfl) (fun x => ?hT) ?hF ?hini (Reg.all_ops ?runs) ?pres ?fin
  case W => exact fun j x w' => match j with | 3 => Mp cs mb w0 w' ∧ Rdr w' br bs s2.1 s2.2 v | 6 => Mp cs mb w0 w' ∧ Rdr w' br bs s3.1 s3.2 v | 10 => Mp (cs.setIfInBounds 5 (.int .u8 (ex : Nat))) mb w0 w' ∧ Rdr w' br bs s3.1 s3.2 v | 13 => Mp ((cs.setIfInBounds 5 (.int .u8 (ex : Nat))).setIfInBounds 6 (.int .u32 (mt : Nat))) mb w0 w' ∧ Rdr w' br bs s3.1 s3.2 v | 14 => Mp cs mb w0 w' ∧ Rdr w' br bs s1.1 s1.2 v | _ => True
  case E => exact fun i wx wy => True
  case hT =>
    simp only [Reg.fillV, Act.put, List.setIfInBounds_toArray, List.set_cons_zero, List.set_cons_succ]
    rfl
  case runs =>
    refine And.intro ?_ ?_
    · refine Reg.ob_pure (fun _ => rfl) rfl rfl rfl rfl (fun x w1 hF => ?_)
      go_simp
      with_reducible rfl
    refine And.intro ?_ ?_
    · refine Reg.ob_pure (fun _ => rfl) rfl rfl rfl rfl (fun x w1 hF => ?_)
      go_simp
      with_reducible rfl
    refine And.intro ?_ ?_
    · refine Reg.ob_pure (fun _ => rfl) rfl rfl rfl rfl (fun x w1 hF => ?_)
      go_simp
      with_reducible rfl
    refine And.intro ?_ ?_
    · refine Reg.ob_told (fun _ => rfl) rfl (fun x w1 hF hU K hK => ?_)
      obtain ⟨⟨hG, hR⟩, -⟩ := hU
      have hR : Rdr w1 br bs s1.1 s1.2 v := hR
      have HT := T2.out w1 hR
      go_simp
      refine HT.mono ?_
      rintro e w5 ⟨rfl, hR2, ho⟩
      exact hK w5 (fun _ _ _ => trivial) trivial ⟨Mp.took hG hbr hR ho, hR2⟩
    refine And.intro ?_ ?_
    · refine Reg.ob_pure (fun _ => rfl) rfl rfl rfl rfl (fun x w1 hF => ?_)
      go_simp
      with_reducible rfl
    refine And.intro ?_ ?_
    · refine Reg.ob_pure (fun _ => rfl) rfl rfl rfl rfl (fun x w1 hF => ?_)
      go_simp
      with_reducible rfl
    refine And.intro ?_ ?_
    · refine Reg.ob_told (fun _ => rfl) rfl (fun x w1 hF hU K hK => ?_)
      obtain ⟨⟨hG, hR⟩, -⟩ := hU
      have hR : Rdr w1 br bs s2.1 s2.2 v := hR
      have HT := T3.out w1 hR
      go_simp
      refine HT.mono ?_
      rintro e w5 ⟨rfl, hR2, ho⟩
      exact hK w5 (fun _ _ _ => trivial) trivial ⟨Mp.took hG hbr hR ho, hR2⟩
    refine And.intro ?_ ?_
    · refine Reg.ob_pure (fun _ => rfl) rfl rfl rfl rfl (fun x w1 hF => ?_)
      go_simp
      with_reducible rfl
    refine And.intro ?_ ?_
    · refine Reg.ob_pure (fun _ => rfl) rfl rfl rfl rfl (fun x w1 hF => ?_)
      go_simp
      with_reducible rfl
    refine And.intro ?_ ?_
    · refine Reg.ob_pure (fun _ => rfl) rfl rfl rfl rfl (fun x w1 hF => ?_)
      go_simp
      with_reducible rfl
    refine And.intro ?_ ?_
    · refine Reg.ob_some (fun _ => rfl) rfl (fun x w1 hF hU K hK => ?_)
      obtain ⟨⟨hG, hR⟩, -⟩ := hU
      have hG : Mp cs mb w0 w1 := hG
      have hR : Rdr w1 br bs s3.1 s3.2 v := hR
      have cf : w1.cell? ⟨mb, 5, none⟩ = some (.int .u8 0) := (hG.io.cell 5).trans H5.out
      have ff := hG.io.free 5
      go_simp
      exact hK undef _ (fun _ _ _ => trivial) trivial ⟨hG.put hmb 5 _, fx_rdr hR hG.io 5 _⟩
    refine And.intro ?_ ?_
    · refine Reg.ob_pure (fun _ => rfl) rfl rfl rfl rfl (fun x w1 hF => ?_)
      go_simp
      with_reducible rfl
    refine And.intro ?_ ?_
    · refine Reg.ob_pure (fun _ => rfl) rfl rfl rfl rfl (fun x w1 hF => ?_)
      go_simp
      with_reducible rfl
    refine And.intro ?_ ?_
    · refine Reg.ob_some (fun _ => rfl) rfl (fun x w1 hF hU K hK => ?_)
      obtain ⟨⟨hG, hR⟩, -⟩ := hU
      have hG : Mp (cs.setIfInBounds 5 (.int .u8 (ex : Nat))) mb w0 w1 := hG
      have hR : Rdr w1 br bs s3.1 s3.2 v := hR
      have cf : w1.cell? ⟨mb, 6, none⟩ = some (.int .u32 0) := (hG.io.cell 6).trans H6b.out
      have ff := hG.io.free 6
      go_simp
      exact hK undef _ (fun _ _ _ => trivial) trivial ⟨hG.put hmb 6 _, fx_rdr hR hG.io 6 _⟩
    exact trivial
  case hF =>
    exact trivial
  case hini =>
    exact ⟨fun x => ⟨hG, hR0⟩, trivial⟩
  case pres =>
    intro i hi j hj hc x wx wy hF hE hW
    simp only [List.mem_cons, List.mem_nil_iff, or_false] at hi hj
    rcases hi with rfl | rfl | rfl | rfl <;> rcases hj with rfl | rfl | rfl | rfl | rfl
    all_goals (exfalso; revert hc; decide)
  case fin =>
    rintro x w9 hF hU
    obtain ⟨hQ, -⟩ := hU
    repeat apply Exists.intro
    exact ⟨rfl, rfl, hQ⟩

set_option maxRecDepth 100000 in
set_option maxHeartbeats 4000000 in
theorem tr1 (cs : Array Value) (mb br : Nat) (bs : List Nat) (v : Value) (s1 s2 s3 : Nat × Int) (ex mt : Nat) (w0 : World) (h5 : cs[5]? = some (.int .u8 0)) (h6 : cs[6]? = some (.int .u32 0)) (hmb : w0.heap.size ≤ mb) (hbr : w0.heap.size ≤ br) (hex : ex < 64) (hmt : mt < 262144) (t2 : ∀ wx, Rdr wx br bs s1.1 s1.2 v → Calls Try.prog 57 #[.pointer (some ⟨br, 0, none⟩), .int .i64 6] wx (Took wx br bs s2.1 s2.2 v (ex : Nat))) (t3 : ∀ wx, Rdr wx br bs s2.1 s2.2 v → Calls Try.prog 57 #[.pointer (some ⟨br, 0, none⟩), .int .i64 18] wx (Took wx br bs s3.1 s3.2 v (mt : Nat))) (u2 u3 u4 u5 u6 u7 u8 u9 u10 u11 u12 u13 u14 u15 u16 u17 u18 u19 u20 u21 u22 u23 u24 u25 u26 u27 u28 u29 u30 u31 u32 u33 u34 : Value) (Q : Exit → Act → World → Prop) (w : World) (hG : Mp cs mb w0 w) (hR0 : Rdr w br bs s1.1 s1.2 v)
    (hend : ∀ (y7 y8 y9 y10 y11 y12 y13 y14 y15 y16 y17 y18 : Value) (w' : World), (Mp ((cs.setIfInBounds 5 (.int .u8 (ex : Nat))).setIfInBounds 6 (.int .u32 (mt : Nat))) mb w0 w' ∧ Rdr w' br bs s3.1 s3.2 v) → Q .normal ⟨(List.toArray (.pointer (some ⟨mb, 0, none⟩) :: .pointer (some ⟨br, 0, none⟩) :: u2 :: u3 :: u4 :: u5 :: u6 :: y7 :: y8 :: y9 :: y10 :: y11 :: y12 :: y13 :: y14 :: y15 :: y16 :: y17 :: y18 :: u19 :: u20 :: u21 :: u22 :: u23 :: u24 :: u25 :: u26 :: u27 :: u28 :: u29 :: u30 :: u31 :: u32 :: u33 :: u34 :: [])), []⟩ w') :
    Code.wp Try.prog tr1_code Q ⟨(List.toArray (.pointer (some ⟨mb, 0, none⟩) :: .pointer (some ⟨br, 0, none⟩) :: u2 :: u3 :: u4 :: u5 :: u6 :: u7 :: u8 :: u9 :: u10 :: u11 :: u12 :: u13 :: u14 :: u15 :: u16 :: u17 :: u18 :: u19 :: u20 :: u21 :: u22 :: u23 :: u24 :: u25 :: u26 :: u27 :: u28 :: u29 :: u30 :: u31 :: u32 :: u33 :: u34 :: [])), []⟩ w := by
  refine wp_mono (tr1_in cs mb br bs v s1 s2 s3 ex mt w0 h5 h6 hmb hbr hex hmt t2 t3 _ _ _ _ _ _ _ _ _ _ _ _ _ _ _ _ _ _ _ _ _ _ _ _ _ _ _ _ _ _ _ _ _ w hG hR0) ?_
  rintro e a w' h
  obtain ⟨y7, h⟩ := h
  obtain ⟨y8, h⟩ := h
  obtain ⟨y9, h⟩ := h
  obtain ⟨y10, h⟩ := h
  obtain ⟨y11, h⟩ := h
  obtain ⟨y12, h⟩ := h
  obtain ⟨y13, h⟩ := h
  obtain ⟨y14, h⟩ := h
  obtain ⟨y15, h⟩ := h
  obtain ⟨y16, h⟩ := h
  obtain ⟨y17, h⟩ := h
  obtain ⟨y18, h⟩ := h
  obtain ⟨h, rfl, hq⟩ := h
  subst h
  exact hend y7 y8 y9 y10 y11 y12 y13 y14 y15 y16 y17 y18 w' hq
theorem fd_end (cs : Array Value) (mb br n j : Nat) (s3 : Nat × Int) (bs : List Nat) (v : Value) (w0 w5 : World) (A' : Option Addr) (c' : Nat) (hjn : j < n) (hn : n < 256)
    (hG : Mp (cs.setIfInBounds 7 (.slice A' (j + 1) c')) mb w0 w5) (hO : OwnS w5 w0.heap.size 22 1 (.slice A' (j + 1) c') ((tkS bs (j + 1) s3).1.map fun x => [Value.int .u32 (x : Nat)])) (hR : Rdr w5 br bs (tkS bs (j + 1) s3).2.1 (tkS bs (j + 1) s3).2.2 v) :
    (∃ (i : Nat) (A : Option Addr) (c : Nat), Value.int .u64 (((j : Int) + 1)) = .int .u64 (i : Int) ∧ i ≤ n ∧ Mp (cs.setIfInBounds 7 (.slice A i c)) mb w0 w5 ∧ OwnS w5 w0.heap.size 22 1 (.slice A i c) ((tkS bs i s3).1.map fun x => [Value.int .u32 (x : Nat)]) ∧ Rdr w5 br bs (tkS bs i s3).2.1 (tkS bs i s3).2.2 v) ∧
      n - (intOf (Value.int .u64 (((j : Int) + 1)))).toNat < n - (intOf (Value.int .u64 (j : Int))).toNat := by
  exact ⟨⟨j + 1, A', c', rfl, by omega, hG, hO, hR⟩, by simp [intOf]; omega⟩
set_option maxRecDepth 100000 in
set_option maxHeartbeats 4000000 in
theorem takerate_is (cs : Array Value) (mb br p n ex mt : Nat) (s1 s2 s3 : Nat × Int) (bs : List Nat) (f : Int) (v : Value) (w0 w : World) (h5 : cs[5]? = some (.int .u8 0)) (h6 : cs[6]? = some (.int .u32 0)) (h7 : cs[7]? = some (.slice none 0 0)) (hmb : w0.heap.size ≤ mb) (hbr : w0.heap.size ≤ br)
    (hG : Mp cs mb w0 w) (hR : Rdr w br bs p f v) (h1 : tk bs 8 (p, f) = (n, s1)) (h2 : tk bs 6 s1 = (ex, s2)) (h3 : tk bs 18 s2 = (mt, s3)) :
    Calls Try.prog 76 #[.pointer (some ⟨mb, 0, none⟩), .pointer (some ⟨br, 0, none⟩)] w fun e w' => e = .returned (.tuple #[]) ∧ ∃ A c, Mp (((cs.setIfInBounds 5 (.int .u8 (ex : Nat))).setIfInBounds 6 (.int .u32 (mt : Nat))).setIfInBounds 7 (.slice A n c)) mb w0 w' ∧ OwnS w' w0.heap.size 22 1 (.slice A n c) ((tkS bs n s3).1.map fun x => [Value.int .u32 (x : Nat)]) ∧ Rdr w' br bs (tkS bs n s3).2.1 (tkS bs n s3).2.2 v := by
  have hn : n < 256 := by have := tk_lt bs 8 (p, f); rw [h1] at this; simpa using this
  have hex : ex < 64 := by have := tk_lt bs 6 s1; rw [h2] at this; simpa using this
  have hmt : mt < 262144 := by have := tk_lt bs 18 s2; rw [h3] at this; simpa using this
  have T1 := Lib.hid (show ∀ wx, Rdr wx br bs p f v → Calls Try.prog 57 #[.pointer (some ⟨br, 0, none⟩), .int .i64 8] wx (Took wx br bs s1.1 s1.2 v (n : Nat)) from fun wx h => by
    have := tk_is br p 8 bs f v wx h (by omega)
    rw [h1] at this
    exact this)
  have T2 := Lib.hid (show ∀ wx, Rdr wx br bs s1.1 s1.2 v → Calls Try.prog 57 #[.pointer (some ⟨br, 0, none⟩), .int .i64 6] wx (Took wx br bs s2.1 s2.2 v (ex : Nat)) from fun wx h => by
    have := tk_is br s1.1 6 bs s1.2 v wx h (by omega)
    rw [h2] at this
    exact this)
  have T3 := Lib.hid (show ∀ wx, Rdr wx br bs s2.1 s2.2 v → Calls Try.prog 57 #[.pointer (some ⟨br, 0, none⟩), .int .i64 18] wx (Took wx br bs s3.1 s3.2 v (mt : Nat)) from fun wx h => by
    have := tk_is br s2.1 18 bs s2.2 v wx h (by omega)
    rw [h3] at this
    exact this)
  have H5 := Lib.hid h5
  have H6 := Lib.hid h6
  have H7 := Lib.hid h7
  have HG := Lib.hid hG
  have HR := Lib.hid hR
  have hw8 : IntKind.u8.wrap (ex : Int) = (ex : Int) := by rw [IntKind.wrap_u8]; omega
  have hw32 : IntKind.u32.wrap (mt : Int) = (mt : Int) := by rw [IntKind.wrap_u32]; omega
  clear h1 h2 h3 h5 h6 h7 hG hR
  go_enter Try.func76, Try.ntmps76
  go_upto_region 1 with (go_at_call 57; refine (T1.out _ HR.out).mono ?_; rintro e w1 ⟨rfl, hr1, ho1⟩; have R1 := Lib.hid hr1; have G1 := Lib.hid (HG.out.took hbr HR.out ho1); clear hr1 ho1)
  go_upto_region 1 with (fail)
  refine tr1 cs mb br bs v s1 s2 s3 ex mt w0 H5.out H6.out hmb hbr hex hmt T2.out T3.out _ _ _ _ _ _ _ _ _ _ _ _ _ _ _ _ _ _ _ _ _ _ _ _ _ _ _ _ _ _ _ _ _ _ w1 G1.out R1.out ?_
  rintro y7 y8 y9 y10 y11 y12 y13 y14 y15 y16 y17 y18 w4 ⟨hG, hR⟩
  have G4 := Lib.hid hG
  have R4 := Lib.hid hR
  clear hG hR
  have H7b := Lib.hid (show ((cs.setIfInBounds 5 (.int .u8 (ex : Nat))).setIfInBounds 6 (.int .u32 (mt : Nat)))[7]? = some (.slice none 0 0) from by
    rw [Array.getElem?_setIfInBounds_ne (by omega), Array.getElem?_setIfInBounds_ne (by omega)]
    exact H7.out)
  clear R1 G1 HR HG T1 T2 T3 hw8 hw32 H5 H6 H7
  obtain ⟨ds, hds⟩ : ∃ ds, ((cs.setIfInBounds 5 (.int .u8 (ex : Nat))).setIfInBounds 6 (.int .u32 (mt : Nat))) = ds := ⟨_, rfl⟩
  rw [hds] at G4 H7b
  have HDS := Lib.hid hds
  clear hds
  go_wp2
  go_loopw [20] (fun i wr => ∃ (j : Nat) (A : Option Addr) (c : Nat), i = .int .u64 (j : Int) ∧ j ≤ n ∧ Mp (ds.setIfInBounds 7 (.slice A j c)) mb w0 wr ∧ OwnS wr w0.heap.size 22 1 (.slice A j c) ((tkS bs j s3).1.map fun x => [Value.int .u32 (x : Nat)]) ∧ Rdr wr br bs (tkS bs j s3).2.1 (tkS bs j s3).2.2 v) (fun i _ => n - (intOf i).toNat)
  case atStart => exact ⟨0, none, 0, rfl, by omega, by rw [set_self H7b.out]; exact G4.out, OwnS.nil _ _ _ _, R4.out⟩
  case round =>
    obtain ⟨j, A, c, rfl, hj, hG, hown, hR⟩ := hrel
    have GJ := Lib.hid hG
    have OJ := Lib.hid hown
    have RJ := Lib.hid hR
    clear hG hown hR
    by_cases hjn : j < n
    · have hjI : (j : Int) < (n : Int) := by omega
      have hsz : 7 < ds.size := by
        have := Array.getElem?_eq_some_iff.mp H7b.out
        exact this.1
      go_upto_region 4 with (fail)
      refine tr4 (ds.setIfInBounds 7 (.slice A j c)) mb br (tkS bs j s3).2.1 j c bs v A ((tkS bs j s3).1.map fun x => [Value.int .u32 (x : Nat)]) (tk bs 32 (tkS bs j s3).2).1 (tk bs 32 (tkS bs j s3).2).2.1 (tkS bs j s3).2.2 (tk bs 32 (tkS bs j s3).2).2.2 w0 (set_at _ hsz) (by simp [tkS_length]) (by omega) hmb hbr (fun wx h => tk_is br (tkS bs j s3).2.1 32 bs (tkS bs j s3).2.2 v wx h (by omega)) (by have := tk_lt bs 32 (tkS bs j s3).2; simpa using this) _ _ _ _ _ _ _ _ _ _ _ _ _ _ _ _ _ _ _ _ _ _ _ _ _ _ _ _ _ _ _ _ _ _ wr GJ.out RJ.out OJ.out ?_
      rintro y22 y23 y24 y25 y26 y27 y28 y29 y30 y31 y32 y33 w5 ⟨A', c', hG, hown, hR⟩
      rw [set_twice] at hG
      have G2 := Lib.hid hG
      have O2 := Lib.hid (show OwnS w5 w0.heap.size 22 1 (.slice A' (j + 1) c') ((tkS bs (j + 1) s3).1.map fun x => [Value.int .u32 (x : Nat)]) from by
        rw [tkS, List.map_append, List.map_singleton]
        exact hown)
      have R2 := Lib.hid (show Rdr w5 br bs (tkS bs (j + 1) s3).2.1 (tkS bs (j + 1) s3).2.2 v from hR)
      clear hG hown hR GJ OJ RJ
      go_wp2
      exact fd_end ds mb br n j s3 bs v w0 w5 A' c' hjn hn G2.out O2.out R2.out
    · obtain rfl : j = n := by omega
      go_wp2
      exact bodyPost_end (v := .tuple #[]) (by simp [results, Try.results76]) rfl ⟨rfl, A, c, by rw [HDS.out]; exact GJ.out, OJ.out, RJ.out⟩
end Go.Proofs.Ytefcimkopgcagaa
