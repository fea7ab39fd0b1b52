/- vp8's Parse. Conditions: as each says. -/
import Derived.Test.YtneogagainllnaaVpD
set_option linter.unusedVariables false
namespace Go.Proofs.Ytneogagainllnaa
open Go.RowKit

theorem rdr_new {w : World} {b B : Nat} {bs : List Nat} {u : Value} (hi : Is w b 67 #[u, .int .i64 0, .int .i64 0]) (ho : w.ownsRow B 5 1 u bs.length (cellsOf bs)) (hb : ∀ x ∈ bs, x < 256) (hs : bs.length ≤ 140737488355328) : Rdr w b bs 0 0 u := by
  refine ⟨hi, ⟨ho.1, ?_⟩, hb, hs, by omega⟩
  rcases ho.2 with q | ⟨g, cap, cur, q, _, q2⟩
  · exact .inl q
  · exact .inr ⟨g, cap, cur, q, Nat.zero_le _, q2⟩
theorem zero_fit : Dv.zero.Fit := ⟨by decide, by decide, by decide, by decide, by decide⟩
/-- What is answered of a struct and two values. -/
theorem results_three {P : Program} {fn : Func} {p q r : Tmp} {ty : TypeId} (h : fn.results = #[.cell p ty, .tmp q, .tmp r]) (tmps : Array Value) (w : World) (g : Nat) (t : TypeId) (cs : Array Value) (d : TypeDesc) (x y : Value)
    (hp : tmps.getD p undef = .pointer (some ⟨g, 0, none⟩)) (hq : tmps.getD q undef = x) (hr : tmps.getD r undef = y) (hg : Is w g t cs)
    (hu : P.underlying ty = some d) (hd : (match d with | .struct _ | .array _ _ => true | _ => false) = true) (hi : (P.info? ty).map (·.size) = some cs.size) :
    (results fn tmps).run P w = .ok (.tuple #[.agg cs, x, y]) w := by
  have hp' : tmps[p]?.getD undef = .pointer (some ⟨g, 0, none⟩) := by simpa using hp
  have hq' : tmps[q]?.getD undef = x := by simpa using hq
  have hr' : tmps[r]?.getD undef = y := by simpa using hr
  simp [results, h, hp', hq', hr', asAddr, run_loadVar_row w g t ty cs (0, 0) d hg hu hd hi]

/-- What a reader's walk over a descriptor comes to. -/
def Got (bs : List Nat) : Dv × (Nat × Int) := (Vt bs).visit Dv.zero (0, 0)

set_option maxRecDepth 100000 in
set_option maxHeartbeats 2000000 in
theorem parse_bad (v : Value) (bs : List Nat) (w : World) (hs : Src w v bs) (hb : ∀ x ∈ bs, x < 256) (hl : bs.length ≤ 1000000) (hbad : (Got bs).2.2 ≠ 0) :
    Calls Try.prog 10 #[v] w fun e w' => e = .returned (.tuple #[Dv.zero.val, .slice none 0 0, .int .i64 (Got bs).2.2]) ∧ Only (fun _ => False) w w' := by
  obtain ⟨A, c, rfl⟩ := hs.slice
  have hne : ((Got bs).2.2 != 0) = true := by simpa using hbad
  have HNE := Lib.hid hbad
  have HS := Lib.hid hs
  have HB := Lib.hid hb
  have HG := Lib.hid (show (Vt bs).visit Dv.zero (0, 0) = Got bs from rfl)
  clear hs hb hbad
  go_enter Try.func10, Try.ntmps10
  go_wp2_with fail
  refine (of_src _ bs _ w.heap.size (by simp) (HS.out.only ((Only.refl (fun _ => False) w).alloc _) (by simp)) (by omega)).mono ?_
  rintro e w1 ⟨b, u, rfl, hbl, hi1, hu1, _, ho1⟩
  have hR1 := rdr_new hi1 hu1 HB.out (by omega)
  have R1 := Lib.hid hR1
  have T1 := Lib.hid (show Only (fun _ => False) w w1 from ((Only.refl _ w).alloc _).trans ho1 (fun _ _ e => e))
  have A1 := Lib.hid ((Is.made w 31 Dv.zero.cells).only ho1 (by simp))
  have hwb : w.heap.size ≤ b := by simp at hbl; omega
  clear hi1 hu1 ho1 hR1 hbl
  go_wp2_with fail
  refine (visit_taker b (visitor_taker (bs := bs) (v := u) hwb) Dv.zero w1 (0, 0) R1.out trivial T1.out.size zero_fit).mono ?_
  rw [HG.out]
  rintro e w2 ⟨rfl, hr2, hg2⟩
  have R2 := Lib.hid hr2
  have G2 := Lib.hid hg2
  have A2 := Lib.hid (hg2.2 _ _ A1.out)
  clear hr2 hg2
  go_wp2_with (refine wpList_store_is (o := ⟨none, _, _, _, _, _⟩) rfl 31 _ _ rfl w.heap.size (Got bs).1.cells rfl rfl 31 Dv.zero.cells A2.out Try.sizeDesc rfl (Dv.one _) ?_; intro w3 hi3 ho3)
  have R3 := Lib.hid ((visitor_taker (bs := bs) (v := u) hwb).far _ _ _ _ _ R2.out A2.out ho3)
  have I3 := Lib.hid hi3
  have T3 := Lib.hid (show Only (fun _ => False) w w3 from (T1.out.trans G2.out.1 (fun i hi e => by omega)).trans ho3 (fun i hi e => by omega))
  clear hi3 ho3
  refine (rest_failed b _ bs _ u w3 R3.out HNE.out).mono ?_
  rintro e w4 ⟨rfl, rfl⟩
  go_wp2_with fail
  refine (err_rdr b _ bs _ u w3 R3.out).mono ?_
  rintro e w4 ⟨rfl, rfl⟩
  go_wp2_with (refine wpList_store_is (o := ⟨none, _, _, _, _, _⟩) rfl 31 _ _ rfl w.heap.size Dv.zero.cells rfl rfl 31 _ I3.out Try.sizeDesc rfl (Dv.one _) ?_; intro w5 hi5 ho5)
  exact bodyPost_ret (results_three Try.results10 _ w5 w.heap.size 31 Dv.zero.cells _ _ _ rfl rfl rfl hi5 Try.underlying31 rfl Try.sizeDesc) rfl ⟨rfl, T3.out.trans ho5 (fun i hi e => by omega)⟩

set_option maxRecDepth 100000 in
set_option maxHeartbeats 2000000 in
theorem parse_good (v : Value) (bs : List Nat) (w : World) (hs : Src w v bs) (hb : ∀ x ∈ bs, x < 256) (hl : bs.length ≤ 1000000) (i : Nat) (hgood : (Got bs).2.2 = 0) (hi : (Got bs).2.1 = 8 * i) :
    Calls Try.prog 10 #[v] w fun e w' => ∃ u, e = .returned (.tuple #[(Got bs).1.val, u, .int .i64 0]) ∧ w'.ownsRow w.heap.size 5 1 u (bs.drop i).length (cellsOf (bs.drop i)) ∧ Only (fun _ => False) w w' := by
  obtain ⟨A, c, rfl⟩ := hs.slice
  have HGD := Lib.hid hgood
  have HII := Lib.hid hi
  have HS := Lib.hid hs
  have HB := Lib.hid hb
  have HG := Lib.hid (show (Vt bs).visit Dv.zero (0, 0) = Got bs from rfl)
  clear hs hb hgood hi
  go_enter Try.func10, Try.ntmps10
  go_wp2_with fail
  refine (of_src _ bs _ w.heap.size (by simp) (HS.out.only ((Only.refl (fun _ => False) w).alloc _) (by simp)) (by omega)).mono ?_
  rintro e w1 ⟨b, u, rfl, hbl, hi1, hu1, _, ho1⟩
  have hR1 := rdr_new hi1 hu1 HB.out (by omega)
  have R1 := Lib.hid hR1
  have T1 := Lib.hid (show Only (fun _ => False) w w1 from ((Only.refl _ w).alloc _).trans ho1 (fun _ _ e => e))
  have A1 := Lib.hid ((Is.made w 31 Dv.zero.cells).only ho1 (by simp))
  have hwb : w.heap.size ≤ b := by simp at hbl; omega
  clear hi1 hu1 ho1 hR1 hbl
  go_wp2_with fail
  refine (visit_taker b (visitor_taker (bs := bs) (v := u) hwb) Dv.zero w1 (0, 0) R1.out trivial T1.out.size zero_fit).mono ?_
  rw [HG.out]
  rintro e w2 ⟨rfl, hr2, hg2⟩
  have R2 := Lib.hid hr2
  have G2 := Lib.hid hg2
  have A2 := Lib.hid (hg2.2 _ _ A1.out)
  clear hr2 hg2
  go_wp2_with (refine wpList_store_is (o := ⟨none, _, _, _, _, _⟩) rfl 31 _ _ rfl w.heap.size (Got bs).1.cells rfl rfl 31 Dv.zero.cells A2.out Try.sizeDesc rfl (Dv.one _) ?_; intro w3 hi3 ho3)
  have hr3 := (visitor_taker (bs := bs) (v := u) hwb).far _ _ _ _ _ R2.out A2.out ho3
  rw [HGD.out, HII.out] at hr3
  have R3 := Lib.hid hr3
  have I3 := Lib.hid hi3
  have T3 := Lib.hid (show Only (fun _ => False) w w3 from (T1.out.trans G2.out.1 (fun i hi e => by omega)).trans ho3 (fun i hi e => by omega))
  have hpl : i ≤ bs.length := by have := hr3.place; omega
  clear hi3 ho3 hr3
  refine (rest_ok b i bs u w3 R3.out).mono ?_
  rintro e w4 ⟨u4, rfl, hown, hr4, ho4⟩
  have hbt : bytesAt bs (8 * i) (bs.length - i) = bs.drop i := by
    rw [bytesAt_aligned bs i (bs.length - i) (by omega) HB.out, List.take_of_length_le (by rw [List.length_drop]; omega)]
  rw [hbt, List.length_drop] at hown
  have R4 := Lib.hid hr4
  have I4 := Lib.hid (I3.out.only ho4 (fun e => Is.apart (t := 67) (u := 31) R3.out.is I3.out (by decide) e.symm))
  have HO := Lib.hid hown
  have T4 := Lib.hid (T3.out.trans ho4 (fun i hi e => by omega))
  clear hown hr4 ho4 hbt
  go_wp2_with fail
  refine (err_rdr b _ bs _ u w4 R4.out).mono ?_
  rintro e w5 ⟨rfl, rfl⟩
  obtain ⟨A4, c4, rfl, _⟩ := own_slice HO.out
  go_wp2_with (first | (refine wpList_load_want (o := ⟨some 21, _, _, _, _, _⟩) rfl _ _ rfl w.heap.size rfl _ _ _ I4.out Try.underlying31 rfl Try.sizeDesc ?_) | (refine wpList_store_is (o := ⟨none, _, _, _, _, _⟩) rfl 31 _ _ rfl w.heap.size (Got bs).1.cells rfl rfl 31 _ I4.out Try.sizeDesc rfl (Dv.one _) ?_; intro w6 hi6 ho6))
  refine bodyPost_ret (results_three Try.results10 _ w6 w.heap.size 31 (Got bs).1.cells _ _ _ rfl rfl rfl hi6 Try.underlying31 rfl Try.sizeDesc) rfl ⟨.slice A4 (bs.length - i) c4, rfl, ?_, T4.out.trans ho6 (fun i hi e => by omega)⟩
  have hq := own_only HO.out ho6 (fun k hk e => row_apart I4.out HO.out (by decide) (by rw [hk, e]))
  rw [List.length_drop]
  obtain ⟨q1, q2⟩ := hq
  refine ⟨q1, ?_⟩
  rcases q2 with q | ⟨g, cap, cur, r1, r2, r3, r4⟩
  · exact .inl q
  · exact .inr ⟨g, cap, cur, r1, Nat.le_trans T3.out.size r2, r3, r4⟩
end Go.Proofs.Ytneogagainllnaa
