/- mark: what is written is read so; works. Conditions: as each says. -/
import Derived.Test.YtcgfmjdlningpaaMkF
import Derived.Test.YtcgfmjdlningpaaExQ
import Derived.Test.YtcgfmjdlningpaaBase
set_option linter.unusedVariables false
namespace Go.Proofs.Ytcgfmjdlningpaa
open Go.RowKit

theorem mkfirst_bits (m : Mk) (h : m.tid ≤ 7) : hasb m.first 128 = m.st ∧ hasb m.first 64 = m.en ∧ hasb m.first 32 = m.ind ∧ hasb m.first 16 = m.dr ∧ hasb m.first 8 = m.ba ∧ m.first % 8 = m.tid ∧ (m.ba = false → m.tid = 0 → m.first % 16 = 0) := by
  obtain ⟨a1, a2, a3, a4, a5, a6, a7, a8, a9⟩ := m
  have : ∀ (i : Fin 8) (b1 b2 b3 b4 b6 : Bool), hasb (bn b1 128 + bn b2 64 + bn b3 32 + bn b4 16 + bn b6 8 + i.val) 128 = b1 ∧ hasb (bn b1 128 + bn b2 64 + bn b3 32 + bn b4 16 + bn b6 8 + i.val) 64 = b2 ∧ hasb (bn b1 128 + bn b2 64 + bn b3 32 + bn b4 16 + bn b6 8 + i.val) 32 = b3 ∧ hasb (bn b1 128 + bn b2 64 + bn b3 32 + bn b4 16 + bn b6 8 + i.val) 16 = b4 ∧ hasb (bn b1 128 + bn b2 64 + bn b3 32 + bn b4 16 + bn b6 8 + i.val) 8 = b6 ∧ (bn b1 128 + bn b2 64 + bn b3 32 + bn b4 16 + bn b6 8 + i.val) % 8 = i.val ∧ (b6 = false → i.val = 0 → (bn b1 128 + bn b2 64 + bn b3 32 + bn b4 16 + bn b6 8 + i.val) % 16 = 0) := by decide +kernel
  exact this ⟨a7, by simp only at h; omega⟩ a1 a2 a3 a4 a6
theorem mk_back (m : Mk) (hr : m.right = true) : mkOf m.enc = m ∧ mkErr m.enc = 0 := by
  have h0 := hr
  unfold Mk.right at h0
  simp at h0
  obtain ⟨h7, hl⟩ := h0
  obtain ⟨f1, f2, f3, f4, f5, f6, f7⟩ := mkfirst_bits m h7
  have henc : m.enc = if m.lg then [m.first, m.lid, m.tl] else [m.first] := rfl
  generalize m.first = fr at *
  obtain ⟨a1, a2, a3, a4, a5, a6, a7, a8, a9⟩ := m
  simp only at *
  cases a5
  · have hl' : ((a6 = false ∧ a7 = 0) ∧ a8 = 0) ∧ a9 = 0 := by
      rcases hl with h | h
      · cases h
      · exact h
    obtain ⟨⟨⟨rfl, rfl⟩, rfl⟩, rfl⟩ := hl'
    have h16 := f7 rfl rfl
    rw [henc]
    simp only [Bool.false_eq_true, if_false]
    refine ⟨?_, ?_⟩
    · unfold mkOf
      rw [if_neg (by simp), if_pos ⟨rfl, h16⟩]
      simp only [bt, List.getD_cons_zero]
      rw [f1, f2, f3, f4]
    · unfold mkErr
      rw [if_neg (by simp), if_pos ⟨rfl, h16⟩]
  · rw [henc]
    simp only [if_true]
    refine ⟨?_, ?_⟩
    · unfold mkOf
      rw [if_pos (show [fr, a8, a9].length = 3 from rfl)]
      simp only [bt, List.getD_cons_zero, List.getD_cons_succ]
      rw [f1, f2, f3, f4, f5, f6]
    · unfold mkErr
      rw [if_pos (show [fr, a8, a9].length = 3 from rfl)]
theorem find_one (id : Nat) (d : List Nat) : findEl id [⟨id, d⟩] = some ⟨id, d⟩ := by
  unfold findEl
  rw [List.find?_cons]
  simp
theorem of_with (p : Pk) (id : Nat) (m : Mk) (h : withErr id m = 0) : ofMk (withPk p id m) id = (m, true) := by
  have hr : m.right = true := by
    unfold withErr at h
    by_cases e : m.right = false
    · rw [if_pos e] at h; cases h
    · simpa using e
  have h0 : id ≠ 0 := by
    unfold withErr at h
    intro e
    rw [if_neg (by rw [hr]; simp), if_pos e] at h
    cases h
  obtain ⟨f1, f2, f3⟩ := with_form id
  obtain ⟨b1, b2⟩ := mk_back m hr
  have hq : withPk p id m = { p with hasExt := true, profile := withProf id, ext := exPut (decide (id ≤ 14)) [⟨id, m.enc⟩] } := by unfold withPk; rw [if_pos h]
  have hp : parR (withProf id) (exPut (decide (id ≤ 14)) [⟨id, m.enc⟩]) = (0, [⟨id, m.enc⟩]) := by
    unfold parR
    have h4 : ¬ (exPut (decide (id ≤ 14)) [(⟨id, m.enc⟩ : El)]).length % 4 ≠ 0 := by rw [exPut_mod]; simp
    rw [if_neg f1, if_neg h4, f2, exP_put _ _ (with_all id m h0)]
  rw [hq]
  rw [ofMk_some (x := ⟨id, m.enc⟩) rfl (by show (parR (withProf id) (exPut (decide (id ≤ 14)) [⟨id, m.enc⟩])).1 = 0; rw [hp]) (by show findEl id (parR (withProf id) (exPut (decide (id ≤ 14)) [⟨id, m.enc⟩])).2 = _; rw [hp]; exact find_one id m.enc)]
  show (mkOf m.enc, decide (mkErr m.enc = 0)) = (m, true)
  rw [b1, b2]
  rfl
section
variable {ops : Array Oper} {rest : List Oper} {o : Oper} {a : Act} {w : World} {Q : Exit → Act → World → Prop}
/-- Two markings are compared. -/
theorem wpList_eql_mk (hw : Region.wanted o (yielded ops a.tmps) = true) (x y : Operand) (ho : o.op = .binOp .eql 69 x y 69) (d e : Mk) (b : Bool) (hb : d.same e = b) (hx : a.eval x = .agg d.cells) (hy : a.eval y = .agg e.cells)
    (h : wpList Try.prog ops Q rest (a.put o.dst (.bool b)) w) : wpList Try.prog ops Q (o :: rest) a w :=
  wpList_want hw fun K hK => by
    unfold Oper.wp
    rw [run_eql_mk w x y d e ho hx hy, hb]
    simp only [Oper.upon]
    exact hK _ _ h
end
def m1 : Mk := ⟨true, false, false, true, false, false, 0, 0, 0⟩
def m2 : Mk := ⟨false, true, true, false, true, true, 2, 1, 7⟩
def m3 : Mk := ⟨false, true, false, false, false, false, 0, 0, 0⟩
theorem put_m1 (w : World) : Calls Try.prog 40 #[.agg #[.bool true, .bool false, .bool false, .bool true, .bool false, .bool false, .int .u8 0, .int .u8 0, .int .u8 0]] w (PutB 0 [144] w) := mk_put m1 w
theorem put_m2 (w : World) : Calls Try.prog 40 #[.agg #[.bool false, .bool true, .bool true, .bool false, .bool true, .bool true, .int .u8 2, .int .u8 1, .int .u8 7]] w (PutB 0 [106, 1, 7] w) := mk_put m2 w
def q3 : Pk := ⟨false, 0, 0, 0, 0, [], true, 48862, [16, 64, 0, 0], [], 0⟩
theorem with_m3 (w : World) : Calls Try.prog 49 #[.agg zeroPk, .int .u8 1, .agg #[.bool false, .bool true, .bool false, .bool false, .bool false, .bool false, .int .u8 0, .int .u8 0, .int .u8 0]] w (MkWith q3 0 w) :=
  mk_with ⟨false, 0, 0, 0, 0, [], false, 0, [], [], 0⟩ 1 m3 (.slice none 0 0) (.slice none 0 0) (.slice none 0 0) w (by decide) ⟨by decide, by decide, by decide⟩ (Rd.nil _ _) (.inl rfl) (.inl ⟨rfl, rfl⟩) (.inl ⟨rfl, rfl⟩) (by decide)
theorem of_q3 : ofMk q3 1 = (m3, true) := of_with ⟨false, 0, 0, 0, 0, [], false, 0, [], [], 0⟩ 1 m3 rfl
theorem par_lit81 (w : World) : Calls Try.prog 44 #[.slice (some ⟨w.heap.size, 0, none⟩) 1 1] (w.alloc (.cells #[.int .u8 129] 5)) fun e w' => e = .returned (.tuple #[.agg Mk.zero.cells, .int .i64 40]) ∧ Only (fun _ => False) w w' := by
  refine (mk_parse _ [129] _ (src_lit w [129]) (by decide)).mono ?_
  rintro e w' ⟨rfl, ho⟩
  exact ⟨rfl, only_more ((Only.refl _ w).alloc _) ho⟩
theorem par_lit00 (w : World) : Calls Try.prog 44 #[.slice (some ⟨w.heap.size, 0, none⟩) 2 2] (w.alloc (.cells #[.int .u8 0, .int .u8 0] 5)) fun e w' => e = .returned (.tuple #[.agg Mk.zero.cells, .int .i64 40]) ∧ Only (fun _ => False) w w' := by
  refine (mk_parse _ [0, 0] _ (src_lit w [0, 0]) (by decide)).mono ?_
  rintro e w' ⟨rfl, ho⟩
  exact ⟨rfl, only_more ((Only.refl _ w).alloc _) ho⟩
theorem str_m1 : strOfNums (nats [144]) = { data := #[144] } := by rfl
theorem str_m2 : strOfNums (nats [106, 1, 7]) = { data := #[106, 1, 7] } := by rfl

set_option maxRecDepth 100000 in
set_option maxHeartbeats 2000000 in
theorem mworks_any (w : World) : Calls Try.prog 43 #[] w fun e w' => e = .returned (.bool true) ∧ Only (fun _ => False) w w' := by
  have HVZ := Lib.hid (Mk.one Mk.zero)
  have HV3 := Lib.hid (Mk.one m3)
  go_enter Try.func43, Try.ntmps43
  go_wp2_with fail
  refine (put_m1 _).mono ?_
  rintro e w1 ⟨v1, rfl, hv1, ho1⟩
  have S1 := Lib.hid (Src.of_own hv1)
  obtain ⟨A1, c1, h1, -⟩ := own_slice hv1
  subst h1
  have O1 := Lib.hid ho1
  clear hv1 ho1
  go_wp2_with fail
  refine (put_m2 _).mono ?_
  rintro e w2 ⟨v2, rfl, hv2, ho2⟩
  have S2 := Lib.hid (Src.of_own hv2)
  obtain ⟨A2, c2, h2, -⟩ := own_slice hv2
  subst h2
  have O2 := Lib.hid ho2
  clear hv2 ho2
  go_wp2_with fail
  refine (par_lit81 _).mono ?_
  rintro e w3 ⟨rfl, ho3⟩
  have O3 := Lib.hid ho3
  clear ho3
  go_upto_region 4 with (refine wpList_store_is rfl 69 _ _ rfl w3.heap.size Mk.zero.cells rfl rfl 69 Mk.zero.cells (Is.made w3 _ Mk.zero.cells) Try.sizeMk rfl HVZ.out ?_; intro w4 hi4 ho4; have O4 := Lib.hid (only_made ho4); clear hi4 ho4)
  go_wp2_with fail
  refine (par_lit00 _).mono ?_
  rintro e w5 ⟨rfl, ho5⟩
  have O5 := Lib.hid ho5
  clear ho5
  go_upto_region 5 with (refine wpList_store_is rfl 69 _ _ rfl w5.heap.size Mk.zero.cells rfl rfl 69 Mk.zero.cells (Is.made w5 _ Mk.zero.cells) Try.sizeMk rfl HVZ.out ?_; intro w6 hi6 ho6; have O6 := Lib.hid (only_made ho6); clear hi6 ho6)
  go_wp2_with fail
  refine (with_m3 _).mono ?_
  rintro e w7 ⟨vc7, ve7, vp7, rfl, hown7, ho7⟩
  have OW7 := Lib.hid hown7
  have O7 := Lib.hid ho7
  have HV7 := Lib.hid (q3.cls_one (own_isSl hown7.1) (own_isSl hown7.2.1) (own_isSl hown7.2.2))
  clear hown7 ho7
  go_upto_region 6 with (refine wpList_store_is rfl 33 _ _ rfl w7.heap.size (q3.cls vc7 ve7 vp7) rfl rfl 33 zeroPk (Is.made w7 _ zeroPk) Try.sizePq rfl HV7.out ?_; intro w8 hi8 ho8; have O8 := Lib.hid (only_made ho8); have I8 := Lib.hid hi8; clear hi8 ho8)
  have HOF := Lib.hid (mk_of q3 1 vc7 ve7 vp7 w8 (by decide) (by decide) (own_isSl OW7.out.1) (own_isSl OW7.out.2.2) (Src.of_own (own_only OW7.out.2.1 O8.out (by simp))) (by decide) (by decide))
  rw [of_q3] at HOF
  go_upto_region 7 with (first
    | (refine wpList_load_want (o := ⟨some 40, _, _, _, _, _⟩) rfl _ _ rfl w7.heap.size rfl _ _ _ I8.out Try.underlying33 rfl Try.sizePq ?_)
    | (go_at_call 47; refine HOF.out.mono ?_; rintro e w9 ⟨rfl, ho9⟩; have O9 := Lib.hid ho9; clear ho9)
    | (refine wpList_store_is rfl 69 _ _ rfl w9.heap.size m3.cells rfl rfl 69 Mk.zero.cells (Is.made w9 _ Mk.zero.cells) Try.sizeMk rfl HV3.out ?_; intro w10 hi10 ho10; have O10 := Lib.hid (only_made ho10); have I10 := Lib.hid hi10; clear hi10 ho10))
  have T2 := Lib.hid (only_more O3.out (only_more O4.out (only_more O5.out (only_more O6.out (only_more O7.out (only_more O8.out (only_more O9.out O10.out)))))))
  have q1 := conv_src (A := A1) (n := 1) (c := c1) (bs := [144]) (S1.out.of_only (only_more O2.out T2.out)) rfl
  have q2 := conv_src (A := A2) (n := 3) (c := c2) (bs := [106, 1, 7]) (S2.out.of_only T2.out) rfl
  have hs1 : ((strOfNums (nats [144])).toList == [144]) = true := by rw [str_m1, ByteArray.toList_eq]; rfl
  have hs2 : ((strOfNums (nats [106, 1, 7])).toList == [106, 1, 7]) = true := by rw [str_m2, ByteArray.toList_eq]; rfl
  generalize strOfNums (nats [144]) = s1 at q1 hs1
  generalize strOfNums (nats [106, 1, 7]) = s2 at q2 hs2
  go_wp2_with (first
    | (refine wpList_load_want (o := ⟨some 76, _, _, _, _, _⟩) rfl _ _ rfl w9.heap.size rfl _ _ _ I10.out Try.underlying69 rfl Try.sizeMk ?_)
    | (refine wpList_eql_mk (o := ⟨some 78, _, _, _, _, _⟩) rfl _ _ rfl m3 m3 true rfl rfl rfl ?_))
  go_ret
  exact ⟨rfl, only_more O1.out (only_more O2.out T2.out)⟩
end Go.Proofs.Ytcgfmjdlningpaa
