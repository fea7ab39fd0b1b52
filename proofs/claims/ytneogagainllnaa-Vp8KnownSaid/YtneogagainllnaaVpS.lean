/- Vp8Back's walk. Conditions: as it says. -/
import Derived.Test.YtneogagainllnaaVpR
set_option linter.unusedVariables false
namespace Go.Proofs.Ytneogagainllnaa
open Go.RowKit

theorem same_yes (va vb : Value) (xs : List Nat) (w : World) (ha : Src w va xs) (hb : Src w vb xs) (hl : xs.length ≤ 140737488355328) :
    Calls Try.prog 12 #[va, vb] w fun e w' => e = .returned (.bool true) ∧ Only (fun _ => False) w w' := by
  refine (same_is va vb xs xs w ha hb hl).mono ?_
  rintro e w' ⟨rfl, n, rfl⟩
  exact ⟨by simp, (Only.refl _ w).drewN n⟩
/-- Amid the ninth region. -/
structure Nine (db xb ab : Nat) (dc ac : Array Value) (v4 vb : Value) (bs : List Nat) (w wx : World) : Prop where
  d : Is wx db 31 dc
  x : Is wx xb 31 dc
  a : Is wx ab 31 ac
  s1 : Src wx v4 bs
  s2 : Src wx vb bs
  pure : Only (fun _ => False) w wx
theorem Nine.go {db xb ab : Nat} {dc ac : Array Value} {v4 vb : Value} {bs : List Nat} {w wx wy : World} (h : Nine db xb ab dc ac v4 vb bs w wx) (ho : Only (fun _ => False) wx wy) : Nine db xb ab dc ac v4 vb bs w wy :=
  ⟨h.d.only ho (by simp), h.x.only ho (by simp), h.a.only ho (by simp), h.s1.only ho (by simp), h.s2.only ho (by simp), only_more h.pure ho⟩
/-- What Put answers. -/
def DidPutD (d : Dv) (bs : List Nat) (w : World) (e : Ending) (w' : World) : Prop :=
  ∃ A n c k, e = .returned (.tuple #[.slice A n c, .int .i64 k]) ∧ (k == 0) = d.right ∧ Only (fun _ => False) w w' ∧ (d.right = true → ∃ out, n = out.length ∧ Wrote out (d.digits ++ D bs) ∧ Src w' (.slice A n c) out)
theorem put_any (d : Dv) (A : Option Addr) (n c : Nat) (bs : List Nat) (w : World) (hf : d.Fit) (hs : Src w (.slice A n c) bs) (hb : ∀ x ∈ bs, x < 256) (hl : bs.length ≤ 1000000) :
    Calls Try.prog 17 #[.agg d.cells, .slice A n c] w (DidPutD d bs w) := by
  cases hr : d.right
  · refine (put_no d A n c w hf hr).mono ?_
    rintro e w' ⟨rfl, ho⟩
    exact ⟨none, 0, 0, 50, rfl, hr.symm, ho, fun h => by rw [hr] at h; cases h⟩
  · refine (put_yes d _ bs w hf hr hs hb hl).mono ?_
    rintro e w' ⟨A, c, out, rfl, hw, hown, ho⟩
    exact ⟨A, _, c, 0, rfl, hr.symm, ho, fun _ => ⟨out, rfl, hw, Src.of_own hown⟩⟩
/-- Parse of what Put wrote. -/
theorem parse_put (d : Dv) (v : Value) (bs out : List Nat) (w : World) (hf : d.Fit) (hr : d.right = true) (hw : Wrote out (d.digits ++ D bs)) (hs : Src w v out) (hb : ∀ x ∈ bs, x < 256) (hl : bs.length ≤ 100000) :
    Calls Try.prog 10 #[v] w fun e w' => ∃ A c, e = .returned (.tuple #[.agg d.cells, .slice A bs.length c, .int .i64 0]) ∧ Src w' (.slice A bs.length c) bs ∧ Only (fun _ => False) w w' := by
  obtain ⟨i, h1, h2, h3, h4, h5, h6⟩ := wrote_put hw hb
  have hg := got_back d out hf hr h6
  refine (parse_good v out w hs hw.bytes (by omega) i (by rw [hg]) (by rw [hg]; exact h1)).mono ?_
  rintro e w' ⟨u, rfl, hu, ho⟩
  rw [h5] at hu
  obtain ⟨A, c, rfl, _⟩ := own_slice hu
  exact ⟨A, c, by rw [hg]; rfl, Src.of_own hu, ho⟩
/-- Parse of any bytes. -/
theorem parse_any (v : Value) (bs : List Nat) (w : World) (hs : Src w v bs) (hb : ∀ x ∈ bs, x < 256) (hl : bs.length ≤ 1000) :
    Calls Try.prog 10 #[v] w fun e w' => Only (fun _ => False) w w' ∧ (((Got bs).2.2 = 10 ∧ e = .returned (.tuple #[.agg Dv.zero.cells, .slice none 0 0, .int .i64 10])) ∨
      ((Got bs).2.2 = 0 ∧ ∃ i A c, (Got bs).2.1 = 8 * i ∧ i ≤ bs.length ∧ e = .returned (.tuple #[.agg (Got bs).1.cells, .slice A (bs.drop i).length c, .int .i64 0]) ∧ Src w' (.slice A (bs.drop i).length c) (bs.drop i))) := by
  rcases got_err bs with h | h
  · obtain ⟨_, _, h3⟩ := got_is bs
    obtain ⟨h8, _⟩ := digits_len (Got bs).1
    have hp : (Got bs).2.1 = 8 * ((Got bs).2.1 / 8) := by have := h3 h; omega
    refine (parse_good v bs w hs hb (by omega) _ h hp).mono ?_
    rintro e w' ⟨u, rfl, hu, ho⟩
    obtain ⟨A, c, rfl, _⟩ := own_slice hu
    refine ⟨ho, .inr ⟨h, _, A, c, hp, ?_, rfl, Src.of_own hu⟩⟩
    have := got_place bs
    unfold In2 at this
    omega
  · refine (parse_bad v bs w hs hb (by omega) (by rw [h]; decide)).mono ?_
    rintro e w' ⟨rfl, ho⟩
    exact ⟨ho, .inl ⟨h, by rw [h]; rfl⟩⟩

set_option maxRecDepth 100000 in
set_option maxHeartbeats 4000000 in
theorem back_any (d : Dv) (v : Value) (bs : List Nat) (pic tl0 tid : Nat) (w : World) (hf : d.Fit) (hs : Src w v bs) (hb : ∀ x ∈ bs, x < 256) (hpic : pic < 65536) (h0 : tl0 < 256) (ht : tid < 256) :
    Calls Try.prog 5 #[d.val, v, .int .u16 pic, .int .u8 tl0, .int .u8 tid] w fun e w' => e = .returned (.bool true) ∧ Only (fun _ => False) w w' := by
  obtain ⟨Ab, cb, rfl⟩ := hs.slice
  have HS := Lib.hid hs
  have HB := Lib.hid hb
  have HF := Lib.hid hf
  have HW := Lib.hid (fun w => works_any w)
  have HI := Lib.hid (Is.made w 31 d.cells)
  clear hs hb hf
  simp only [Dv.val]
  by_cases hl : 200 < bs.length
  · have zl : decide ((200 : Int) < (bs.length : Int)) = true := decide_eq_true (by omega)
    clear hl
    go_enter Try.func5, Try.ntmps5
    go_wp2_with fail
    refine (HW.out _).mono ?_
    rintro e w1 ⟨rfl, ho1⟩
    have O1 := Lib.hid ho1
    clear ho1
    go_wp2
    go_ret
    exact ⟨rfl, only_more ((Only.refl _ w).alloc _) O1.out⟩
  · have zl : decide ((200 : Int) < (bs.length : Int)) = false := decide_eq_false (by omega)
    have hl' : bs.length ≤ 200 := by omega
    clear hl
    have HRD := Lib.hid (fun w => right_is d w HF.out)
    simp only [Dv.val] at HRD
    go_enter Try.func5, Try.ntmps5
    go_upto_region 1 with (fail)
    obtain ⟨db, hdb⟩ : ∃ db, w.heap.size = db := ⟨_, rfl⟩
    have HI' := HI.out
    generalize hw0 : World.alloc _ _ = w0 at *
    rw [hdb] at HI'
    have P0 := Lib.hid (show Only (fun _ => False) w w0 from by rw [← hw0]; exact (Only.refl _ w).alloc _)
    have HS0 := Lib.hid (HS.out.only P0.out (by simp))
    have HI0 := Lib.hid HI'
    clear hw0 HI HI' HS
    rw [hdb]
    clear hdb
    have HPUT := Lib.hid (put_any d Ab _ cb bs w0 HF.out HS0.out HB.out (by omega))
    go_upto_if 42 with (first
      | (refine wpList_load_want (o := ⟨some 31, _, _, _, _, _⟩) rfl _ _ rfl db rfl _ _ _ HI0.out Try.underlying31 rfl Try.sizeDesc ?_)
      | (go_at_call 17; refine HPUT.out.mono ?_; rintro e w1 ⟨A1, n1, c1, k1, rfl, hk1, ho1, hown1⟩; have O1 := Lib.hid ho1; have OWN := Lib.hid hown1; have K1 := Lib.hid hk1; clear ho1 hown1)
      | (refine wpList_load_want (o := ⟨some 38, _, _, _, _, _⟩) rfl _ _ rfl db rfl _ _ _ (HI0.out.only O1.out (by simp)) Try.underlying31 rfl Try.sizeDesc ?_)
      | (go_at_call 19; refine (HRD.out _).mono ?_; rintro e w2 ⟨rfl, ho2⟩; have O2 := Lib.hid (only_more O1.out ho2); have O12 := Lib.hid ho2; clear ho2))
    go_cut [] (fun wx => Only (fun _ => False) w2 wx)
    case first =>
      cases hr : d.right
      · rw [hr] at hk1
        go_wp2_with fail
        go_meet
        exact Only.refl _ _
      · rw [hr] at hk1
        obtain ⟨out, rfl, hwr, hso⟩ := OWN.out hr
        obtain ⟨i, hi1, hi2, hi3, hi4, hi5, hi6⟩ := wrote_put hwr HB.out
        have HPP := Lib.hid (parse_put d _ bs out w2 HF.out hr hwr (hso.only O12.out (by simp)) HB.out (by omega))
        have hdl : d.len = i := by unfold Dv.len; rw [hr, hi1]; simp
        have hal : (d.anew pic tl0 tid d.sync).len = 6 := by unfold Dv.len; rw [anew_right d pic tl0 tid hr, anew_len]; rfl
        have HLD := Lib.hid (fun w => len_is d w HF.out)
        have HLA := Lib.hid (fun w => len_is (d.anew pic tl0 tid d.sync) w (anew_fit d pic tl0 tid d.sync HF.out h0))
        have HRA := Lib.hid (fun w => right_is (d.anew pic tl0 tid d.sync) w (anew_fit d pic tl0 tid d.sync HF.out h0))
        have HA := Lib.hid (fun w => anew_is d pic tl0 tid d.sync w hpic ht)
        rw [hdl] at HLD
        rw [hal] at HLA
        rw [anew_right d pic tl0 tid hr] at HRA
        simp only [Dv.val] at HLD HLA HRA
        have VD := Lib.hid (Dv.one d)
        have VA := Lib.hid (Dv.one (d.anew pic tl0 tid d.sync))
        have HC10 := Lib.hid (show d.cells[10]? = some (.bool d.sync) from rfl)
        have HA' := Lib.hid (show ∀ w, Calls Try.prog 18 #[.agg d.cells, .int .u16 pic, .int .u8 tl0, .int .u8 tid, .bool d.sync] w fun e w' => e = .returned (.agg (d.anew pic tl0 tid d.sync).cells) ∧ Only (fun _ => False) w w' from HA.out)
        clear HA
        generalize d.anew pic tl0 tid d.sync = a at *
        have hol : IntKind.i64.wrap ((out.length : Int) - (bs.length : Int)) = (i : Int) := (IntWalk.i64_in _ (by omega)).trans (by omega)
        have h5 : IntKind.i64.wrap ((i : Int) + 5) = (i : Int) + 5 := IntWalk.i64_in _ (by omega)
        have h6 : decide (((i : Int) + 5) < 6) = false := decide_eq_false (by omega)
        clear OWN hwr hso hi1 hi2 hi3 hi4 hi5 hi6 hdl hal
        generalize out.length = L at *
        go_upto_region 8 with (first
          | (go_at_call 10; refine HPP.out.mono ?_; rintro e w3 ⟨A4, c4, rfl, hs4, ho3⟩; have S3 := Lib.hid hs4; have O3 := Lib.hid ho3; clear hs4 ho3)
          | (refine wpList_store_is rfl 31 _ _ rfl w3.heap.size d.cells rfl rfl 31 Dv.zero.cells (Is.made _ _ Dv.zero.cells) Try.sizeDesc rfl VD.out ?_; intro w4 hi hp))
        have X4 := Lib.hid hi
        have O4 := Lib.hid (only_more O3.out (only_stored hp))
        have O34 := Lib.hid (only_stored hp)
        have xlt : w3.heap.size < w4.heap.size := hi.lt
        generalize w3.heap.size = xb at *
        clear hi hp
        have D4 := Lib.hid (HI0.out.only (only_more O2.out O4.out) (by simp))
        have S4 := Lib.hid (S3.out.only O34.out (by simp))
        have c10 : w4.cell? ⟨db, 10, none⟩ = some (.bool d.sync) := by rw [D4.out.cell 10]; exact HC10.out
        go_upto_region 9 with (first
          | (refine wpList_load_want (o := ⟨some 49, _, _, _, _, _⟩) rfl _ _ rfl db rfl _ _ _ D4.out Try.underlying31 rfl Try.sizeDesc ?_)
          | (go_at_call 18; refine (HA'.out _).mono ?_; rintro e w5 ⟨rfl, ho5⟩; have O5 := Lib.hid ho5; clear ho5)
          | (refine wpList_store_is rfl 31 _ _ rfl w5.heap.size a.cells rfl rfl 31 Dv.zero.cells (Is.made _ _ Dv.zero.cells) Try.sizeDesc rfl VA.out ?_; intro w6 hi hp))
        have O56 := Lib.hid (only_more O5.out (only_stored hp))
        have alt : w5.heap.size < w6.heap.size := hi.lt
        have A6 := Lib.hid hi
        generalize w5.heap.size = ab at *
        have T6 := Lib.hid (only_more O4.out O56.out)
        have N6 := Lib.hid (show Nine db xb ab d.cells a.cells (.slice A4 bs.length c4) (.slice Ab bs.length cb) bs w6 w6 from
          ⟨D4.out.only O56.out (by simp), X4.out.only O56.out (by simp), hi, S4.out.only O56.out (by simp), HS0.out.only (only_more O2.out T6.out) (by simp), Only.refl _ _⟩)
        clear hi hp
        refine wp_region_posts [[], [0], [1, 0], [2, 1, 0], [2, 1, 0], [3, 4, 2, 1, 0], [2, 5, 1, 0, 3, 4], [6, 2, 5, 1, 0, 3, 4], [7, 6, 2, 5, 1, 0, 3, 4], [7, 6, 2, 5, 1, 0, 3, 4], [8, 9, 7, 6, 2, 5, 1, 0, 3, 4], [10, 7, 8, 9, 6, 2, 5, 1, 0, 3, 4], [7, 11, 6, 2, 5, 1, 0, 3, 4, 10, 8, 9], [12, 10, 7, 11, 6, 2, 5, 1, 0, 3, 4, 8, 9], [13, 12, 10, 7, 11, 6, 2, 5, 1, 0, 3, 4, 8, 9], [14, 13, 12, 10, 7, 11, 6, 2, 5, 1, 0, 3, 4, 8, 9], [13, 12, 10, 7, 11, 6, 2, 5, 1, 0, 3, 4, 8, 9], [16, 13, 12, 10, 7, 11, 6, 2, 5, 1, 0, 3, 4, 8, 9], [13, 12, 10, 7, 11, 6, 2, 5, 1, 0, 3, 4, 8, 9], [18, 13, 12, 10, 7, 11, 6, 2, 5, 1, 0, 3, 4, 8, 9], [17, 19, 13, 16, 12, 10, 7, 11, 6, 2, 5, 1, 0, 3, 4, 8, 9, 18], [15, 20, 13, 14, 12, 10, 7, 11, 6, 2, 5, 1, 0, 3, 4, 8, 9, 17, 19, 16, 18], [13, 21, 12, 10, 7, 11, 6, 2, 5, 1, 0, 3, 4, 8, 9, 15, 20, 14, 17, 19, 16, 18], [22, 15, 13, 21, 12, 10, 7, 11, 6, 2, 5, 1, 0, 3, 4, 8, 9, 20, 14, 17, 19, 16, 18], [23, 22, 15, 13, 21, 12, 10, 7, 11, 6, 2, 5, 1, 0, 3, 4, 8, 9, 20, 14, 17, 19, 16, 18], [24, 23, 22, 15, 13, 21, 12, 10, 7, 11, 6, 2, 5, 1, 0, 3, 4, 8, 9, 20, 14, 17, 19, 16, 18], [25, 23, 24, 22, 15, 13, 21, 12, 10, 7, 11, 6, 2, 5, 1, 0, 3, 4, 8, 9, 20, 14, 17, 19, 16, 18], [23, 26, 22, 15, 13, 21, 12, 10, 7, 11, 6, 2, 5, 1, 0, 3, 4, 8, 9, 20, 14, 17, 19, 16, 18, 25, 24], [27, 25, 23, 26, 22, 15, 13, 21, 12, 10, 7, 11, 6, 2, 5, 1, 0, 3, 4, 8, 9, 20, 14, 17, 19, 16, 18, 24], [28, 27, 25, 23, 26, 22, 15, 13, 21, 12, 10, 7, 11, 6, 2, 5, 1, 0, 3, 4, 8, 9, 20, 14, 17, 19, 16, 18, 24], [29, 28, 27, 25, 23, 26, 22, 15, 13, 21, 12, 10, 7, 11, 6, 2, 5, 1, 0, 3, 4, 8, 9, 20, 14, 17, 19, 16, 18, 24], [30, 28, 29, 27, 25, 23, 26, 22, 15, 13, 21, 12, 10, 7, 11, 6, 2, 5, 1, 0, 3, 4, 8, 9, 20, 14, 17, 19, 16, 18, 24], [28, 31, 27, 25, 23, 26, 22, 15, 13, 21, 12, 10, 7, 11, 6, 2, 5, 1, 0, 3, 4, 8, 9, 20, 14, 17, 19, 16, 18, 24, 30, 29], [32, 30, 28, 31, 27, 25, 23, 26, 22, 15, 13, 21, 12, 10, 7, 11, 6, 2, 5, 1, 0, 3, 4, 8, 9, 20, 14, 17, 19, 16, 18, 24, 29], [33, 32, 30, 28, 31, 27, 25, 23, 26, 22, 15, 13, 21, 12, 10, 7, 11, 6, 2, 5, 1, 0, 3, 4, 8, 9, 20, 14, 17, 19, 16, 18, 24, 29], [34, 33, 32, 30, 28, 31, 27, 25, 23, 26, 22, 15, 13, 21, 12, 10, 7, 11, 6, 2, 5, 1, 0, 3, 4, 8, 9, 20, 14, 17, 19, 16, 18, 24, 29], [33, 32, 30, 28, 31, 27, 25, 23, 26, 22, 15, 13, 21, 12, 10, 7, 11, 6, 2, 5, 1, 0, 3, 4, 8, 9, 20, 14, 17, 19, 16, 18, 24, 29], [36, 35, 33, 32, 30, 28, 31, 27, 25, 23, 26, 22, 15, 13, 21, 12, 10, 7, 11, 6, 2, 5, 1, 0, 3, 4, 8, 9, 20, 14, 17, 19, 16, 18, 24, 29, 34], [37, 33, 36, 35, 32, 30, 28, 31, 27, 25, 23, 26, 22, 15, 13, 21, 12, 10, 7, 11, 6, 2, 5, 1, 0, 3, 4, 8, 9, 20, 14, 17, 19, 16, 18, 24, 29, 34], [35, 38, 33, 34, 32, 30, 28, 31, 27, 25, 23, 26, 22, 15, 13, 21, 12, 10, 7, 11, 6, 2, 5, 1, 0, 3, 4, 8, 9, 20, 14, 17, 19, 16, 18, 24, 29, 37, 36], [33, 39, 32, 30, 28, 31, 27, 25, 23, 26, 22, 15, 13, 21, 12, 10, 7, 11, 6, 2, 5, 1, 0, 3, 4, 8, 9, 20, 14, 17, 19, 16, 18, 24, 29, 35, 38, 34, 37, 36]] [10, 15, 25, 30, 35, 37] [] [[], [], [], [], [], [], [], [], [], [], [], [], [], [], [], [], [], [], [], [], [], [], [], [], [], [], [], [], [], [], [], [], [], [], [], [], [], [], [], [], []] [[], [], [], [], [], [], [], [], [], [], [], [], [], [], [], [], [], [], [], [], [], [], [], [], [], [], [], [], [], [], [], [], [], [], [], [], [], [], [], [], []] [] [] [] []
            [some ?v0, some ?v1, some ?v2, some (.agg d.cells), some (.agg d.cells), some (.bool false), some ?v6, some ?v7, some ?v8, some ?v9, some (.bool true), some ?v11, some ?v12, some ?v13, some (.agg d.cells), some (.int .i64 i), some ?v16, some ?v17, some ?v18, some ?v19, some ?v20, some ?v21, some ?v22, some ?v23, some (.agg a.cells), some (.bool true), some ?v26, some ?v27, some ?v28, some (.agg a.cells), some (.int .i64 6), some ?v31, some ?v32, some ?v33, some (.agg a.cells), some (.int .i64 6), some (.agg d.cells), some (.int .i64 i), some ?v38, some ?v39, some ?v40]
            ?T (fun wx => Nine db xb ab d.cells a.cells (.slice A4 bs.length c4) (.slice Ab bs.length cb) bs w6 wx) ?W ?E (by kernel_rfl) (by kernel_rfl) (by kernel_rfl) (fun x => ?hT) ?hF ?hini (Reg.all_ops ?runs) ?pres ?fin
        case W => exact fun _ _ _ => True
        case E => exact fun _ w' w'' => Only (fun _ => False) w' w''
        case hT =>
          simp only [Reg.fillV, Act.put, List.setIfInBounds_toArray, List.set_cons_zero, List.set_cons_succ]
          rfl
        case runs =>
          refine And.intro ?_ ?_
          · refine Reg.ob_pure (fun _ => rfl) rfl rfl rfl rfl (fun x w1 hF => ?_)
            go_simp
            with_reducible rfl
          refine And.intro ?_ ?_
          · refine Reg.ob_pure (fun _ => rfl) rfl rfl rfl rfl (fun x w1 hF => ?_)
            go_simp
            with_reducible rfl
          refine And.intro ?_ ?_
          · refine Reg.ob_pure (fun _ => rfl) rfl rfl rfl rfl (fun x w1 hF => ?_)
            go_simp
            with_reducible rfl
          refine And.intro ?_ ?_
          · refine Reg.ob_pure (fun _ => rfl) rfl rfl rfl rfl (fun x w1 hF => ?_)
            exact run_load_is 31 _ (by rfl) xb (by rfl) 31 _ _ hF.x Try.underlying31 rfl Try.sizeDesc
          refine And.intro ?_ ?_
          · refine Reg.ob_pure (fun _ => rfl) rfl rfl rfl rfl (fun x w1 hF => ?_)
            exact run_load_is 31 _ (by rfl) db (by rfl) 31 _ _ hF.d Try.underlying31 rfl Try.sizeDesc
          refine And.intro ?_ ?_
          · refine Reg.ob_pure (fun _ => rfl) rfl rfl rfl rfl (fun x w1 hF => ?_)
            exact run_neq_is w1 _ _ d.cells d.cells (by rfl) (by rfl) (by rfl) (by rw [neq_desc, same_self]; rfl)
          refine And.intro ?_ ?_
          · refine Reg.ob_pure (fun _ => rfl) rfl rfl rfl rfl (fun x w1 hF => ?_)
            go_simp
            with_reducible rfl
          refine And.intro ?_ ?_
          · refine Reg.ob_pure (fun _ => rfl) rfl rfl rfl rfl (fun x w1 hF => ?_)
            go_simp
            with_reducible rfl
          refine And.intro ?_ ?_
          · refine Reg.ob_pure (fun _ => rfl) rfl rfl rfl rfl (fun x w1 hF => ?_)
            go_simp
            with_reducible rfl
          refine And.intro ?_ ?_
          · refine Reg.ob_pure (fun _ => rfl) rfl rfl rfl rfl (fun x w1 hF => ?_)
            go_simp
            with_reducible rfl
          refine And.intro ?_ ?_
          · refine Reg.ob_known (fun _ => rfl) rfl rfl (fun x w1 hF hU K hK => ?_)
            replace hF := hF rfl
            go_simp
            refine (same_yes _ _ bs _ hF.s1 hF.s2 (by omega)).mono ?_
            rintro e w3 ⟨rfl, ho⟩
            exact hK w3 (fun _ _ _ => hF.go ho) ho
          refine And.intro ?_ ?_
          · refine Reg.ob_pure (fun _ => rfl) rfl rfl rfl rfl (fun x w1 hF => ?_)
            go_simp
            with_reducible rfl
          refine And.intro ?_ ?_
          · refine Reg.ob_pure (fun _ => rfl) rfl rfl rfl rfl (fun x w1 hF => ?_)
            go_simp
            with_reducible rfl
          refine And.intro ?_ ?_
          · refine Reg.ob_pure (fun _ => rfl) rfl rfl rfl rfl (fun x w1 hF => ?_)
            go_simp
            with_reducible rfl
          refine And.intro ?_ ?_
          · refine Reg.ob_pure (fun _ => rfl) rfl rfl rfl rfl (fun x w1 hF => ?_)
            exact run_load_is 31 _ (by rfl) db (by rfl) 31 _ _ hF.d Try.underlying31 rfl Try.sizeDesc
          refine And.intro ?_ ?_
          · refine Reg.ob_known (fun _ => rfl) rfl rfl (fun x w1 hF hU K hK => ?_)
            replace hF := hF rfl
            go_simp
            refine (HLD.out _).mono ?_
            rintro e w3 ⟨rfl, ho⟩
            exact hK w3 (fun _ _ _ => hF.go ho) ho
          refine And.intro ?_ ?_
          · refine Reg.ob_pure (fun _ => rfl) rfl rfl rfl rfl (fun x w1 hF => ?_)
            go_simp
            with_reducible rfl
          refine And.intro ?_ ?_
          · refine Reg.ob_pure (fun _ => rfl) rfl rfl rfl rfl (fun x w1 hF => ?_)
            go_simp
            with_reducible rfl
          refine And.intro ?_ ?_
          · refine Reg.ob_pure (fun _ => rfl) rfl rfl rfl rfl (fun x w1 hF => ?_)
            go_simp
            with_reducible rfl
          refine And.intro ?_ ?_
          · refine Reg.ob_pure (fun _ => rfl) rfl rfl rfl rfl (fun x w1 hF => ?_)
            go_simp
            with_reducible rfl
          refine And.intro ?_ ?_
          · refine Reg.ob_pure (fun _ => rfl) rfl rfl rfl rfl (fun x w1 hF => ?_)
            go_simp
            with_reducible rfl
          refine And.intro ?_ ?_
          · refine Reg.ob_pure (fun _ => rfl) rfl rfl rfl rfl (fun x w1 hF => ?_)
            go_simp
            with_reducible rfl
          refine And.intro ?_ ?_
          · refine Reg.ob_pure (fun _ => rfl) rfl rfl rfl rfl (fun x w1 hF => ?_)
            go_simp
            with_reducible rfl
          refine And.intro ?_ ?_
          · refine Reg.ob_pure (fun _ => rfl) rfl rfl rfl rfl (fun x w1 hF => ?_)
            go_simp
            with_reducible rfl
          refine And.intro ?_ ?_
          · refine Reg.ob_pure (fun _ => rfl) rfl rfl rfl rfl (fun x w1 hF => ?_)
            exact run_load_is 31 _ (by rfl) ab (by rfl) 31 _ _ hF.a Try.underlying31 rfl Try.sizeDesc
          refine And.intro ?_ ?_
          · refine Reg.ob_known (fun _ => rfl) rfl rfl (fun x w1 hF hU K hK => ?_)
            replace hF := hF rfl
            go_simp
            refine (HRA.out _).mono ?_
            rintro e w3 ⟨rfl, ho⟩
            exact hK w3 (fun _ _ _ => hF.go ho) ho
          refine And.intro ?_ ?_
          · refine Reg.ob_pure (fun _ => rfl) rfl rfl rfl rfl (fun x w1 hF => ?_)
            go_simp
            with_reducible rfl
          refine And.intro ?_ ?_
          · refine Reg.ob_pure (fun _ => rfl) rfl rfl rfl rfl (fun x w1 hF => ?_)
            go_simp
            with_reducible rfl
          refine And.intro ?_ ?_
          · refine Reg.ob_pure (fun _ => rfl) rfl rfl rfl rfl (fun x w1 hF => ?_)
            go_simp
            with_reducible rfl
          refine And.intro ?_ ?_
          · refine Reg.ob_pure (fun _ => rfl) rfl rfl rfl rfl (fun x w1 hF => ?_)
            exact run_load_is 31 _ (by rfl) ab (by rfl) 31 _ _ hF.a Try.underlying31 rfl Try.sizeDesc
          refine And.intro ?_ ?_
          · refine Reg.ob_known (fun _ => rfl) rfl rfl (fun x w1 hF hU K hK => ?_)
            replace hF := hF rfl
            go_simp
            refine (HLA.out _).mono ?_
            rintro e w3 ⟨rfl, ho⟩
            exact hK w3 (fun _ _ _ => hF.go ho) ho
          refine And.intro ?_ ?_
          · refine Reg.ob_pure (fun _ => rfl) rfl rfl rfl rfl (fun x w1 hF => ?_)
            go_simp
            with_reducible rfl
          refine And.intro ?_ ?_
          · refine Reg.ob_pure (fun _ => rfl) rfl rfl rfl rfl (fun x w1 hF => ?_)
            go_simp
            with_reducible rfl
          refine And.intro ?_ ?_
          · refine Reg.ob_pure (fun _ => rfl) rfl rfl rfl rfl (fun x w1 hF => ?_)
            go_simp
            with_reducible rfl
          refine And.intro ?_ ?_
          · refine Reg.ob_pure (fun _ => rfl) rfl rfl rfl rfl (fun x w1 hF => ?_)
            exact run_load_is 31 _ (by rfl) ab (by rfl) 31 _ _ hF.a Try.underlying31 rfl Try.sizeDesc
          refine And.intro ?_ ?_
          · refine Reg.ob_known (fun _ => rfl) rfl rfl (fun x w1 hF hU K hK => ?_)
            replace hF := hF rfl
            go_simp
            refine (HLA.out _).mono ?_
            rintro e w3 ⟨rfl, ho⟩
            exact hK w3 (fun _ _ _ => hF.go ho) ho
          refine And.intro ?_ ?_
          · refine Reg.ob_pure (fun _ => rfl) rfl rfl rfl rfl (fun x w1 hF => ?_)
            exact run_load_is 31 _ (by rfl) db (by rfl) 31 _ _ hF.d Try.underlying31 rfl Try.sizeDesc
          refine And.intro ?_ ?_
          · refine Reg.ob_known (fun _ => rfl) rfl rfl (fun x w1 hF hU K hK => ?_)
            replace hF := hF rfl
            go_simp
            refine (HLD.out _).mono ?_
            rintro e w3 ⟨rfl, ho⟩
            exact hK w3 (fun _ _ _ => hF.go ho) ho
          refine And.intro ?_ ?_
          · refine Reg.ob_pure (fun _ => rfl) rfl rfl rfl rfl (fun x w1 hF => ?_)
            go_simp
            with_reducible rfl
          refine And.intro ?_ ?_
          · refine Reg.ob_pure (fun _ => rfl) rfl rfl rfl rfl (fun x w1 hF => ?_)
            go_simp
            with_reducible rfl
          refine And.intro ?_ ?_
          · refine Reg.ob_pure (fun _ => rfl) rfl rfl rfl rfl (fun x w1 hF => ?_)
            go_simp
            with_reducible rfl
          exact trivial
        case hF =>
          exact N6.out.go ((Only.refl _ _).drewN 1)
        case hini =>
          exact trivial
        case pres =>
          intro i hi j hj
          cases hj
        case fin =>
          rintro x w9 hF -
          replace hF := hF rfl
          go_wp2_with fail
          go_meet
          exact only_more T6.out hF.pure
    case rest =>
      have PC := Lib.hid (only_more P0.out (only_more O2.out hcut))
      have HPB := Lib.hid (parse_any (.slice Ab bs.length cb) bs wc (HS0.out.only (only_more O2.out hcut) (by simp)) HB.out (by omega))
      obtain ⟨hgr, hgf, hgp⟩ := got_is bs
      clear hcut O1 O2 O12 OWN HPUT HI0 hk1 K1
      go_wp2_with fail
      refine HPB.out.mono ?_
      rintro e w3 ⟨ho3, ⟨hg, rfl⟩ | ⟨hg, i, A3, c3, hgi, hil, rfl, hs3⟩⟩
      · have O3 := Lib.hid ho3
        have EZ := Lib.hid (same_self Dv.zero)
        clear ho3 hg hgr hgf hgp
        go_upto_region 12 with (first
          | (refine wpList_store_is rfl 31 _ _ rfl w3.heap.size Dv.zero.cells rfl rfl 31 Dv.zero.cells (Is.made _ _ Dv.zero.cells) Try.sizeDesc rfl (Dv.one Dv.zero) ?_; intro w4 hi hp))
        have X4 := Lib.hid hi
        have O4 := Lib.hid (only_more O3.out (only_stored hp))
        clear hi hp
        go_wp2_with (first
          | (refine wpList_load_want (o := ⟨some 108, _, _, _, _, _⟩) rfl _ _ rfl _ rfl _ _ _ X4.out Try.underlying31 rfl Try.sizeDesc ?_)
          | (refine wpList_eql_desc (o := ⟨some 110, _, _, _, _, _⟩) rfl _ _ rfl Dv.zero Dv.zero true EZ.out rfl rfl ?_)
          | (go_at_call 7; refine (HW.out _).mono ?_; rintro e w5 ⟨rfl, ho5⟩; have O5 := Lib.hid ho5; clear ho5))
        go_ret
        exact ⟨rfl, only_more PC.out (only_more O4.out O5.out)⟩
      · have O3 := Lib.hid ho3
        have S3 := Lib.hid hs3
        have hpl := hgp hg
        have HRG := Lib.hid (fun w => right_is (Got bs).1 w hgf)
        rw [hgr] at HRG
        simp only [Dv.val] at HRG
        have EG := Lib.hid (same_self (Got bs).1)
        have VG := Lib.hid (Dv.one (Got bs).1)
        have ZG := Lib.hid (show (Got bs).1.cells.size = 13 from rfl)
        have HRB := Lib.hid (show ∀ x ∈ bs.drop i, x < 256 from fun x hx => HB.out x (List.mem_of_mem_drop hx))
        have hdl : (bs.drop i).length + i = bs.length := by rw [List.length_drop]; omega
        generalize bs.drop i = r at *
        have hrl : r.length ≤ 200 := by omega
        generalize (Got bs).1 = g at *
        have HPG := Lib.hid (fun w (h : Only (fun _ => False) w3 w) => put_any g A3 _ c3 r w hgf (S3.out.only h (by simp)) HRB.out (by omega))
        have HGR := Lib.hid hgr
        have HGF := Lib.hid hgf
        clear ho3 hs3 hgp hg HPB
        rw [hgi] at hpl
        go_upto_region 14 with (first
          | (refine wpList_store_is rfl 31 _ _ rfl w3.heap.size g.cells rfl rfl 31 Dv.zero.cells (Is.made _ _ Dv.zero.cells) Try.sizeDesc rfl VG.out ?_; intro w4 hi hp))
        have X4 := Lib.hid hi
        have O34 := Lib.hid (only_stored hp)
        have O4 := Lib.hid (only_more O3.out O34.out)
        clear hi hp
        generalize w3.heap.size = xb at *
        go_upto_region 15 with (first
          | (refine wpList_load_want (o := ⟨some 121, _, _, _, _, _⟩) rfl _ _ rfl xb rfl _ _ _ X4.out Try.underlying31 rfl Try.sizeDesc ?_)
          | (go_at_call 17; refine (HPG.out _ O34.out).mono ?_; rintro e w5 ⟨A5, n5, c5, k5, rfl, hk5, ho5, hown5⟩; have O5 := Lib.hid ho5; have OWN5 := Lib.hid hown5; have K5 := Lib.hid hk5; clear ho5 hown5))
        obtain ⟨m, rfl, hwm, hsm⟩ := OWN5.out HGR.out
        rw [HGR.out] at hk5
        obtain rfl : k5 = 0 := by simpa using hk5
        have HPM := Lib.hid (parse_put g _ r m w5 HGF.out HGR.out hwm hsm HRB.out (by omega))
        obtain ⟨j, hj1, hj2, hj3, hj4, hj5, hj6⟩ := wrote_put hwm HRB.out
        obtain ⟨x, hless, hx01⟩ : ∃ x : Int, (bs.length : Int) - (m.length : Int) = x ∧ (x = 0 ∨ x = 1) := ⟨_, rfl, by omega⟩
        clear OWN5 K5 hk5 hwm hsm hj1 hj2 hj3 hj4 hj5 hj6 hpl hdl HRB hgr hgf
        generalize m.length = M at *
        have X5 := Lib.hid (X4.out.only O5.out (by simp))
        go_upto_region 16 with (first
          | (go_at_call 10; refine HPM.out.mono ?_; rintro e w6 ⟨A6, c6, rfl, hs6, ho6⟩; have S6 := Lib.hid hs6; have O6 := Lib.hid ho6; clear hs6 ho6)
          | (refine wpList_store_is rfl 31 _ _ rfl w6.heap.size g.cells rfl rfl 31 Dv.zero.cells (Is.made _ _ Dv.zero.cells) Try.sizeDesc rfl VG.out ?_; intro w7 hi hp))
        have Y7 := Lib.hid hi
        have O67 := Lib.hid (only_stored hp)
        have X7 := Lib.hid (X5.out.only (only_more O6.out O67.out) (by simp))
        have T37 := Lib.hid (only_more O34.out (only_more O5.out (only_more O6.out O67.out)))
        have ylt : w6.heap.size < w7.heap.size := hi.lt
        generalize w6.heap.size = yb at *
        clear hi hp
        have HSM := Lib.hid (fun w (h : Only (fun _ => False) w7 w) => same_yes (.slice A6 r.length c6) (.slice A3 r.length c3) r w (S6.out.only (only_more O67.out h) (by simp)) (S3.out.only (only_more T37.out h) (by simp)) (by omega))
        have hwl : IntKind.i64.wrap ((bs.length : Int) - (M : Int)) = x := (IntWalk.i64_in _ (by omega)).trans hless
        clear hless
        rcases hx01 with rfl | rfl
        all_goals
          go_wp2_with (first
            | (refine wpList_load_want (o := ⟨some 137, _, _, _, _, _⟩) rfl _ _ rfl xb rfl _ _ _ X7.out Try.underlying31 rfl Try.sizeDesc ?_)
            | (go_at_call 19; refine (HRG.out _).mono ?_; rintro e w8 ⟨rfl, ho8⟩; have O8 := Lib.hid ho8; clear ho8)
            | (refine wpList_load_want (o := ⟨some 148, _, _, _, _, _⟩) rfl _ _ rfl yb rfl _ _ _ (Y7.out.only O8.out (by simp)) Try.underlying31 rfl Try.sizeDesc ?_)
            | (refine wpList_load_want (o := ⟨some 149, _, _, _, _, _⟩) rfl _ _ rfl xb rfl _ _ _ (X7.out.only O8.out (by simp)) Try.underlying31 rfl Try.sizeDesc ?_)
            | (refine wpList_eql_desc (o := ⟨some 150, _, _, _, _, _⟩) rfl _ _ rfl g g true EG.out rfl rfl ?_)
            | (go_at_call 12; refine (HSM.out _ O8.out).mono ?_; rintro e w9 ⟨rfl, ho9⟩; have O9 := Lib.hid ho9; clear ho9)
            | (go_at_call 7; refine (HW.out _).mono ?_; rintro e wz ⟨rfl, hoz⟩; have OZ := Lib.hid hoz; clear hoz))
          go_ret
          exact ⟨rfl, only_more PC.out (only_more O3.out (only_more T37.out (only_more O8.out (only_more O9.out OZ.out))))⟩
end Go.Proofs.Ytneogagainllnaa
