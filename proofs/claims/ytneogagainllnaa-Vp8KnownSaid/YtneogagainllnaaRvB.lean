/- The reference's Parse. Conditions: as each says. -/
import Derived.Test.YtneogagainllnaaRvN
import Derived.Test.YtneogagainllnaaRefA
import Derived.Test.YtneogagainllnaaCut
set_option linter.unusedVariables false
namespace Go.Proofs.Ytneogagainllnaa
open Go.RowKit

/-- Amid the reference's Parse: the bytes, the answer's block, and what has become of memory. -/
structure Rv (w : World) (g o rb : Nat) (bs : List Nat) (wx : World) : Prop where
  at_ : ∀ i, i < bs.length → wx.cell? ⟨g, o + i, none⟩ = some (.int .u8 (bt bs i : Nat))
  ans : Is wx rb 27 Dv.zero.cells
  pure : Only (fun _ => False) w wx
theorem Rv.at0 {w wx : World} {g o rb : Nat} {bs : List Nat} (h : Rv w g o rb bs wx) (hl : 1 ≤ bs.length) : wx.cell? ⟨g, o, none⟩ = some (.int .u8 (bt bs 0 : Nat)) := h.at_ 0 hl
theorem Rv.go {w wx wy : World} {g o rb : Nat} {bs : List Nat} (h : Rv w g o rb bs wx) (ho : Only (fun _ => False) wx wy) : Rv w g o rb bs wy :=
  ⟨fun i hi => by rw [ho.cell (World.block_lt_of_cell? wx _ (h.at_ i hi)) (by simp)]; exact h.at_ i hi, h.ans.only ho (by simp), only_more h.pure ho⟩
theorem Rv.drew {w wx : World} {g o rb : Nat} {bs : List Nat} (h : Rv w g o rb bs wx) : Rv w g o rb bs wx.drew := h.go (Only.refl _ wx).drew
theorem Rv.own {w wx wy : World} {g o rb db : Nat} {bs : List Nat} (h : Rv w g o rb bs wx) (ho : Only (fun k => k = db) wx wy) (hg : g < db ∧ w.heap.size ≤ db) (hr : rb ≠ db) : Rv w g o rb bs wy :=
  ⟨fun i hi => by rw [ho.cell (World.block_lt_of_cell? wx _ (h.at_ i hi)) (by simp; omega)]; exact h.at_ i hi, h.ans.only ho hr, h.pure.trans ho (fun i hi e => by omega)⟩
theorem Rv.put {w wx : World} {g o rb db : Nat} {bs : List Nat} (h : Rv w g o rb bs wx) (i : Nat) (v : Value) (hg : g < db ∧ w.heap.size ≤ db) (hr : rb ≠ db) : Rv w g o rb bs (wx.setCell ⟨db, i, none⟩ v) :=
  h.own (Only.set (S := fun k => k = db) (p := ⟨db, i, none⟩) (Only.refl _ wx) (fun _ => rfl) v) hg hr
theorem only_made {w w1 : World} {o : Obj} (h : Only (fun k => k = w.heap.size) (w.alloc o) w1) : Only (fun _ => False) w w1 :=
  ((Only.refl _ w).alloc o).trans h (fun i hi e => by omega)
def rd0 (bs : List Nat) : Dv := ⟨hasb (bt bs 0) 32, hasb (bt bs 0) 16, bt bs 0 % 8, false, false, 0, false, 0, false, 0, false, false, 0⟩
/-- Within the bytes. -/
theorem need_room (bs : List Nat) (h1 : 1 ≤ bs.length) (hn : needN bs ≤ bs.length) :
    (hasb (bt bs 0) 128 = true → 2 ≤ bs.length) ∧ ((rd1 bs).hasPic = true → 3 ≤ bs.length) ∧ ((rd1 bs).hasPic = true → hasb (bt bs 2) 128 = true → 4 ≤ bs.length) ∧ ((rd1 bs).hasTl0 = true → ri2 bs (rd1 bs) < bs.length) ∧ ((rd1 bs).hasTid = true ∨ (rd1 bs).hasKey = true → ri3 bs (rd1 bs) < bs.length) := by
  cases hx : hasb (bt bs 0) 128
  · have er : rd1 bs = ⟨hasb (bt bs 0) 32, hasb (bt bs 0) 16, bt bs 0 % 8, false, false, 0, false, 0, false, 0, false, false, 0⟩ := by unfold rd1; rw [hx]; rfl
    rw [er]
    simp
  · have h2 : 2 ≤ bs.length := by
      apply Classical.byContradiction
      intro hlt
      unfold needN at hn
      rw [if_neg (by rw [hx]; exact fun h => h.elim (fun h => by omega) (fun h => by cases h)), if_pos (by omega)] at hn
      omega
    have er : rd1 bs = ⟨hasb (bt bs 0) 32, hasb (bt bs 0) 16, bt bs 0 % 8, hasb (bt bs 1) 128, false, 0, hasb (bt bs 1) 64, 0, hasb (bt bs 1) 32, 0, false, hasb (bt bs 1) 16, 0⟩ := by unfold rd1; rw [hx]; rfl
    unfold needN at hn
    rw [if_neg (by rw [hx]; exact fun h => h.elim (fun h => by omega) (fun h => by cases h)), if_neg (by omega)] at hn
    unfold ri3 ri2
    rw [er]
    simp only
    have e3 : hasb (bt bs 1) 128 = true → 3 ≤ bs.length := by
      intro h; rw [h] at hn; simp only [if_true] at hn
      have : 1 ≤ (if 2 < bs.length ∧ hasb (bt bs 2) 128 = true then 2 else 1) := by split <;> omega
      omega
    have e4 : 2 + (if hasb (bt bs 1) 128 then (if 2 < bs.length ∧ hasb (bt bs 2) 128 = true then 2 else 1) else 0) = (if hasb (bt bs 1) 128 = true then if hasb (bt bs 2) 128 = true then 4 else 3 else 2) := by
      cases h : hasb (bt bs 1) 128
      · rfl
      · have h3' : 2 < bs.length := by have := e3 h; omega
        cases hz : hasb (bt bs 2) 128 <;> simp [h3']
    rw [e4] at hn
    refine ⟨fun _ => h2, e3, ?_, ?_, ?_⟩
    · intro h h'; rw [h, h'] at hn; simp only [if_true] at hn; omega
    · intro h; rw [h] at hn; simp only [if_true] at hn; omega
    · intro h; rw [if_pos h] at hn; omega

set_option maxRecDepth 100000 in
set_option maxHeartbeats 4000000 in
theorem rparse_bad (v : Value) (bs : List Nat) (w : World) (hs : Src w v bs) (hb : ∀ x ∈ bs, x < 256) (hl : bs.length ≤ 1000000) (hbad : ¬ (1 ≤ bs.length ∧ needN bs ≤ bs.length)) :
    Calls Try.prog 9 #[v] w fun e w' => e = .returned (.tuple #[.agg Dv.zero.cells, .slice none 0 0, .int .i64 10]) ∧ Only (fun _ => False) w w' := by
  obtain ⟨A, c, rfl⟩ := hs.slice
  have HN := Lib.hid (need_is _ bs (w.alloc (.cells Dv.zero.cells 27)) (hs.only ((Only.refl (fun _ => False) w).alloc _) (by simp)) hb hl)
  have hbb : bs.length < needN bs ∨ (¬ bs.length < needN bs ∧ bs.length = 0) := by omega
  have HI := Lib.hid (Is.made w 27 Dv.zero.cells)
  clear hs hb hbad
  generalize needN bs = n at *
  generalize bs.length = L at *
  rcases hbb with h | ⟨h, rfl⟩
  · have z : decide ((L : Int) < (n : Int)) = true := decide_eq_true (by omega)
    go_enter Try.func9, Try.ntmps9
    go_wp2_with (first | (go_at_call 23; refine HN.out.mono ?_; rintro e wy ⟨rfl, rfl⟩) | (refine wpList_store_is rfl 27 _ _ rfl w.heap.size Dv.zero.cells rfl rfl 27 Dv.zero.cells HI.out Try.sizeRef rfl (Dv.one _) ?_; intro w5 hi5 ho5))
    exact bodyPost_ret (results_three Try.results9 _ w5 w.heap.size 27 Dv.zero.cells _ _ _ rfl rfl rfl hi5 Try.underlying27 rfl Try.sizeRef) rfl ⟨rfl, only_made ho5⟩
  · have z : decide (((0 : Nat) : Int) < (n : Int)) = false := decide_eq_false (by omega)
    go_enter Try.func9, Try.ntmps9
    go_wp2_with (first | (go_at_call 23; refine HN.out.mono ?_; rintro e wy ⟨rfl, rfl⟩) | (refine wpList_store_is rfl 27 _ _ rfl w.heap.size Dv.zero.cells rfl rfl 27 Dv.zero.cells HI.out Try.sizeRef rfl (Dv.one _) ?_; intro w5 hi5 ho5))
    exact bodyPost_ret (results_three Try.results9 _ w5 w.heap.size 27 Dv.zero.cells _ _ _ rfl rfl rfl hi5 Try.underlying27 rfl Try.sizeRef) rfl ⟨rfl, only_made ho5⟩

set_option maxRecDepth 100000 in
set_option maxHeartbeats 8000000 in
theorem rparse_good (v : Value) (bs : List Nat) (w : World) (hs : Src w v bs) (hb : ∀ x ∈ bs, x < 256) (hl : bs.length ≤ 1000000) (h1 : 1 ≤ bs.length) (hn : needN bs ≤ bs.length) :
    Calls Try.prog 9 #[v] w fun e w' => ∃ u, e = .returned (.tuple #[.agg (refD bs).cells, u, .int .i64 0]) ∧ w'.ownsRow w.heap.size 5 1 u (bs.drop (needN bs)).length (cellsOf (bs.drop (needN bs))) ∧ Only (fun _ => False) w w' := by
  obtain ⟨g, o, c, rfl, hlc, hc⟩ := hs.cap h1
  have hgl := World.block_lt_of_cell? w _ (hc 0 h1)
  have hdsz : 1 ≤ needN bs := by unfold needN; split <;> (try split) <;> omega
  obtain ⟨k2, k3, k4, kt, kk⟩ := need_room bs h1 hn
  obtain ⟨rb, hrb⟩ : ∃ rb, w.heap.size = rb := ⟨_, rfl⟩
  have HN := Lib.hid (need_is _ bs (w.alloc (.cells Dv.zero.cells 27)) (hs.only ((Only.refl (fun _ => False) w).alloc _) (by simp)) hb hl)
  have B0 := Lib.hid (bt_lt hb 0)
  have B1 := Lib.hid (bt_lt hb 1)
  have B2 := Lib.hid (bt_lt hb 2)
  have BI := Lib.hid (bt_lt hb)
  have HS := Lib.hid hs
  have HL1 := Lib.hid h1
  have HX0 := Lib.hid (show (0 : Int) < (bs.length : Int) from by omega)
  have hr0 : Rv w g o w.heap.size bs (w.alloc (.cells Dv.zero.cells 27)) := by
    refine ⟨fun i hi => ?_, Is.made _ _ _, (Only.refl _ w).alloc _⟩
    have hq := hc i hi
    rw [bt_get hi, ((Only.refl (fun _ => False) w).alloc _).cell (World.block_lt_of_cell? w _ hq) (by simp)]
    exact hq
  have z : decide (bs.length < needN bs) = false := decide_eq_false (by omega)
  have z0 : ((bs.length : Int) == 0) = false := by rw [beq_eq_false_iff_ne]; omega
  have HG := Lib.hid hgl
  clear hc hs hb hgl
  go_enter Try.func9, Try.ntmps9
  go_upto_region 4 with (go_at_call 23; refine HN.out.mono ?_; rintro e wy ⟨rfl, rfl⟩)
  rw [hrb] at hr0 HG
  have hw0s : (w.alloc (.cells Dv.zero.cells 27)).heap.size = rb + 1 := by simp [hrb]
  generalize World.alloc _ _ = w0 at *
  have R0 := Lib.hid hr0
  have HW0 := Lib.hid (show g < rb ∧ w0.heap.size = rb + 1 ∧ w.heap.size = rb from ⟨HG.out, hw0s, hrb⟩)
  have HRB := HW0
  have HSZ := Lib.hid (show ∀ wx, Rv w g o rb bs wx → w0.heap.size ≤ wx.heap.size from fun wx h => by have := h.ans.lt; omega)
  clear hr0 hw0s HN z z0
  go_cut [6] (fun s6 wx => ∃ db, s6 = .pointer (some ⟨db, 0, none⟩) ∧ w0.heap.size ≤ db ∧ Rv w g o rb bs wx ∧ Is wx db 27 (rd0 bs).cells)
  case first =>
    refine wp_region_posts [[], [0], [1, 0], [2, 1, 0], [], [4], [5, 4], [6, 3, 5, 4, 2, 1, 0], [], [8], [9, 8], [10, 9, 8], [3, 7, 11, 2, 1, 0, 6, 5, 4, 10, 9, 8], [], [13, 12, 7, 0, 1, 2, 3, 4, 5, 6, 8, 9, 10, 11]] [13, 14] [13, 14] [[], [], [], [], [], [], [], [], [], [], [], [], [], [], [13]] [[], [], [], [], [], [], [], [], [], [], [], [], [], [], [13]] [14] [] [] []
        [some ?v0, some ?v1, some ?v2, some (.bool (hasb (bt bs 0) 32)), some ?v4, some ?v5, some ?v6, some (.bool (hasb (bt bs 0) 16)), some ?v8, some ?v9, some ?v10, some ?v11, some ?v12, none, none]
        ?T (fun wx => Rv w g o rb bs wx) ?W ?E (by kernel_rfl) (by kernel_rfl) (by kernel_rfl) (fun x => ?hT) ?hF ?hini (Reg.all_ops ?runs) ?pres ?fin
    case W => exact fun j x w' => match j with | 13 => ∃ db, x 13 = .pointer (some ⟨db, 0, none⟩) ∧ w0.heap.size ≤ db ∧ Is w' db 27 Dv.zero.cells | 14 => ∃ db, x 13 = .pointer (some ⟨db, 0, none⟩) ∧ w0.heap.size ≤ db ∧ Is w' db 27 (rd0 bs).cells | _ => True
    case E => exact fun i w' w'' => match i with | 14 => True | _ => Only (fun _ => False) w' w''
    case hT =>
      simp only [Reg.fillV, Act.put, List.setIfInBounds_toArray, List.set_cons_zero, List.set_cons_succ]
      rfl
    case runs =>
      refine And.intro ?_ ?_
      · refine Reg.ob_pure (fun _ => rfl) rfl rfl rfl rfl (fun x w1 hF => ?_)
        have c0 := hF.at0 HL1.out
        have x0 : 0 < bs.length := HL1.out
        go_simp
        with_reducible rfl
      refine And.intro ?_ ?_
      · refine Reg.ob_pure (fun _ => rfl) rfl rfl rfl rfl (fun x w1 hF => ?_)
        have c0 := hF.at0 HL1.out
        have x0 : 0 < bs.length := HL1.out
        go_simp
        with_reducible rfl
      refine And.intro ?_ ?_
      · refine Reg.ob_pure (fun _ => rfl) rfl rfl rfl rfl (fun x w1 hF => ?_)
        have c0 := hF.at0 HL1.out
        have x0 : 0 < bs.length := HL1.out
        go_simp
        with_reducible rfl
      refine And.intro ?_ ?_
      · refine Reg.ob_known (fun _ => rfl) rfl rfl (fun x w1 hF hU K hK => ?_)
        have c0 := (hF rfl).at0 HL1.out
        go_simp
        refine (has_is (bt bs 0) 32 _ rfl _ B0.out (by decide)).mono ?_
        rintro e w3 ⟨rfl, rfl⟩
        exact hK _ (fun h => by cases h) rfl
      refine And.intro ?_ ?_
      · refine Reg.ob_pure (fun _ => rfl) rfl rfl rfl rfl (fun x w1 hF => ?_)
        have c0 := hF.at0 HL1.out
        have x0 : 0 < bs.length := HL1.out
        go_simp
        with_reducible rfl
      refine And.intro ?_ ?_
      · refine Reg.ob_pure (fun _ => rfl) rfl rfl rfl rfl (fun x w1 hF => ?_)
        have c0 := hF.at0 HL1.out
        have x0 : 0 < bs.length := HL1.out
        go_simp
        with_reducible rfl
      refine And.intro ?_ ?_
      · refine Reg.ob_pure (fun _ => rfl) rfl rfl rfl rfl (fun x w1 hF => ?_)
        have c0 := hF.at0 HL1.out
        have x0 : 0 < bs.length := HL1.out
        go_simp
        with_reducible rfl
      refine And.intro ?_ ?_
      · refine Reg.ob_known (fun _ => rfl) rfl rfl (fun x w1 hF hU K hK => ?_)
        have c0 := (hF rfl).at0 HL1.out
        go_simp
        refine (has_is (bt bs 0) 16 _ rfl _ B0.out (by decide)).mono ?_
        rintro e w3 ⟨rfl, rfl⟩
        exact hK _ (fun h => by cases h) rfl
      refine And.intro ?_ ?_
      · refine Reg.ob_pure (fun _ => rfl) rfl rfl rfl rfl (fun x w1 hF => ?_)
        have c0 := hF.at0 HL1.out
        have x0 : 0 < bs.length := HL1.out
        go_simp
        with_reducible rfl
      refine And.intro ?_ ?_
      · refine Reg.ob_pure (fun _ => rfl) rfl rfl rfl rfl (fun x w1 hF => ?_)
        have c0 := hF.at0 HL1.out
        have x0 : 0 < bs.length := HL1.out
        go_simp
        with_reducible rfl
      refine And.intro ?_ ?_
      · refine Reg.ob_pure (fun _ => rfl) rfl rfl rfl rfl (fun x w1 hF => ?_)
        have c0 := hF.at0 HL1.out
        have x0 : 0 < bs.length := HL1.out
        go_simp
        with_reducible rfl
      refine And.intro ?_ ?_
      · refine Reg.ob_pure (fun _ => rfl) rfl rfl rfl rfl (fun x w1 hF => ?_)
        have c0 := hF.at0 HL1.out
        have x0 : 0 < bs.length := HL1.out
        go_simp
        with_reducible rfl
      refine And.intro ?_ ?_
      · refine Reg.ob_pure (fun _ => rfl) rfl rfl rfl rfl (fun x w1 hF => ?_)
        have c0 := hF.at0 HL1.out
        have x0 : 0 < bs.length := HL1.out
        go_simp
        with_reducible rfl
      refine And.intro ?_ ?_
      · refine Reg.ob_some (fun _ => rfl) rfl (fun x w1 hF hU K hK => ?_)
        go_simp
        exact hK _ _ (fun _ _ _ => (hF rfl).go ((Only.refl _ w1).alloc _)) ((Only.refl _ w1).alloc _) ⟨_, rfl, HSZ.out _ (hF rfl), Is.made _ _ _⟩
      refine And.intro ?_ ?_
      · refine Reg.ob_some (fun _ => rfl) rfl (fun x w1 hF hU K hK => ?_)
        obtain ⟨⟨db, h13, hdb, hI⟩, -⟩ := hU
        have h13 : x 13 = .pointer (some ⟨db, 0, none⟩) := h13
        refine wp_store_row 27 _ _ rfl db (rd0 bs).cells (by simpa [Act.eval] using h13) rfl 27 Dv.zero.cells hI Try.sizeRef rfl (Dv.one _) ?_
        have ho : Only (fun k => k = db) w1 (w1.setRow db (rd0 bs).cells) := Only.setRow (S := fun k => k = db) (Only.refl _ w1) (fun _ => rfl) _
        exact hK undef _ (fun _ _ _ => (hF rfl).own ho (by have := HW0.out; omega) (by have := HRB.out; omega)) trivial ⟨db, h13, hdb, hI.setRow _⟩
      exact trivial
    case hF =>
      exact R0.out.drew
    case hini =>
      exact trivial
    case pres =>
      intro i hi j hj hc x w1 w2 hF hE hW
      simp only [List.mem_cons, List.mem_nil_iff, or_false] at hi hj
      rcases hj with rfl | rfl <;> rcases hi with rfl | rfl
      all_goals first
        | (exfalso; revert hc; decide)
        | (obtain ⟨db, h13, hdb, hI⟩ := hW; exact ⟨db, h13, hdb, Is.only hI hE (fun h => h)⟩)
    case fin =>
      rintro x w1 hF ⟨⟨db, h13, hdb, hI⟩, -⟩
      replace hF := hF rfl
      have h13 : x 13 = .pointer (some ⟨db, 0, none⟩) := h13
      rw [h13]
      go_wp2_with fail
      go_meet
      exact ⟨db, rfl, hdb, hF, hI⟩
  case rest =>
    obtain ⟨db, rfl, hdb, R1, I1⟩ := hcut
    have HDB := Lib.hid hdb
    clear R0 HSZ hdb
    generalize wc = w1 at *
    have c0 := R1.at0 HL1.out
    have x0 : 0 < bs.length := HL1.out
    go_upto_if 37 with (go_at_call 24; refine (has_is (bt bs 0) 128 _ rfl _ B0.out (by decide)).mono ?_; rintro e wy ⟨rfl, rfl⟩)
    clear c0
    go_cut [] (fun wx => Rv w g o rb bs wx ∧ Is wx db 27 (rd1 bs).cells)
    case first =>
      cases hx : hasb (bt bs 0) 128
      · go_wp2_with fail
        go_meet
        exact ⟨R1, by rw [show rd1 bs = rd0 bs from by unfold rd1; rw [hx]; rfl]; exact I1⟩
      · have x1 : 1 < bs.length := k2 hx
        have c1 := R1.at_ 1 x1
        have q3 := I1.cell 3
        have f3 := I1.free 3
        simp [Dv.cells] at q3
        go_upto_region 7 with (go_at_call 24; refine (has_is (bt bs 1) 128 _ rfl _ B1.out (by decide)).mono ?_; rintro e wy ⟨rfl, rfl⟩)
        generalize hwk : World.setCell w1 _ _ = w2
        have R2 : Rv w g o rb bs w2 := by rw [← hwk]; exact R1.put (db := db) 3 _ (by have := HW0.out; have := HDB.out; omega) (by have := HW0.out; have := HDB.out; omega)
        have I2 : Is w2 db 27 (Dv.cells ({ rd0 bs with hasPic := hasb (bt bs 1) 128 } : Dv)) := by rw [← hwk]; exact I1.put 3 _
        clear hwk q3 f3
        clear c1
        have c1 := R2.at_ 1 x1
        have q6 := I2.cell 6
        have f6 := I2.free 6
        simp [Dv.cells] at q6
        go_upto_region 8 with (go_at_call 24; refine (has_is (bt bs 1) 64 _ rfl _ B1.out (by decide)).mono ?_; rintro e wy ⟨rfl, rfl⟩)
        generalize hwk : World.setCell w2 _ _ = w3
        have R3 : Rv w g o rb bs w3 := by rw [← hwk]; exact R2.put (db := db) 6 _ (by have := HW0.out; have := HDB.out; omega) (by have := HW0.out; have := HDB.out; omega)
        have I3 : Is w3 db 27 (Dv.cells ({ rd0 bs with hasPic := hasb (bt bs 1) 128, hasTl0 := hasb (bt bs 1) 64 } : Dv)) := by rw [← hwk]; exact I2.put 6 _
        clear hwk q6 f6
        clear c1
        have c1 := R3.at_ 1 x1
        have q8 := I3.cell 8
        have f8 := I3.free 8
        simp [Dv.cells] at q8
        go_upto_region 9 with (go_at_call 24; refine (has_is (bt bs 1) 32 _ rfl _ B1.out (by decide)).mono ?_; rintro e wy ⟨rfl, rfl⟩)
        generalize hwk : World.setCell w3 _ _ = w4
        have R4 : Rv w g o rb bs w4 := by rw [← hwk]; exact R3.put (db := db) 8 _ (by have := HW0.out; have := HDB.out; omega) (by have := HW0.out; have := HDB.out; omega)
        have I4 : Is w4 db 27 (Dv.cells ({ rd0 bs with hasPic := hasb (bt bs 1) 128, hasTl0 := hasb (bt bs 1) 64, hasTid := hasb (bt bs 1) 32 } : Dv)) := by rw [← hwk]; exact I3.put 8 _
        clear hwk q8 f8
        clear c1
        have c1 := R4.at_ 1 x1
        have q11 := I4.cell 11
        have f11 := I4.free 11
        simp [Dv.cells] at q11
        go_wp2_with (go_at_call 24; refine (has_is (bt bs 1) 16 _ rfl _ B1.out (by decide)).mono ?_; rintro e wy ⟨rfl, rfl⟩)
        go_meet
        have er : rd1 bs = { rd0 bs with hasPic := hasb (bt bs 1) 128, hasTl0 := hasb (bt bs 1) 64, hasTid := hasb (bt bs 1) 32, hasKey := hasb (bt bs 1) 16 } := by unfold rd1; rw [hx]; rfl
        rw [er]
        refine ⟨R4.put (db := db) 11 _ (by have := HW0.out; have := HDB.out; omega) (by have := HW0.out; have := HDB.out; omega), ?_⟩
        exact I4.put 11 (.bool (hasb (bt bs 1) 16))
    case rest =>
      obtain ⟨R1, I1⟩ := hcut
      generalize wc = w1 at *
      have hD : refD bs = rd5 bs (rd4 bs (rd3 bs (rd2 bs (rd1 bs)) (ri2 bs (rd1 bs))) (ri3 bs (rd1 bs))) (ri3 bs (rd1 bs)) := rfl
      generalize hd1 : rd1 bs = d1 at *
      have q3 := I1.cell 3
      simp [Dv.cells] at q3
      go_upto_if 59 with (fail)
      clear q3
      go_cut [7] (fun s7 wx => s7 = .int .i64 (ri2 bs d1 : Nat) ∧ Rv w g o rb bs wx ∧ Is wx db 27 (rd2 bs d1).cells)
      case first =>
        cases hp : d1.hasPic
        · go_wp2_with fail
          go_meet
          exact ⟨by unfold ri2; rw [hp]; rfl, R1, by rw [rd2_no _ _ hp]; exact I1⟩
        · have x2 : 2 < bs.length := k3 hp
          have er2 : ri2 bs d1 = if hasb (bt bs 2) 128 = true then 4 else 3 := by unfold ri2; rw [hp]; rfl
          have ed2 : rd2 bs d1 = (if hasb (bt bs 2) 128 then { d1 with long := true, pic := bt bs 2 % 128 * 256 + bt bs 3 } else { d1 with long := false, pic := bt bs 2 % 128 }) := by unfold rd2; rw [hp]; rfl
          have k4' := k4 hp
          have B3 := Lib.hid (BI.out 3)
          have ER2 := Lib.hid er2
          have ED2 := Lib.hid ed2
          clear er2 ed2
          have c2 := R1.at_ 2 x2
          have q4 := I1.cell 4
          have f4 := I1.free 4
          simp [Dv.cells] at q4
          go_upto_region 13 with (go_at_call 24; refine (has_is (bt bs 2) 128 _ rfl _ B2.out (by decide)).mono ?_; rintro e wy ⟨rfl, rfl⟩)
          generalize hwk : World.setCell w1 _ _ = w2
          have R2 : Rv w g o rb bs w2 := by rw [← hwk]; exact R1.put (db := db) 4 _ (by have := HW0.out; have := HDB.out; omega) (by have := HW0.out; have := HDB.out; omega)
          have I2 : Is w2 db 27 (Dv.cells ({ d1 with long := hasb (bt bs 2) 128 } : Dv)) := by rw [← hwk]; exact I1.put 4 _
          clear hwk q4 f4
          clear c2
          have y2 := B2.out
          have y3 := B3.out
          have c2 := R2.at_ 2 x2
          have q5 := I2.cell 5
          have f5 := I2.free 5
          simp [Dv.cells] at q5
          go_upto_region 14 with (fail)
          generalize hwk : World.setCell w2 _ _ = w3
          have R3 : Rv w g o rb bs w3 := by rw [← hwk]; exact R2.put (db := db) 5 _ (by have := HW0.out; have := HDB.out; omega) (by have := HW0.out; have := HDB.out; omega)
          have I3 : Is w3 db 27 (Dv.cells ({ d1 with long := hasb (bt bs 2) 128, pic := bt bs 2 % 128 } : Dv)) := by rw [← hwk]; exact I2.put 5 _
          clear hwk q5 f5
          have q4 := I3.cell 4
          simp [Dv.cells] at q4
          clear c2
          go_upto_if 76 with (fail)
          cases hl2 : hasb (bt bs 2) 128
          · rw [hl2] at I3
            go_wp2_with fail
            go_meet
            exact ⟨by rw [ER2.out, hl2]; rfl, R3, by rw [ED2.out, hl2]; exact I3⟩
          · rw [hl2] at I3
            have x3 : 3 < bs.length := k4' hl2
            have rd := ED2.out
            rw [hl2] at rd
            simp only [if_true] at rd
            have r4 := ER2.out
            rw [hl2] at r4
            simp only [if_true] at r4
            have c3 := R3.at_ 3 x3
            have RD := Lib.hid rd
            have R4 := Lib.hid r4
            clear rd r4 ER2 ED2
            have p1 : bt bs 2 % 128 < 128 := Nat.mod_lt _ (by decide)
            generalize bt bs 2 % 128 = p at *
            generalize hr : bt bs 3 = r at *
            have HR := Lib.hid hr
            clear hr
            have m1 : IntKind.u16.wrap ((p : Int) * 256) = (p : Int) * 256 := by rw [IntKind.wrap_u16]; omega
            have m2 : IntKind.u16.wrap ((p : Int) * 256 + (r : Int)) = (p : Int) * 256 + (r : Int) := by rw [IntKind.wrap_u16]; omega
            have m3 : IntKind.u16.wrap (r : Int) = (r : Int) := by rw [IntKind.wrap_u16]; omega
            clear c3 q4
            go_upto_region 16 with (fail)
            refine wp_region_posts [[], [0], [1, 0], [], [], [3, 4], [5, 3, 4], [6, 5, 3, 4], [2, 7, 1, 0, 6, 5, 3, 4], [0, 1, 2, 3, 4, 5, 6, 7, 8], [9, 8, 0, 1, 2, 3, 4, 5, 6, 7]] [10] [10] [[], [], [], [], [], [], [], [], [], [], []] [[], [], [], [], [], [], [], [], [], [], []] [10] [10] [] []
                [some ?vs0, some ?vs1, some ?vs2, some ?vs3, some ?vs4, some ?vs5, some ?vs6, some ?vs7, some ?vs8, some ?vs9, none]
                ?Ts (fun wx => Rv w g o rb bs wx ∧ Is wx db 27 (Dv.cells ({ d1 with long := true, pic := p } : Dv))) ?Ws ?Es (by kernel_rfl) (by kernel_rfl) (by kernel_rfl) (fun x => ?hTs) ?hFs ?hinis (Reg.all_ops ?runss) ?press ?fins
            case Ws => exact fun j x w' => match j with | 10 => Rv w g o rb bs w' ∧ Is w' db 27 (Dv.cells ({ d1 with long := true, pic := p * 256 + r } : Dv)) | _ => True
            case Es => exact fun _ _ _ => True
            case hTs =>
              simp only [Reg.fillV, Act.put, List.setIfInBounds_toArray, List.set_cons_zero, List.set_cons_succ]
              rfl
            case runss =>
              refine And.intro ?_ ?_
              · refine Reg.ob_pure (fun _ => rfl) rfl rfl rfl rfl (fun x w1 hF => ?_)
                obtain ⟨hR, hI⟩ := hF
                have x3' : (3 : Int) < (bs.length : Int) := by omega
                have q5 := hI.cell 5
                have c3 := hR.at_ 3 x3
                simp [Dv.cells] at q5
                rw [HR.out] at c3
                go_simp
                with_reducible rfl
              refine And.intro ?_ ?_
              · refine Reg.ob_pure (fun _ => rfl) rfl rfl rfl rfl (fun x w1 hF => ?_)
                obtain ⟨hR, hI⟩ := hF
                have x3' : (3 : Int) < (bs.length : Int) := by omega
                have q5 := hI.cell 5
                have c3 := hR.at_ 3 x3
                simp [Dv.cells] at q5
                rw [HR.out] at c3
                go_simp
                with_reducible rfl
              refine And.intro ?_ ?_
              · refine Reg.ob_pure (fun _ => rfl) rfl rfl rfl rfl (fun x w1 hF => ?_)
                obtain ⟨hR, hI⟩ := hF
                have x3' : (3 : Int) < (bs.length : Int) := by omega
                have q5 := hI.cell 5
                have c3 := hR.at_ 3 x3
                simp [Dv.cells] at q5
                rw [HR.out] at c3
                go_simp
                with_reducible rfl
              refine And.intro ?_ ?_
              · refine Reg.ob_pure (fun _ => rfl) rfl rfl rfl rfl (fun x w1 hF => ?_)
                obtain ⟨hR, hI⟩ := hF
                have x3' : (3 : Int) < (bs.length : Int) := by omega
                have q5 := hI.cell 5
                have c3 := hR.at_ 3 x3
                simp [Dv.cells] at q5
                rw [HR.out] at c3
                go_simp
                with_reducible rfl
              refine And.intro ?_ ?_
              · refine Reg.ob_pure (fun _ => rfl) rfl rfl rfl rfl (fun x w1 hF => ?_)
                obtain ⟨hR, hI⟩ := hF
                have x3' : (3 : Int) < (bs.length : Int) := by omega
                have q5 := hI.cell 5
                have c3 := hR.at_ 3 x3
                simp [Dv.cells] at q5
                rw [HR.out] at c3
                go_simp
                with_reducible rfl
              refine And.intro ?_ ?_
              · refine Reg.ob_pure (fun _ => rfl) rfl rfl rfl rfl (fun x w1 hF => ?_)
                obtain ⟨hR, hI⟩ := hF
                have x3' : (3 : Int) < (bs.length : Int) := by omega
                have q5 := hI.cell 5
                have c3 := hR.at_ 3 x3
                simp [Dv.cells] at q5
                rw [HR.out] at c3
                go_simp
                with_reducible rfl
              refine And.intro ?_ ?_
              · refine Reg.ob_pure (fun _ => rfl) rfl rfl rfl rfl (fun x w1 hF => ?_)
                obtain ⟨hR, hI⟩ := hF
                have x3' : (3 : Int) < (bs.length : Int) := by omega
                have q5 := hI.cell 5
                have c3 := hR.at_ 3 x3
                simp [Dv.cells] at q5
                rw [HR.out] at c3
                go_simp
                with_reducible rfl
              refine And.intro ?_ ?_
              · refine Reg.ob_pure (fun _ => rfl) rfl rfl rfl rfl (fun x w1 hF => ?_)
                obtain ⟨hR, hI⟩ := hF
                have x3' : (3 : Int) < (bs.length : Int) := by omega
                have q5 := hI.cell 5
                have c3 := hR.at_ 3 x3
                simp [Dv.cells] at q5
                rw [HR.out] at c3
                go_simp
                with_reducible rfl
              refine And.intro ?_ ?_
              · refine Reg.ob_pure (fun _ => rfl) rfl rfl rfl rfl (fun x w1 hF => ?_)
                obtain ⟨hR, hI⟩ := hF
                have x3' : (3 : Int) < (bs.length : Int) := by omega
                have q5 := hI.cell 5
                have c3 := hR.at_ 3 x3
                simp [Dv.cells] at q5
                rw [HR.out] at c3
                go_simp
                with_reducible rfl
              refine And.intro ?_ ?_
              · refine Reg.ob_pure (fun _ => rfl) rfl rfl rfl rfl (fun x w1 hF => ?_)
                obtain ⟨hR, hI⟩ := hF
                have x3' : (3 : Int) < (bs.length : Int) := by omega
                have q5 := hI.cell 5
                have c3 := hR.at_ 3 x3
                simp [Dv.cells] at q5
                rw [HR.out] at c3
                go_simp
                with_reducible rfl
              refine And.intro ?_ ?_
              · refine Reg.ob_some (fun _ => rfl) rfl (fun x w1 hF hU K hK => ?_)
                obtain ⟨hR, hI⟩ := hF rfl
                have q5 := hI.cell 5
                have f5 := hI.free 5
                simp [Dv.cells] at q5
                go_simp
                exact hK undef _ (fun _ hk _ => absurd hk (by decide)) trivial ⟨hR.put (db := db) 5 _ (by have := HW0.out; have := HDB.out; omega) (by have := HW0.out; have := HDB.out; omega), hI.put 5 _⟩
              exact trivial
            case hFs =>
              exact ⟨R3.drew, I3⟩
            case hinis =>
              exact trivial
            case press =>
              intro i hi j hj hc x w1 w2 hF hE hW
              exfalso
              revert hc
              simp only [List.mem_cons, List.mem_nil_iff, or_false] at hi hj
              rcases hi with rfl <;> rcases hj with rfl <;> decide
            case fins =>
              rintro x wz hF ⟨⟨hR, hI⟩, -⟩
              replace hR : Rv w g o rb bs wz := hR
              replace hI : Is wz db 27 (Dv.cells ({ d1 with long := true, pic := p * 256 + r } : Dv)) := hI
              go_wp2_with fail
              go_meet
              exact ⟨by rw [R4.out]; rfl, hR, by rw [RD.out]; exact hI⟩
      case rest =>
        obtain ⟨rfl, R1, I1⟩ := hcut
        generalize wc = w1 at *
        obtain ⟨g7, g9, g12⟩ := rd2_flags bs d1
        have e3 : ri3 bs d1 = ri2 bs d1 + (if d1.hasTl0 then 1 else 0) := rfl
        have i2l : ri2 bs d1 ≤ 4 := by unfold ri2; split <;> (try split) <;> omega
        generalize rd2 bs d1 = d2 at *
        generalize ri2 bs d1 = i2 at *
        have q6 := I1.cell 6
        simp only [Dv.cells] at q6
        rw [g7] at q6
        replace q6 : w1.cell? ⟨db, 6, none⟩ = some (.bool d1.hasTl0) := q6
        go_upto_if 90 with (fail)
        clear q6
        go_cut [7] (fun s7 wx => s7 = .int .i64 (ri3 bs d1 : Nat) ∧ Rv w g o rb bs wx ∧ Is wx db 27 (rd3 bs d2 i2).cells)
        case first =>
          cases ht : d1.hasTl0
          · go_wp2_with fail
            go_meet
            exact ⟨by rw [e3, ht]; rfl, R1, by rw [rd3_no _ _ _ (g7.trans ht)]; exact I1⟩
          · have xi : i2 < bs.length := kt ht
            have xi' : (i2 : Int) < (bs.length : Int) := by omega
            have bi := BI.out i2
            have a1 : IntKind.i64.wrap ((i2 : Int) + 1) = (i2 : Int) + 1 := IntWalk.i64_in _ (by omega)
            rw [ht] at e3
            have E3 := Lib.hid e3
            have ed3 : rd3 bs d2 i2 = { d2 with tl0 := bt bs i2 } := by unfold rd3; rw [g7, ht]; rfl
            have ED3 := Lib.hid ed3
            clear ed3 e3
            have ci := R1.at_ i2 xi
            have q7 := I1.cell 7
            have f7 := I1.free 7
            simp [Dv.cells] at q7
            go_upto_region 20 with (fail)
            generalize hwk : World.setCell w1 _ _ = w2
            have R2 : Rv w g o rb bs w2 := by rw [← hwk]; exact R1.put (db := db) 7 _ (by have := HW0.out; have := HDB.out; omega) (by have := HW0.out; have := HDB.out; omega)
            have I2 : Is w2 db 27 (Dv.cells ({ d2 with tl0 := bt bs i2 } : Dv)) := by rw [← hwk]; exact I1.put 7 _
            clear hwk q7 f7
            clear ci
            go_wp2_with fail
            go_meet
            exact ⟨by rw [E3.out]; rfl, R2, by rw [ED3.out]; exact I2⟩
        case rest =>
          obtain ⟨rfl, R1, I1⟩ := hcut
          generalize wc = w1 at *
          obtain ⟨m9, m12⟩ := rd3_flags bs d2 i2
          rw [g9] at m9
          rw [g12] at m12
          have i3l : ri3 bs d1 ≤ 5 := by rw [e3]; split <;> omega
          generalize rd3 bs d2 i2 = d3 at *
          generalize ri3 bs d1 = i3 at *
          have q8 := I1.cell 8
          simp only [Dv.cells] at q8
          rw [m9] at q8
          replace q8 : w1.cell? ⟨db, 8, none⟩ = some (.bool d1.hasTid) := q8
          go_upto_if 99 with (fail)
          clear q8
          go_cut [] (fun wx => Rv w g o rb bs wx ∧ Is wx db 27 (rd4 bs d3 i3).cells)
          case first =>
            cases ht : d1.hasTid
            · go_wp2_with fail
              go_meet
              exact ⟨R1, by rw [rd4_no _ _ _ (m9.trans ht)]; exact I1⟩
            · have xi : i3 < bs.length := kk (.inl ht)
              have xi' : (i3 : Int) < (bs.length : Int) := by omega
              have bi := BI.out i3
              have BB := Lib.hid bi
              have ed4 : rd4 bs d3 i3 = { d3 with tid := bt bs i3 / 64, sync := hasb (bt bs i3) 32 } := by unfold rd4; rw [m9, ht]; rfl
              have ED4 := Lib.hid ed4
              clear ed4 e3
              have ci := R1.at_ i3 xi
              have q9 := I1.cell 9
              have f9 := I1.free 9
              simp [Dv.cells] at q9
              go_upto_region 23 with (fail)
              generalize hwk : World.setCell w1 _ _ = w2
              have R2 : Rv w g o rb bs w2 := by rw [← hwk]; exact R1.put (db := db) 9 _ (by have := HW0.out; have := HDB.out; omega) (by have := HW0.out; have := HDB.out; omega)
              have I2 : Is w2 db 27 (Dv.cells ({ d3 with tid := bt bs i3 / 64 } : Dv)) := by rw [← hwk]; exact I1.put 9 _
              clear hwk q9 f9
              clear ci
              have ci := R2.at_ i3 xi
              have q10 := I2.cell 10
              have f10 := I2.free 10
              simp [Dv.cells] at q10
              go_wp2_with (go_at_call 24; refine (has_is (bt bs i3) 32 _ rfl _ BB.out (by decide)).mono ?_; rintro e wy ⟨rfl, rfl⟩)
              go_meet
              rw [ED4.out]
              exact ⟨R2.put (db := db) 10 _ (by have := HW0.out; have := HDB.out; omega) (by have := HW0.out; have := HDB.out; omega), I2.put 10 _⟩
          case rest =>
            obtain ⟨R1, I1⟩ := hcut
            generalize wc = w1 at *
            have h12 := rd4_flags bs d3 i3
            rw [m12] at h12
            generalize rd4 bs d3 i3 = d4 at *
            have q11 := I1.cell 11
            simp only [Dv.cells] at q11
            rw [h12] at q11
            replace q11 : w1.cell? ⟨db, 11, none⟩ = some (.bool d1.hasKey) := q11
            go_upto_if 113 with (fail)
            clear q11
            go_cut [] (fun wx => Rv w g o rb bs wx ∧ Is wx db 27 (refD bs).cells)
            case first =>
              cases ht : d1.hasKey
              · go_wp2_with fail
                go_meet
                exact ⟨R1, by rw [hD, rd5_no _ _ _ (h12.trans ht)]; exact I1⟩
              · have xi : i3 < bs.length := kk (.inr ht)
                have xi' : (i3 : Int) < (bs.length : Int) := by omega
                have bi := BI.out i3
                have ed5 : rd5 bs d4 i3 = { d4 with key := bt bs i3 % 32 } := by unfold rd5; rw [h12, ht]; rfl
                have ED5 := Lib.hid (hD.trans ed5)
                clear ed5 e3 hD
                have ci := R1.at_ i3 xi
                have q12 := I1.cell 12
                have f12 := I1.free 12
                simp [Dv.cells] at q12
                go_wp2_with fail
                go_meet
                rw [ED5.out]
                exact ⟨R1.put (db := db) 12 _ (by have := HW0.out; have := HDB.out; omega) (by have := HW0.out; have := HDB.out; omega), I1.put 12 _⟩
            case rest =>
              obtain ⟨R1, I1⟩ := hcut
              generalize wc = w1 at *
              clear hD kt kk k3 k4 g7 g9 g12 m9 m12 e3
              generalize hrf : refD bs = rf at *
              have HRF := Lib.hid hrf
              clear hrf
              have HBS := Lib.hid (fun wx (h : Rv w g o rb bs wx) => show ∀ j (hj : j < bs.length), wx.cell? ⟨g, o + j, none⟩ = some (.int .u8 (bs[j] : Int)) from fun j hj => by rw [h.at_ j hj, bt_get hj])
              have HNL := Lib.hid hn
              have HBL := Lib.hid hl
              generalize hnn : needN bs = n at *
              have HNN := Lib.hid hnn
              clear hnn
              obtain ⟨L, hL⟩ : ∃ L, bs.length = L := ⟨_, rfl⟩
              have HLL := Lib.hid hL
              rw [hL] at hn hlc hl
              go_upto_region 27 with (fail)
              rw [hL]
              have hcc : c = n ∨ ¬ c = n := Classical.em _
              rcases hcc with hcn | hcn
              · subst hcn
                obtain rfl : L = c := by omega
                have a2 : L ≤ L := Nat.le_refl _
                have a4 : IntKind.i64.wrap (L : Int) = L := IntWalk.i64_in _ (by omega)
                refine wp_region_posts [[], [], [], [], [2, 3], [1, 4, 2, 3], [0, 5, 1, 4, 2, 3], [5, 6, 0, 1, 2, 3, 4], [7, 0, 1, 2, 3, 4, 5, 6]] [5, 6] [5, 6, 7] [[], [], [], [], [], [], [], [], []] [[], [], [], [], [], [], [], [], []] [5, 6, 7] [6] [7, 8] []
                    [some (.agg rf.cells), some ?vu1, some ?vu2, some ?vu3, some ?vu4, none, none, none, some ?vu8]
                    ?Tu (fun wx => Rv w g o rb bs wx ∧ Is wx db 27 rf.cells) ?Wu ?Eu (by kernel_rfl) (by kernel_rfl) (by kernel_rfl) (fun x => ?hTu) ?hFu ?hiniu (Reg.all_ops ?runsu) ?presu ?finu
                case Wu => exact fun j x w' => match j with | 5 => w'.ownsRow w.heap.size 5 1 (x 5) (bs.drop L).length (cellsOf (bs.drop L)) | 6 => Is w' rb 27 rf.cells ∧ Only (fun _ => False) w w' | 7 => x 7 = x 5 | _ => True
                case Eu => exact fun i w' w'' => match i with | 6 => Only (fun k => k = rb) w' w'' | _ => Only (fun _ => False) w' w''
                case hTu =>
                  simp only [Reg.fillV, Act.put, List.setIfInBounds_toArray, List.set_cons_zero, List.set_cons_succ]
                  rfl
                case runsu =>
                  refine And.intro ?_ ?_
                  · refine Reg.ob_pure (fun _ => rfl) rfl rfl rfl rfl (fun x w1 hF => ?_)
                    exact run_load_is 27 _ (by rfl) db (by rfl) 27 _ _ hF.2 Try.underlying27 rfl Try.sizeRef
                  refine And.intro ?_ ?_
                  · refine Reg.ob_pure (fun _ => rfl) rfl rfl rfl rfl (fun x w1 hF => ?_)
                    go_simp
                    with_reducible rfl
                  refine And.intro ?_ ?_
                  · refine Reg.ob_pure (fun _ => rfl) rfl rfl rfl rfl (fun x w1 hF => ?_)
                    go_simp
                    with_reducible rfl
                  refine And.intro ?_ ?_
                  · refine Reg.ob_pure (fun _ => rfl) rfl rfl rfl rfl (fun x w1 hF => ?_)
                    go_simp
                    with_reducible rfl
                  refine And.intro ?_ ?_
                  · refine Reg.ob_pure (fun _ => rfl) rfl rfl rfl rfl (fun x w1 hF => ?_)
                    go_simp
                    with_reducible rfl
                  refine And.intro ?_ ?_
                  · refine Reg.ob_some (fun _ => rfl) rfl (fun x w1 hF hU K hK => ?_)
                    obtain ⟨hR, hI⟩ := hF rfl
                    refine wp_append_src w1 _ _ rfl w.heap.size (.slice none 0 0) [] rfl (World.ownsRow_nil _ _ _ _) _ (bs.drop L) rfl (src_nil rfl (by omega) (List.drop_eq_nil_of_le (by rw [HLL.out]; omega))) (by rw [List.length_drop, HLL.out]; show 0 + (_ - _) ≤ _; omega) hR.pure.size ?_
                    intro v' w' hown hg
                    have ho : Only (fun _ => False) w1 w' := (Only.refl _ w1).grown hg (fun i hi _ => by simp [Value.ownBlock] at hi)
                    exact hK v' w' (fun _ _ _ => ⟨hR.go ho, hI.only ho (by simp)⟩) ho (by rw [show ([] : List Nat).length + (bs.drop L).length = (bs.drop L).length from Nat.zero_add _] at hown; exact hown)
                  refine And.intro ?_ ?_
                  · refine Reg.ob_some (fun _ => rfl) rfl (fun x w1 hF hU K hK => ?_)
                    obtain ⟨hR, hI⟩ := hF rfl
                    refine wp_store_row 27 _ _ rfl rb rf.cells rfl rfl 27 Dv.zero.cells hR.ans Try.sizeRef rfl (Dv.one _) ?_
                    have ho : Only (fun k => k = rb) w1 (w1.setRow rb rf.cells) := Only.setRow (S := fun k => k = rb) (Only.refl _ w1) (fun _ => rfl) _
                    exact hK undef _ (fun _ hk _ => absurd hk (by decide)) ho ⟨hR.ans.setRow _, hR.pure.trans ho (fun i hi e => by have := HW0.out; omega)⟩
                  refine And.intro ?_ ?_
                  · refine Reg.ob_some (fun _ => rfl) rfl (fun x w1 hF hU K hK => ?_)
                    go_simp
                    exact hK _ _ (fun h => by cases h) rfl rfl
                  refine And.intro ?_ ?_
                  · refine Reg.ob_bare (fun _ => rfl) rfl rfl rfl (fun x w1 => ?_)
                    go_simp
                    with_reducible rfl
                  exact trivial
                case hFu =>
                  exact ⟨R1.drew, I1⟩
                case hiniu =>
                  exact trivial
                case presu =>
                  intro i hi j hj hc x w1 w2 hF hE hW
                  simp only [List.mem_cons, List.mem_nil_iff, or_false] at hi hj
                  rcases hi with rfl | rfl <;> rcases hj with rfl | rfl | rfl
                  all_goals first
                    | (exfalso; revert hc; decide)
                    | (replace hE : Only (fun k => k = rb) w1 w2 := hE
                       obtain ⟨hR, -⟩ := hF rfl
                       replace hW : w1.ownsRow w.heap.size 5 1 (x 5) (bs.drop L).length (cellsOf (bs.drop L)) := hW
                       exact own_only hW hE (fun k hk e => row_apart hR.ans hW (by decide) (by rw [hk, e])))
                case finu =>
                  rintro x wz - ⟨h5, h6, h7, -⟩
                  replace h5 : wz.ownsRow w.heap.size 5 1 (x 5) (bs.drop L).length (cellsOf (bs.drop L)) := h5
                  replace h7 : x 7 = x 5 := h7
                  obtain ⟨h6, h8⟩ : Is wz rb 27 rf.cells ∧ Only (fun _ => False) w wz := h6
                  go_wp2
                  exact bodyPost_ret (results_three Try.results9 _ wz rb 27 rf.cells _ (x 5) (.int .i64 0) rfl h7 rfl h6 Try.underlying27 rfl Try.sizeRef) rfl ⟨x 5, by rw [HRF.out], by rw [HNN.out]; exact h5, h8⟩
              · have a1 : c ≠ n := hcn
                have a2 : n ≤ L := hn
                have a3 : n ≤ c := by omega
                have a4 : IntKind.i64.wrap (n : Int) = n := IntWalk.i64_in _ (by omega)
                refine wp_region_posts [[], [], [], [], [2, 3], [1, 4, 2, 3], [0, 5, 1, 4, 2, 3], [5, 6, 0, 1, 2, 3, 4], [7, 0, 1, 2, 3, 4, 5, 6]] [5, 6] [5, 6, 7] [[], [], [], [], [], [], [], [], []] [[], [], [], [], [], [], [], [], []] [5, 6, 7] [6] [7, 8] []
                    [some (.agg rf.cells), some ?vw1, some ?vw2, some ?vw3, some ?vw4, none, none, none, some ?vw8]
                    ?Tw (fun wx => Rv w g o rb bs wx ∧ Is wx db 27 rf.cells) ?Ww ?Ew (by kernel_rfl) (by kernel_rfl) (by kernel_rfl) (fun x => ?hTw) ?hFw ?hiniw (Reg.all_ops ?runsw) ?presw ?finw
                case Ww => exact fun j x w' => match j with | 5 => w'.ownsRow w.heap.size 5 1 (x 5) (bs.drop n).length (cellsOf (bs.drop n)) | 6 => Is w' rb 27 rf.cells ∧ Only (fun _ => False) w w' | 7 => x 7 = x 5 | _ => True
                case Ew => exact fun i w' w'' => match i with | 6 => Only (fun k => k = rb) w' w'' | _ => Only (fun _ => False) w' w''
                case hTw =>
                  simp only [Reg.fillV, Act.put, List.setIfInBounds_toArray, List.set_cons_zero, List.set_cons_succ]
                  rfl
                case runsw =>
                  refine And.intro ?_ ?_
                  · refine Reg.ob_pure (fun _ => rfl) rfl rfl rfl rfl (fun x w1 hF => ?_)
                    exact run_load_is 27 _ (by rfl) db (by rfl) 27 _ _ hF.2 Try.underlying27 rfl Try.sizeRef
                  refine And.intro ?_ ?_
                  · refine Reg.ob_pure (fun _ => rfl) rfl rfl rfl rfl (fun x w1 hF => ?_)
                    go_simp
                    with_reducible rfl
                  refine And.intro ?_ ?_
                  · refine Reg.ob_pure (fun _ => rfl) rfl rfl rfl rfl (fun x w1 hF => ?_)
                    go_simp
                    with_reducible rfl
                  refine And.intro ?_ ?_
                  · refine Reg.ob_pure (fun _ => rfl) rfl rfl rfl rfl (fun x w1 hF => ?_)
                    go_simp
                    with_reducible rfl
                  refine And.intro ?_ ?_
                  · refine Reg.ob_pure (fun _ => rfl) rfl rfl rfl rfl (fun x w1 hF => ?_)
                    go_simp
                    with_reducible rfl
                  refine And.intro ?_ ?_
                  · refine Reg.ob_some (fun _ => rfl) rfl (fun x w1 hF hU K hK => ?_)
                    obtain ⟨hR, hI⟩ := hF rfl
                    refine wp_append_src w1 _ _ rfl w.heap.size (.slice none 0 0) [] rfl (World.ownsRow_nil _ _ _ _) _ (bs.drop n) rfl (src_drop n (HBS.out _ hR) (by rw [HLL.out]; omega) (by rw [HLL.out]) (by rw [HLL.out]; omega)) (by rw [List.length_drop, HLL.out]; show 0 + (_ - _) ≤ _; omega) hR.pure.size ?_
                    intro v' w' hown hg
                    have ho : Only (fun _ => False) w1 w' := (Only.refl _ w1).grown hg (fun i hi _ => by simp [Value.ownBlock] at hi)
                    exact hK v' w' (fun _ _ _ => ⟨hR.go ho, hI.only ho (by simp)⟩) ho (by rw [show ([] : List Nat).length + (bs.drop n).length = (bs.drop n).length from Nat.zero_add _] at hown; exact hown)
                  refine And.intro ?_ ?_
                  · refine Reg.ob_some (fun _ => rfl) rfl (fun x w1 hF hU K hK => ?_)
                    obtain ⟨hR, hI⟩ := hF rfl
                    refine wp_store_row 27 _ _ rfl rb rf.cells rfl rfl 27 Dv.zero.cells hR.ans Try.sizeRef rfl (Dv.one _) ?_
                    have ho : Only (fun k => k = rb) w1 (w1.setRow rb rf.cells) := Only.setRow (S := fun k => k = rb) (Only.refl _ w1) (fun _ => rfl) _
                    exact hK undef _ (fun _ hk _ => absurd hk (by decide)) ho ⟨hR.ans.setRow _, hR.pure.trans ho (fun i hi e => by have := HW0.out; omega)⟩
                  refine And.intro ?_ ?_
                  · refine Reg.ob_some (fun _ => rfl) rfl (fun x w1 hF hU K hK => ?_)
                    go_simp
                    exact hK _ _ (fun h => by cases h) rfl rfl
                  refine And.intro ?_ ?_
                  · refine Reg.ob_bare (fun _ => rfl) rfl rfl rfl (fun x w1 => ?_)
                    go_simp
                    with_reducible rfl
                  exact trivial
                case hFw =>
                  exact ⟨R1.drew, I1⟩
                case hiniw =>
                  exact trivial
                case presw =>
                  intro i hi j hj hc x w1 w2 hF hE hW
                  simp only [List.mem_cons, List.mem_nil_iff, or_false] at hi hj
                  rcases hi with rfl | rfl <;> rcases hj with rfl | rfl | rfl
                  all_goals first
                    | (exfalso; revert hc; decide)
                    | (replace hE : Only (fun k => k = rb) w1 w2 := hE
                       obtain ⟨hR, -⟩ := hF rfl
                       replace hW : w1.ownsRow w.heap.size 5 1 (x 5) (bs.drop n).length (cellsOf (bs.drop n)) := hW
                       exact own_only hW hE (fun k hk e => row_apart hR.ans hW (by decide) (by rw [hk, e])))
                case finw =>
                  rintro x wz - ⟨h5, h6, h7, -⟩
                  replace h5 : wz.ownsRow w.heap.size 5 1 (x 5) (bs.drop n).length (cellsOf (bs.drop n)) := h5
                  replace h7 : x 7 = x 5 := h7
                  obtain ⟨h6, h8⟩ : Is wz rb 27 rf.cells ∧ Only (fun _ => False) w wz := h6
                  go_wp2
                  exact bodyPost_ret (results_three Try.results9 _ wz rb 27 rf.cells _ (x 5) (.int .i64 0) rfl h7 rfl h6 Try.underlying27 rfl Try.sizeRef) rfl ⟨x 5, by rw [HRF.out], by rw [HNN.out]; exact h5, h8⟩
end Go.Proofs.Ytneogagainllnaa
