/- mark: Put, parseFirst, Parse. Conditions: as each says. -/
import Derived.Test.YtcgfmjdlningpaaMkA
import Derived.Laws.OwnMore
set_option linter.unusedVariables false
namespace Go.Proofs.Ytcgfmjdlningpaa
open Go.RowKit

/-- Bytes are answered in new memory, with a number. -/
def PutB (r : Nat) (out : List Nat) (w : World) (e : Ending) (w' : World) : Prop :=
  ∃ v, e = .returned (.tuple #[v, .int .i64 (r : Nat)]) ∧ w'.ownsRow w.heap.size 5 1 v out.length (cellsOf out) ∧ Only (fun _ => False) w w'
def Mk.bad (m : Mk) : Nat := if m.right then 0 else 40
def Mk.out (m : Mk) : List Nat := if m.right then m.enc else []
theorem own_lit (w : World) (bs : List Nat) (B : Nat) (hB : B ≤ w.heap.size) (hl : bs.length ≤ 1000000) : (w.alloc (.cells (cellsOf bs).toArray 5)).ownsRow B 5 1 (.slice (some ⟨w.heap.size, 0, none⟩) bs.length bs.length) bs.length (cellsOf bs) := by
  have h := World.ownsRow_lit (base := B) (e := 5) (size := 1) w (cellsOf bs).toArray bs.length hB (by unfold maxLen; omega) (by simp [length_cellsOf])
  simpa using h

set_option maxRecDepth 100000 in
set_option maxHeartbeats 1000000 in
theorem mk_put (m : Mk) (w : World) : Calls Try.prog 40 #[.agg m.cells] w (PutB m.bad m.out w) := by
  have HR := Lib.hid (fun w => mk_right m w)
  have I0 := Lib.hid (Is.made w 69 m.cells)
  have P0 := Lib.hid (show Only (fun _ => False) w (w.alloc (.cells m.cells 69)) from (Only.refl _ w).alloc _)
  cases hr : m.right
  · rw [hr] at HR
    have e1 : m.bad = 40 := by unfold Mk.bad; rw [hr]; rfl
    have e2 : m.out = [] := by unfold Mk.out; rw [hr]; rfl
    rw [e1, e2]
    clear hr e1 e2
    go_enter Try.func40, Try.ntmps40
    go_upto_region 1 with (fail)
    generalize (w.alloc (.cells m.cells 69)) = w0 at *
    go_wp2_with (first
      | (refine wpList_load_want rfl _ _ rfl w.heap.size rfl _ _ _ I0.out Try.underlying69 rfl Try.sizeMk ?_)
      | (go_at_call 41; refine (HR.out _).mono ?_; rintro e w1 ⟨rfl, ho1⟩; have O1 := Lib.hid (only_more P0.out ho1); clear ho1))
    go_ret2
    exact ⟨_, rfl, World.ownsRow_nil _ _ _ _, O1.out⟩
  · rw [hr] at HR
    have e1 : m.bad = 0 := by unfold Mk.bad; rw [hr]; rfl
    have e2 : m.out = m.enc := by unfold Mk.out; rw [hr]; rfl
    have h7 : m.tid ≤ 7 := by
      unfold Mk.right at hr
      simp at hr
      exact hr.1
    rw [e1, e2]
    have HFB := Lib.hid (fun w => mk_first m w h7)
    have HENC := Lib.hid (show m.enc = if m.lg then [m.first, m.lid, m.tl] else [m.first] from rfl)
    clear hr e1 e2 h7
    generalize m.first = fr at *
    go_enter Try.func40, Try.ntmps40
    go_upto_region 1 with (fail)
    generalize (w.alloc (.cells m.cells 69)) = w0 at *
    obtain ⟨mb, hmb⟩ : ∃ k, w.heap.size = k := ⟨_, rfl⟩
    have HMB := Lib.hid hmb
    rw [hmb] at I0 ⊢
    clear hmb
    go_upto_region 4 with (first
      | (refine wpList_load_want (o := ⟨some 5, _, _, _, _, _⟩) rfl _ _ rfl mb rfl _ _ _ I0.out Try.underlying69 rfl Try.sizeMk ?_)
      | (go_at_call 41; refine (HR.out _).mono ?_; rintro e w1 ⟨rfl, ho1⟩; have O1 := Lib.hid ho1; clear ho1)
      | (refine wpList_load_want (o := ⟨some 8, _, _, _, _, _⟩) rfl _ _ rfl mb rfl _ _ _ (I0.out.only O1.out (by simp)) Try.underlying69 rfl Try.sizeMk ?_)
      | (go_at_call 76; refine (HFB.out _).mono ?_; rintro e w2 ⟨rfl, ho2⟩; have O2 := Lib.hid ho2; clear ho2))
    have AC := Lib.hid (show Acc w (.slice (some ⟨w2.heap.size, 0, none⟩) 1 1) [fr] (w2.alloc (.cells #[.int .u8 (fr : Nat)] 5)) from
      ⟨own_lit w2 [fr] w.heap.size (Nat.le_trans P0.out.size (Nat.le_trans O1.out.size O2.out.size)) (by simp), (only_more P0.out (only_more O1.out O2.out)).alloc _⟩)
    have I3 := Lib.hid (((I0.out.only (only_more O1.out O2.out) (by simp)) : Is w2 mb _ _).alloc (.cells #[.int .u8 (fr : Nat)] 5))
    generalize (w2.alloc (.cells #[.int .u8 (fr : Nat)] 5)) = w3 at *
    obtain ⟨ob, hob⟩ : ∃ k, w2.heap.size = k := ⟨_, rfl⟩
    rw [hob] at AC ⊢
    clear hob
    have c4 := I3.out.cell 4
    have c7 := I3.out.cell 7
    have c8 := I3.out.cell 8
    simp [Mk.cells] at c4 c7 c8
    cases hl : m.lg
    · rw [hl] at c4 HENC
      clear hl
      go_wp2
      go_ret2
      refine ⟨_, rfl, ?_, AC.out.pure⟩
      rw [HENC.out]
      exact AC.out.own
    · rw [hl] at c4 HENC
      clear hl
      go_wp2_with (at_builtin; refine wpList_acc_lit rfl _ _ rfl AC.out rfl [m.lid, m.tl] rfl (by simp) ?_; intro v4 w4 hacc4 hg4)
      go_ret2
      refine ⟨_, rfl, ?_, hacc4.pure⟩
      rw [HENC.out]
      exact hacc4.own

theorem mk_hasb (b : Nat) (h : b < 256) : (bits .and .u8 (b : Int) 128 != 0) = hasb b 128 ∧ (bits .and .u8 (b : Int) 64 != 0) = hasb b 64 ∧ (bits .and .u8 (b : Int) 32 != 0) = hasb b 32 ∧ (bits .and .u8 (b : Int) 16 != 0) = hasb b 16 ∧ (bits .and .u8 (b : Int) 8 != 0) = hasb b 8 ∧ bits .and .u8 (b : Int) 7 = ((b % 8 : Nat) : Int) := by
  have : ∀ i : Fin 256, (bits .and .u8 ((i.val : Nat) : Int) 128 != 0) = hasb i.val 128 ∧ (bits .and .u8 ((i.val : Nat) : Int) 64 != 0) = hasb i.val 64 ∧ (bits .and .u8 ((i.val : Nat) : Int) 32 != 0) = hasb i.val 32 ∧ (bits .and .u8 ((i.val : Nat) : Int) 16 != 0) = hasb i.val 16 ∧ (bits .and .u8 ((i.val : Nat) : Int) 8 != 0) = hasb i.val 8 ∧ bits .and .u8 ((i.val : Nat) : Int) 7 = ((i.val % 8 : Nat) : Int) := by decide +kernel
  exact this ⟨b, h⟩
set_option maxRecDepth 100000 in
set_option maxHeartbeats 400000 in
theorem pf_has (b : Nat) (flag : Int) (r : Bool) (g : Nat) (w : World) (h : Is w g 5 #[.int .u8 (b : Nat)]) (hr : (bits .and .u8 (b : Int) flag != 0) = r) :
    Calls Try.prog 95 #[.int .u8 flag, ptr g] w fun e w' => e = .returned (.bool r) ∧ w = w' := by
  have c0 := h.cell 0
  simp at c0
  clear h
  go_enter Try.func95, Try.ntmps95
  go_wp2
  go_ret
  exact ⟨rfl, rfl⟩

set_option maxRecDepth 100000 in
set_option maxHeartbeats 2000000 in
theorem mk_pfirst (b : Nat) (w : World) (hb : b < 256) : Calls Try.prog 78 #[.int .u8 (b : Nat)] w fun e w' => e = .returned (.agg (mkFirst b).cells) ∧ Only (fun _ => False) w w' := by
  obtain ⟨h1, h2, h3, h4, h5, h6⟩ := mk_hasb b hb
  have H1 := Lib.hid h1
  have H2 := Lib.hid h2
  have H3 := Lib.hid h3
  have H4 := Lib.hid h4
  have H5 := Lib.hid h5
  have H6 := Lib.hid h6
  have HV := Lib.hid (Mk.one (mkFirst b))
  clear h1 h2 h3 h4 h5 h6
  go_enter Try.func78, Try.ntmps78
  go_upto_region 2 with (fail)
  generalize hw0 : World.alloc (World.alloc _ _) _ = w0
  have HI := Lib.hid (show Is w0 w.heap.size 5 #[.int .u8 (b : Nat)] from by rw [← hw0]; exact (Is.made w _ _).alloc _)
  have HO := Lib.hid (show Is w0 (w.heap.size + 1) 69 Mk.zero.cells from by rw [← hw0]; have := Is.made (w.alloc (.cells #[.int .u8 (b : Nat)] 5)) 69 Mk.zero.cells; rw [World.size_alloc] at this; exact this)
  have P0 := Lib.hid (show Only (fun _ => False) w w0 from by rw [← hw0]; exact ((Only.refl _ w).alloc _).alloc _)
  obtain ⟨bb, hbb⟩ : ∃ k, w.heap.size = k := ⟨_, rfl⟩
  obtain ⟨rb, hrb⟩ : ∃ k, w.heap.size + 1 = k := ⟨_, rfl⟩
  have HRB := Lib.hid (show w.heap.size ≤ rb from by omega)
  rw [hrb] at HO ⊢
  rw [hbb] at HI ⊢
  clear hw0 hbb hrb
  refine wp_region_posts [[], [0], [], [2, 1, 0], [], [4, 3, 2, 1, 0], [], [6, 5, 4, 3, 2, 1, 0], [], [8, 7, 6, 5, 4, 3, 2, 1, 0], [], [10], [1, 3, 5, 7, 9, 11, 0, 2, 4, 6, 8, 10], [12, 9, 0, 1, 2, 3, 4, 5, 6, 7, 8, 10, 11]] [1, 3, 5, 7, 9, 13] [13] [[], [], [], [], [], [], [], [], [], [], [], [], [], []] [[], [], [], [], [], [], [], [], [], [], [], [], [], []] [13] [] [] []
      [some ?v0, some (.bool (hasb b 128)), some ?v2, some (.bool (hasb b 64)), some ?v4, some (.bool (hasb b 32)), some ?v6, some (.bool (hasb b 16)), some ?v8, some (.bool (hasb b 8)), some ?v10, some (.int .u8 ((b % 8 : Nat) : Int)), some (.agg (mkFirst b).cells), none]
      ?T (fun wx => Is wx bb 5 #[.int .u8 (b : Nat)] ∧ (∃ cs, Is wx rb 69 cs ∧ cs.size = 9) ∧ Only (fun k => k = rb) w0 wx) ?W ?E (by kernel_rfl) (by kernel_rfl) (by kernel_rfl) (fun x => ?hT) ?hF ?hini (Reg.all_ops ?runs) ?pres ?fin
  case W => exact fun j x w' => match j with | 13 => Is w' rb 69 (mkFirst b).cells | _ => True
  case E => exact fun _ w' w'' => True
  case hT =>
    simp only [Reg.fillV, Act.put, List.setIfInBounds_toArray, List.set_cons_zero, List.set_cons_succ]
    rfl
  case runs =>
    refine And.intro ?_ ?_
    · refine Reg.ob_pure (fun _ => rfl) rfl rfl rfl rfl (fun x w1 hF => ?_)
      obtain ⟨hb, -, -⟩ := hF
      have q0 := hb.cell 0
      simp at q0
      go_simp
      with_reducible rfl
    refine And.intro ?_ ?_
    · refine Reg.ob_known (fun _ => rfl) rfl rfl (fun x w1 hF hU K hK => ?_)
      obtain ⟨hb, hr, ho⟩ := hF rfl
      go_simp
      refine (pf_has b _ _ bb w1 hb H1.out).mono ?_
      rintro e w3 ⟨rfl, rfl⟩
      exact hK _ (fun _ _ _ => ⟨hb, hr, ho⟩) trivial
    refine And.intro ?_ ?_
    · refine Reg.ob_pure (fun _ => rfl) rfl rfl rfl rfl (fun x w1 hF => ?_)
      obtain ⟨hb, -, -⟩ := hF
      have q0 := hb.cell 0
      simp at q0
      go_simp
      with_reducible rfl
    refine And.intro ?_ ?_
    · refine Reg.ob_known (fun _ => rfl) rfl rfl (fun x w1 hF hU K hK => ?_)
      obtain ⟨hb, hr, ho⟩ := hF rfl
      go_simp
      refine (pf_has b _ _ bb w1 hb H2.out).mono ?_
      rintro e w3 ⟨rfl, rfl⟩
      exact hK _ (fun _ _ _ => ⟨hb, hr, ho⟩) trivial
    refine And.intro ?_ ?_
    · refine Reg.ob_pure (fun _ => rfl) rfl rfl rfl rfl (fun x w1 hF => ?_)
      obtain ⟨hb, -, -⟩ := hF
      have q0 := hb.cell 0
      simp at q0
      go_simp
      with_reducible rfl
    refine And.intro ?_ ?_
    · refine Reg.ob_known (fun _ => rfl) rfl rfl (fun x w1 hF hU K hK => ?_)
      obtain ⟨hb, hr, ho⟩ := hF rfl
      go_simp
      refine (pf_has b _ _ bb w1 hb H3.out).mono ?_
      rintro e w3 ⟨rfl, rfl⟩
      exact hK _ (fun _ _ _ => ⟨hb, hr, ho⟩) trivial
    refine And.intro ?_ ?_
    · refine Reg.ob_pure (fun _ => rfl) rfl rfl rfl rfl (fun x w1 hF => ?_)
      obtain ⟨hb, -, -⟩ := hF
      have q0 := hb.cell 0
      simp at q0
      go_simp
      with_reducible rfl
    refine And.intro ?_ ?_
    · refine Reg.ob_known (fun _ => rfl) rfl rfl (fun x w1 hF hU K hK => ?_)
      obtain ⟨hb, hr, ho⟩ := hF rfl
      go_simp
      refine (pf_has b _ _ bb w1 hb H4.out).mono ?_
      rintro e w3 ⟨rfl, rfl⟩
      exact hK _ (fun _ _ _ => ⟨hb, hr, ho⟩) trivial
    refine And.intro ?_ ?_
    · refine Reg.ob_pure (fun _ => rfl) rfl rfl rfl rfl (fun x w1 hF => ?_)
      obtain ⟨hb, -, -⟩ := hF
      have q0 := hb.cell 0
      simp at q0
      go_simp
      with_reducible rfl
    refine And.intro ?_ ?_
    · refine Reg.ob_known (fun _ => rfl) rfl rfl (fun x w1 hF hU K hK => ?_)
      obtain ⟨hb, hr, ho⟩ := hF rfl
      go_simp
      refine (pf_has b _ _ bb w1 hb H5.out).mono ?_
      rintro e w3 ⟨rfl, rfl⟩
      exact hK _ (fun _ _ _ => ⟨hb, hr, ho⟩) trivial
    refine And.intro ?_ ?_
    · refine Reg.ob_pure (fun _ => rfl) rfl rfl rfl rfl (fun x w1 hF => ?_)
      obtain ⟨hb, -, -⟩ := hF
      have q0 := hb.cell 0
      simp at q0
      go_simp
      with_reducible rfl
    refine And.intro ?_ ?_
    · refine Reg.ob_pure (fun _ => rfl) rfl rfl rfl rfl (fun x w1 hF => ?_)
      have h6 := H6.out
      go_simp
    refine And.intro ?_ ?_
    · refine Reg.ob_pure (fun _ => rfl) rfl rfl rfl rfl (fun x w1 hF => ?_)
      go_simp
      rfl
    refine And.intro ?_ ?_
    · refine Reg.ob_some (fun _ => rfl) rfl (fun x w1 hF hU K hK => ?_)
      obtain ⟨hb, ⟨cs, hr, h9⟩, ho⟩ := hF rfl
      refine wp_store_row 69 _ _ rfl rb (mkFirst b).cells rfl rfl 69 cs hr Try.sizeMk h9 HV.out ?_
      have hos : Only (fun k => k = rb) w1 (w1.setRow rb (mkFirst b).cells) := Only.setRow (S := fun k => k = rb) (Only.refl _ w1) (fun _ => rfl) _
      have hr2 : Is (w1.setRow rb (mkFirst b).cells) rb 69 (mkFirst b).cells := hr.setRow _
      exact hK undef _ (fun _ _ _ => ⟨hb.only hos (fun e => Is.apart hb hr (by decide) e), ⟨_, hr2, rfl⟩, ho.trans hos (fun _ _ e => e)⟩) trivial hr2
    exact trivial
  case hF =>
    exact ⟨HI.out.only (only_drewN _ 1) (by simp), ⟨_, HO.out.only (only_drewN _ 1) (by simp), rfl⟩, (Only.refl _ _).drewN 1⟩
  case hini =>
    exact trivial
  case pres =>
    intro i hi j hj hc x w1 w2 hF hE hW
    exfalso
    revert hc
    simp only [List.mem_cons, List.mem_nil_iff, or_false] at hi hj
    rcases hi with rfl | rfl | rfl | rfl | rfl | rfl <;> rcases hj with rfl <;> decide
  case fin =>
    rintro x w9 hF ⟨hW, -⟩
    have hW : Is w9 rb 69 (mkFirst b).cells := hW
    have hO := (hF rfl).2.2
    clear hF
    go_wp2
    exact bodyPost_ret (res_one Try.results78 _ w9 rb 69 (mkFirst b).cells _ rfl hW Try.underlying69 rfl Try.sizeMk) rfl ⟨rfl, P0.out.trans hO (fun i hi e => by have := HRB.out; omega)⟩

theorem mkFirst_right (b : Nat) : (mkFirst b).right = decide (b % 16 = 0) := by
  unfold mkFirst Mk.right hasb
  rw [Bool.eq_iff_iff]
  simp
  omega
def MkParA (bs : List Nat) (w : World) (e : Ending) (w' : World) : Prop := e = .returned (.tuple #[.agg (mkOf bs).cells, .int .i64 (mkErr bs : Nat)]) ∧ Only (fun _ => False) w w'
set_option maxRecDepth 100000 in
set_option maxHeartbeats 1000000 in
theorem mk_par_bad (v : Value) (bs : List Nat) (w : World) (hs : Src w v bs) (h1 : bs.length ≠ 1) (h3 : bs.length ≠ 3) : Calls Try.prog 44 #[v] w (MkParA bs w) := by
  obtain ⟨A, c, rfl⟩ := hs.slice
  have e1 : mkErr bs = 40 := by unfold mkErr; rw [if_neg h3, if_neg (fun h => h1 h.1)]
  have e2 : mkOf bs = Mk.zero := by unfold mkOf; rw [if_neg h3, if_neg (fun h => h1 h.1)]
  have HE := Lib.hid (show MkParA bs w = fun e w' => e = .returned (.tuple #[.agg Mk.zero.cells, .int .i64 (40 : Nat)]) ∧ Only (fun _ => False) w w' from by unfold MkParA; rw [e1, e2])
  rw [HE.out]
  have z1 : ((bs.length : Int) != 1) = true := by simp; omega
  have z3 : ((bs.length : Int) != 3) = true := by simp; omega
  have HV := Lib.hid (Mk.one Mk.zero)
  clear h1 h3 e1 e2 hs HE
  generalize bs.length = L at *
  go_enter Try.func44, Try.ntmps44
  go_wp2_with (refine wpList_store_is (o := ⟨none, _, _, _, _, _⟩) rfl 69 _ _ rfl w.heap.size Mk.zero.cells rfl rfl 69 Mk.zero.cells (Is.made w _ Mk.zero.cells) Try.sizeMk rfl HV.out ?_; intro w2 hi2 ho2)
  exact bodyPost_ret (res_cell Try.results44 _ w2 w.heap.size 69 Mk.zero.cells _ (.int .i64 40) rfl rfl hi2 Try.underlying69 rfl Try.sizeMk) rfl ⟨rfl, only_made ho2⟩
set_option maxRecDepth 100000 in
set_option maxHeartbeats 1000000 in
theorem mk_par_one (v : Value) (b : Nat) (w : World) (hs : Src w v [b]) (hb : b < 256) : Calls Try.prog 44 #[v] w (MkParA [b] w) := by
  obtain ⟨g, o, c, rfl, hcell⟩ := hs.at_ (by simp)
  have q0 := hcell 0 (by simp)
  simp at q0
  have HPF := Lib.hid (fun w => mk_pfirst b w hb)
  have HR := Lib.hid (fun w => mk_right (mkFirst b) w)
  rw [mkFirst_right] at HR
  have HV := Lib.hid (Mk.one (mkFirst b))
  have HZ := Lib.hid (Mk.one Mk.zero)
  have HRI : ∀ w' : World, Only (fun _ => False) w w' → w.heap.size ≤ w'.heap.size := fun w' h => h.size
  by_cases h16 : b % 16 = 0
  · have HE := Lib.hid (show MkParA [b] w = fun e w' => e = .returned (.tuple #[.agg (mkFirst b).cells, .int .i64 (0 : Nat)]) ∧ Only (fun _ => False) w w' from by
      have e1 : mkErr [b] = 0 := by unfold mkErr; rw [if_neg (by simp), if_pos ⟨rfl, h16⟩]
      have e2 : mkOf [b] = mkFirst b := by
        unfold mkOf mkFirst
        rw [if_neg (by simp), if_pos ⟨rfl, h16⟩]
        have a1 : hasb b 8 = false := by unfold hasb; simp; omega
        have a2 : b % 8 = 0 := by omega
        rw [a1, a2]
        rfl
      unfold MkParA
      rw [e1, e2])
    rw [HE.out]
    rw [decide_eq_true h16] at HR
    generalize mkFirst b = mf at *
    clear h16 hs hcell HRI
    go_enter Try.func44, Try.ntmps44
    go_upto_region 3 with (fail)
    have HO := Lib.hid (Is.made w 69 Mk.zero.cells)
    have P0 := Lib.hid (show Only (fun _ => False) w (w.alloc (.cells Mk.zero.cells 69)) from (Only.refl _ w).alloc _)
    have q1 := (P0.out.cell (World.block_lt_of_cell? _ _ q0) (by simp)).trans q0
    generalize hw0 : World.alloc _ _ = w0
    rw [show w.alloc (.cells Mk.zero.cells 69) = w0 from hw0] at HO P0 q1
    obtain ⟨rb, hrb⟩ : ∃ k, w.heap.size = k := ⟨_, rfl⟩
    have HRB := Lib.hid hrb
    rw [hrb] at HO ⊢
    clear hw0 q0 hrb
    go_upto_region 4 with (first
      | (go_at_call 78; refine (HPF.out _).mono ?_; rintro e w1 ⟨rfl, ho1⟩; have O1 := Lib.hid ho1; clear ho1)
      | (refine wpList_store_is rfl 69 _ _ rfl w1.heap.size mf.cells rfl rfl 69 Mk.zero.cells (Is.made _ _ Mk.zero.cells) Try.sizeMk rfl HV.out ?_; intro w2 hi2 ho2))
    have I2 := Lib.hid hi2
    have O2 := Lib.hid (only_made ho2)
    clear hi2 ho2
    have HO2 := Lib.hid (HO.out.only (only_more O1.out O2.out) (by simp))
    generalize w1.heap.size = mb at *
    go_wp2_with (first
      | (refine wpList_load_want (o := ⟨some 30, _, _, _, _, _⟩) rfl _ _ rfl mb rfl _ _ _ I2.out Try.underlying69 rfl Try.sizeMk ?_)
      | (go_at_call 41; refine (HR.out _).mono ?_; rintro e w3 ⟨rfl, ho3⟩; have O3 := Lib.hid ho3; clear ho3)
      | (refine wpList_load_want (o := ⟨some 34, _, _, _, _, _⟩) rfl _ _ rfl mb rfl _ _ _ (I2.out.only O3.out (by simp)) Try.underlying69 rfl Try.sizeMk ?_)
      | (refine wpList_store_is (o := ⟨none, _, _, _, _, _⟩) rfl 69 _ _ rfl rb mf.cells rfl rfl 69 Mk.zero.cells (HO2.out.only O3.out (by simp)) Try.sizeMk rfl HV.out ?_; intro w4 hi4 ho4))
    exact bodyPost_ret (res_cell Try.results44 _ w4 rb 69 mf.cells _ (.int .i64 0) rfl rfl hi4 Try.underlying69 rfl Try.sizeMk) rfl ⟨rfl, (only_more P0.out (only_more O1.out (only_more O2.out O3.out))).trans ho4 (fun i hi e => by have := HRB.out; omega)⟩
  · have HE := Lib.hid (show MkParA [b] w = fun e w' => e = .returned (.tuple #[.agg Mk.zero.cells, .int .i64 (40 : Nat)]) ∧ Only (fun _ => False) w w' from by
      have e1 : mkErr [b] = 40 := by unfold mkErr; rw [if_neg (by simp), if_neg (fun h => h16 h.2)]
      have e2 : mkOf [b] = Mk.zero := by unfold mkOf; rw [if_neg (by simp), if_neg (fun h => h16 h.2)]
      unfold MkParA
      rw [e1, e2])
    rw [HE.out]
    rw [decide_eq_false h16] at HR
    generalize mkFirst b = mf at *
    clear h16 hs hcell HRI
    go_enter Try.func44, Try.ntmps44
    go_upto_region 3 with (fail)
    have HO := Lib.hid (Is.made w 69 Mk.zero.cells)
    have P0 := Lib.hid (show Only (fun _ => False) w (w.alloc (.cells Mk.zero.cells 69)) from (Only.refl _ w).alloc _)
    have q1 := (P0.out.cell (World.block_lt_of_cell? _ _ q0) (by simp)).trans q0
    generalize hw0 : World.alloc _ _ = w0
    rw [show w.alloc (.cells Mk.zero.cells 69) = w0 from hw0] at HO P0 q1
    obtain ⟨rb, hrb⟩ : ∃ k, w.heap.size = k := ⟨_, rfl⟩
    have HRB := Lib.hid hrb
    rw [hrb] at HO ⊢
    clear hw0 q0 hrb
    go_upto_region 4 with (first
      | (go_at_call 78; refine (HPF.out _).mono ?_; rintro e w1 ⟨rfl, ho1⟩; have O1 := Lib.hid ho1; clear ho1)
      | (refine wpList_store_is rfl 69 _ _ rfl w1.heap.size mf.cells rfl rfl 69 Mk.zero.cells (Is.made _ _ Mk.zero.cells) Try.sizeMk rfl HV.out ?_; intro w2 hi2 ho2))
    have I2 := Lib.hid hi2
    have O2 := Lib.hid (only_made ho2)
    clear hi2 ho2
    have HO2 := Lib.hid (HO.out.only (only_more O1.out O2.out) (by simp))
    generalize w1.heap.size = mb at *
    go_wp2_with (first
      | (refine wpList_load_want (o := ⟨some 30, _, _, _, _, _⟩) rfl _ _ rfl mb rfl _ _ _ I2.out Try.underlying69 rfl Try.sizeMk ?_)
      | (go_at_call 41; refine (HR.out _).mono ?_; rintro e w3 ⟨rfl, ho3⟩; have O3 := Lib.hid ho3; clear ho3)
      | (refine wpList_store_is (o := ⟨none, _, _, _, _, _⟩) rfl 69 _ _ rfl rb Mk.zero.cells rfl rfl 69 Mk.zero.cells (HO2.out.only O3.out (by simp)) Try.sizeMk rfl HZ.out ?_; intro w4 hi4 ho4))
    exact bodyPost_ret (res_cell Try.results44 _ w4 rb 69 Mk.zero.cells _ (.int .i64 40) rfl rfl hi4 Try.underlying69 rfl Try.sizeMk) rfl ⟨rfl, (only_more P0.out (only_more O1.out (only_more O2.out O3.out))).trans ho4 (fun i hi e => by have := HRB.out; omega)⟩
/-- What three bytes tell. -/
def mkThree (b x y : Nat) : Mk := ⟨hasb b 128, hasb b 64, hasb b 32, hasb b 16, true, hasb b 8, b % 8, x, y⟩
theorem mkThree_right (b x y : Nat) : (mkThree b x y).right = true := by
  unfold mkThree Mk.right
  simp
  omega
/-- A field of a marking is written. -/
theorem mk_set {wx : World} {ob : Nat} {o o' : Mk} (h : Is wx ob 69 o.cells) (i : Nat) (v : Value) (hd : o.cells.setIfInBounds i v = o'.cells) : Is (wx.setCell ⟨ob, i, none⟩ v) ob 69 o'.cells := by
  rw [← hd]; exact h.put i v
/-- Amid Parse: the bytes, the answer's block. -/
structure Mpr (g o b1 b2 rb mb : Nat) (w wx : World) : Prop where
  c1 : wx.cell? ⟨g, o + 1, none⟩ = some (.int .u8 (b1 : Nat))
  c2 : wx.cell? ⟨g, o + 2, none⟩ = some (.int .u8 (b2 : Nat))
  ans : Is wx rb 69 Mk.zero.cells
  pure : Only (fun k => k = mb) w wx
theorem Mpr.put {g o b1 b2 rb mb : Nat} {w wx : World} (h : Mpr g o b1 b2 rb mb w wx) (h1 : g ≠ mb) (h2 : rb ≠ mb) (i : Nat) (v : Value) : Mpr g o b1 b2 rb mb w (wx.setCell ⟨mb, i, none⟩ v) := by
  have ho : Only (fun k => k = mb) wx (wx.setCell ⟨mb, i, none⟩ v) := Only.set (S := fun k => k = mb) (p := ⟨mb, i, none⟩) (Only.refl _ wx) (fun _ => rfl) v
  exact ⟨(ho.cell (World.block_lt_of_cell? _ _ h.c1) h1).trans h.c1, (ho.cell (World.block_lt_of_cell? _ _ h.c2) h1).trans h.c2, h.ans.only ho h2, h.pure.trans ho (fun _ _ e => e)⟩
set_option maxRecDepth 100000 in
set_option maxHeartbeats 2000000 in
theorem mk_par_three (v : Value) (b b1 b2 : Nat) (w : World) (hs : Src w v [b, b1, b2]) (hb : b < 256) : Calls Try.prog 44 #[v] w (MkParA [b, b1, b2] w) := by
  obtain ⟨g, o, c, rfl, hcell⟩ := hs.at_ (by simp)
  have q0 := hcell 0 (by simp)
  have q1 := hcell 1 (by simp)
  have q2 := hcell 2 (by simp)
  simp at q0 q1 q2
  have HPF := Lib.hid (fun w => mk_pfirst b w hb)
  have HR := Lib.hid (fun w => mk_right (mkThree b b1 b2) w)
  rw [mkThree_right] at HR
  have HV := Lib.hid (Mk.one (mkFirst b))
  have HV3 := Lib.hid (Mk.one (mkThree b b1 b2))
  have HE := Lib.hid (show MkParA [b, b1, b2] w = fun e w' => e = .returned (.tuple #[.agg (mkThree b b1 b2).cells, .int .i64 (0 : Nat)]) ∧ Only (fun _ => False) w w' from by
    have e1 : mkErr [b, b1, b2] = 0 := by unfold mkErr; rw [if_pos (by simp)]
    have e2 : mkOf [b, b1, b2] = mkThree b b1 b2 := by
      unfold mkOf mkThree
      rw [if_pos (by simp)]
      rfl
    unfold MkParA
    rw [e1, e2])
  rw [HE.out]
  have HMF := Lib.hid (show mkFirst b = ⟨hasb b 128, hasb b 64, hasb b 32, hasb b 16, false, hasb b 8, b % 8, 0, 0⟩ from rfl)
  have HMT := Lib.hid (show mkThree b b1 b2 = ⟨hasb b 128, hasb b 64, hasb b 32, hasb b 16, true, hasb b 8, b % 8, b1, b2⟩ from rfl)
  generalize mkThree b b1 b2 = mt at *
  generalize mkFirst b = mf at *
  clear hs hcell hb
  go_enter Try.func44, Try.ntmps44
  go_upto_region 3 with (fail)
  have HO := Lib.hid (Is.made w 69 Mk.zero.cells)
  have P0 := Lib.hid (show Only (fun _ => False) w (w.alloc (.cells Mk.zero.cells 69)) from (Only.refl _ w).alloc _)
  have p0 := (P0.out.cell (World.block_lt_of_cell? _ _ q0) (by simp)).trans q0
  have P1 := Lib.hid ((P0.out.cell (World.block_lt_of_cell? _ _ q1) (by simp)).trans q1)
  have P2 := Lib.hid ((P0.out.cell (World.block_lt_of_cell? _ _ q2) (by simp)).trans q2)
  generalize hw0 : World.alloc _ _ = w0
  rw [show w.alloc (.cells Mk.zero.cells 69) = w0 from hw0] at HO P0 p0 P1 P2
  obtain ⟨rb, hrb⟩ : ∃ k, w.heap.size = k := ⟨_, rfl⟩
  have HRB := Lib.hid hrb
  have HGW := Lib.hid (show g < w0.heap.size from World.block_lt_of_cell? w0 _ p0)
  rw [hrb] at HO ⊢
  clear hw0 q0 q1 q2 hrb
  go_upto_region 4 with (first
    | (go_at_call 78; refine (HPF.out _).mono ?_; rintro e w1 ⟨rfl, ho1⟩; have O1 := Lib.hid ho1; clear ho1)
    | (refine wpList_store_is rfl 69 _ _ rfl w1.heap.size mf.cells rfl rfl 69 Mk.zero.cells (Is.made _ _ Mk.zero.cells) Try.sizeMk rfl HV.out ?_; intro w2 hi2 ho2))
  have I2 := Lib.hid hi2
  have O2 := Lib.hid (only_made ho2)
  have O12 := Lib.hid (only_more O1.out O2.out)
  have HO2 := Lib.hid (HO.out.only O12.out (by simp))
  have HNB := Lib.hid (show g ≠ w1.heap.size ∧ rb ≠ w1.heap.size from by
    have := HGW.out
    have := O1.out.size
    have := HO.out.lt
    omega)
  have HMW := Lib.hid (show w.heap.size ≤ w1.heap.size from Nat.le_trans P0.out.size O1.out.size)
  have S2 := Lib.hid (show Mpr g o b1 b2 rb w1.heap.size w2 w2 from ⟨(O12.out.cell (World.block_lt_of_cell? _ _ P1.out) (by simp)).trans P1.out, (O12.out.cell (World.block_lt_of_cell? _ _ P2.out) (by simp)).trans P2.out, HO2.out, Only.refl _ _⟩)
  generalize w1.heap.size = mb at *
  clear hi2 ho2 p0
  go_upto_region 5 with (fail)
  refine wp_region_posts [[], [0], [1, 0], [], [3], [4, 3], [], [6], [0, 1, 2, 6, 7], [8, 2, 7, 0, 1, 6], [0, 1, 2, 3, 4, 5, 6, 7, 8, 9], [10, 5, 9, 0, 1, 2, 3, 4, 6, 7, 8]] [7, 9, 11] [12, 7, 9, 11] [[], [], [], [], [], [], [], [12], [], [12, 7], [], [12, 7, 9]] [[], [], [], [], [], [], [], [12], [], [7], [], [9]] [11] [] [] [12]
      [some ?v0, some ?v1, some ?v2, some ?v3, some ?v4, some ?v5, some ?v6, none, some ?v8, none, some ?v10, none]
      ?T (fun wx => Mpr g o b1 b2 rb mb w2 wx) ?W ?E (by kernel_rfl) (by kernel_rfl) (by kernel_rfl) (fun x => ?hT) ?hF ?hini (Reg.all_ops ?runs) ?pres ?fin
  case W => exact fun j x w' => match j with | 12 => Is w' mb 69 (Mk.cells mf) | 7 => Is w' mb 69 (Mk.cells ({ mf with lg := true } : Mk)) | 9 => Is w' mb 69 (Mk.cells ({ mf with lg := true, lid := b1 } : Mk)) | 11 => Is w' mb 69 (Mk.cells ({ mf with lg := true, lid := b1, tl := b2 } : Mk)) | _ => True
  case E => exact fun _ w' w'' => True
  case hT =>
    simp only [Reg.fillV, Act.put, List.setIfInBounds_toArray, List.set_cons_zero, List.set_cons_succ]
    rfl
  case runs =>
    refine And.intro ?_ ?_
    · refine Reg.ob_pure (fun _ => rfl) rfl rfl rfl rfl (fun x w1 hF => ?_)
      have q1 := hF.c1
      have q2 := hF.c2
      go_simp
      with_reducible rfl
    refine And.intro ?_ ?_
    · refine Reg.ob_pure (fun _ => rfl) rfl rfl rfl rfl (fun x w1 hF => ?_)
      have q1 := hF.c1
      have q2 := hF.c2
      go_simp
      with_reducible rfl
    refine And.intro ?_ ?_
    · refine Reg.ob_pure (fun _ => rfl) rfl rfl rfl rfl (fun x w1 hF => ?_)
      have q1 := hF.c1
      have q2 := hF.c2
      go_simp
      with_reducible rfl
    refine And.intro ?_ ?_
    · refine Reg.ob_pure (fun _ => rfl) rfl rfl rfl rfl (fun x w1 hF => ?_)
      have q1 := hF.c1
      have q2 := hF.c2
      go_simp
      with_reducible rfl
    refine And.intro ?_ ?_
    · refine Reg.ob_pure (fun _ => rfl) rfl rfl rfl rfl (fun x w1 hF => ?_)
      have q1 := hF.c1
      have q2 := hF.c2
      go_simp
      with_reducible rfl
    refine And.intro ?_ ?_
    · refine Reg.ob_pure (fun _ => rfl) rfl rfl rfl rfl (fun x w1 hF => ?_)
      have q1 := hF.c1
      have q2 := hF.c2
      go_simp
      with_reducible rfl
    refine And.intro ?_ ?_
    · refine Reg.ob_pure (fun _ => rfl) rfl rfl rfl rfl (fun x w1 hF => ?_)
      have q1 := hF.c1
      have q2 := hF.c2
      go_simp
      with_reducible rfl
    refine And.intro ?_ ?_
    · refine Reg.ob_some (fun _ => rfl) rfl (fun x w1 hF hU K hK => ?_)
      obtain ⟨hO, -⟩ := hU
      have hO : Is w1 mb 69 (Mk.cells mf) := hO
      have c4 := hO.cell 4
      simp [Mk.cells] at c4
      have f4 := hO.free 4
      go_simp
      exact hK undef _ (fun _ _ _ => (hF rfl).put HNB.out.1 HNB.out.2 4 _) trivial (mk_set hO 4 (.bool true) rfl)
    refine And.intro ?_ ?_
    · refine Reg.ob_pure (fun _ => rfl) rfl rfl rfl rfl (fun x w1 hF => ?_)
      have q1 := hF.c1
      have q2 := hF.c2
      go_simp
      with_reducible rfl
    refine And.intro ?_ ?_
    · refine Reg.ob_some (fun _ => rfl) rfl (fun x w1 hF hU K hK => ?_)
      obtain ⟨hO, -⟩ := hU
      have hO : Is w1 mb 69 (Mk.cells ({ mf with lg := true } : Mk)) := hO
      have c7 := hO.cell 7
      simp [Mk.cells] at c7
      have f7 := hO.free 7
      go_simp
      exact hK undef _ (fun _ _ _ => (hF rfl).put HNB.out.1 HNB.out.2 7 _) trivial (mk_set hO 7 (.int .u8 (b1 : Nat)) rfl)
    refine And.intro ?_ ?_
    · refine Reg.ob_pure (fun _ => rfl) rfl rfl rfl rfl (fun x w1 hF => ?_)
      have q1 := hF.c1
      have q2 := hF.c2
      go_simp
      with_reducible rfl
    refine And.intro ?_ ?_
    · refine Reg.ob_some (fun _ => rfl) rfl (fun x w1 hF hU K hK => ?_)
      obtain ⟨hO, -⟩ := hU
      have hO : Is w1 mb 69 (Mk.cells ({ mf with lg := true, lid := b1 } : Mk)) := hO
      have c8 := hO.cell 8
      simp [Mk.cells] at c8
      have f8 := hO.free 8
      go_simp
      exact hK undef _ (fun _ _ _ => (hF rfl).put HNB.out.1 HNB.out.2 8 _) trivial (mk_set hO 8 (.int .u8 (b2 : Nat)) rfl)
    exact trivial
  case hF =>
    exact ⟨S2.out.c1, S2.out.c2, S2.out.ans, (Only.refl _ _).drewN 1⟩
  case hini =>
    exact ⟨fun x => I2.out, trivial⟩
  case pres =>
    intro i hi j hj hc x w1 w2 hF hE hW
    exfalso
    revert hc
    simp only [List.mem_cons, List.mem_nil_iff, or_false] at hi hj
    rcases hi with rfl | rfl | rfl <;> rcases hj with rfl | rfl | rfl | rfl <;> decide
  case fin =>
    rintro x w9 hF ⟨hW, -⟩
    replace hF := hF rfl
    have hW : Is w9 mb 69 (Mk.cells ({ mf with lg := true, lid := b1, tl := b2 } : Mk)) := hW
    have e3 : ({ mf with lg := true, lid := b1, tl := b2 } : Mk) = mt := by rw [HMF.out, HMT.out]
    rw [e3] at hW
    have I9 := Lib.hid hW
    have S9 := Lib.hid hF
    clear hW hF e3
    go_wp2_with (first
      | (refine wpList_load_want (o := ⟨some 30, _, _, _, _, _⟩) rfl _ _ rfl mb rfl _ _ _ I9.out Try.underlying69 rfl Try.sizeMk ?_)
      | (go_at_call 41; refine (HR.out _).mono ?_; rintro e w3 ⟨rfl, ho3⟩; have O3 := Lib.hid ho3; clear ho3)
      | (refine wpList_load_want (o := ⟨some 34, _, _, _, _, _⟩) rfl _ _ rfl mb rfl _ _ _ (I9.out.only O3.out (by simp)) Try.underlying69 rfl Try.sizeMk ?_)
      | (refine wpList_store_is (o := ⟨none, _, _, _, _, _⟩) rfl 69 _ _ rfl rb mt.cells rfl rfl 69 Mk.zero.cells (S9.out.ans.only O3.out (by simp)) Try.sizeMk rfl HV3.out ?_; intro w4 hi4 ho4))
    exact bodyPost_ret (res_cell Try.results44 _ w4 rb 69 mt.cells _ (.int .i64 0) rfl rfl hi4 Try.underlying69 rfl Try.sizeMk) rfl ⟨rfl, (only_more ((only_more P0.out O12.out).trans S9.out.pure (fun i hi e => by have := HMW.out; omega)) O3.out).trans ho4 (fun i hi e => by have := HRB.out; omega)⟩
theorem mk_parse (v : Value) (bs : List Nat) (w : World) (hs : Src w v bs) (hb : ∀ x ∈ bs, x < 256) : Calls Try.prog 44 #[v] w (MkParA bs w) := by
  by_cases h1 : bs.length = 1
  · match bs, h1 with
    | [b], _ => exact mk_par_one v b w hs (hb b (by simp))
  · by_cases h3 : bs.length = 3
    · match bs, h3 with
      | [b, b1, b2], _ => exact mk_par_three v b b1 b2 w hs (hb b (by simp))
    · exact mk_par_bad v bs w hs h1 h3
end Go.Proofs.Ytcgfmjdlningpaa
