/- Descriptors: whether two are the same; fitted, Right, Anew, Key. Conditions: as each says. -/
import Derived.Test.YtneogagainllnaaVpC
import Derived.Laws.StructEq
set_option linter.unusedVariables false
namespace Go.Proofs.Ytneogagainllnaa
open Go.RowKit

def Dv.same (d e : Dv) : Bool := d.n == e.n && d.start == e.start && d.part == e.part && d.hasPic == e.hasPic && d.long == e.long && d.pic == e.pic && d.hasTl0 == e.hasTl0 && d.tl0 == e.tl0 && d.hasTid == e.hasTid && d.tid == e.tid && d.sync == e.sync && d.hasKey == e.hasKey && d.key == e.key
theorem Dv.same_iff (d e : Dv) : d.same e = true ↔ d = e := by
  obtain ⟨a1, a2, a3, a4, a5, a6, a7, a8, a9, a10, a11, a12, a13⟩ := d
  obtain ⟨b1, b2, b3, b4, b5, b6, b7, b8, b9, b10, b11, b12, b13⟩ := e
  simp [Dv.same, and_assoc]
theorem ite_chain (p : Prop) [Decidable p] (b : Bool) (w : World) : (if p then Result.ok (Value.bool b) w else Result.ok (Value.bool false) w) = Result.ok (Value.bool (decide p && b)) w := by
  by_cases h : p <;> simp [h]
set_option maxRecDepth 100000 in
set_option maxHeartbeats 1000000 in
theorem eq_desc (d e : Dv) (w : World) : (binOp .eql 31 (.agg d.cells) (.agg e.cells)).run Try.prog w = .ok (.bool (d.same e)) w := by
  rw [run_eql_struct, run_equalIn_agg w 9999 _ _ _ (by kernel_rfl) (by kernel_rfl)]
  simp only [Program.fieldsOf, Try.underlying31]
  simp [Op.eqFields, Dv.cells, go_sem]
  simp only [Int.natCast_inj, ite_chain, Bool.and_true]
  have e : d.same e = (decide (d.n = e.n) && (decide (d.start = e.start) && (decide (d.part = e.part) && (decide (d.hasPic = e.hasPic) && (decide (d.long = e.long) && (decide (d.pic = e.pic) && (decide (d.hasTl0 = e.hasTl0) && (decide (d.tl0 = e.tl0) && (decide (d.hasTid = e.hasTid) && (decide (d.tid = e.tid) && (decide (d.sync = e.sync) && (decide (d.hasKey = e.hasKey) && decide (d.key = e.key))))))))))))) := by
    rw [Bool.eq_iff_iff]
    simp [Dv.same, and_assoc]
  rw [e]

/-- What of a descriptor can stand in its digits. -/
def Dv.fit (d : Dv) : Dv :=
  ⟨d.n, d.start, d.part % 8, d.hasPic, if d.hasPic then d.long else false, if d.hasPic then d.pic % (if d.long then 32768 else 128) else 0, d.hasTl0, if d.hasTl0 then d.tl0 else 0,
    d.hasTid, if d.hasTid then d.tid % 4 else 0, if d.hasTid then d.sync else false, d.hasKey, if d.hasKey then d.key % 32 else 0⟩
def Dv.right (d : Dv) : Bool := d.same d.fit
theorem u8_and7 (x : Nat) (h : x < 256) : bits .and .u8 (x : Int) 7 = ((x % 8 : Nat) : Int) := by
  have : ∀ i : Fin 256, bits .and .u8 ((i.val : Nat) : Int) 7 = ((i.val % 8 : Nat) : Int) := by decide +kernel
  exact this ⟨x, h⟩
theorem u8_and3 (x : Nat) (h : x < 256) : bits .and .u8 (x : Int) 3 = ((x % 4 : Nat) : Int) := by
  have : ∀ i : Fin 256, bits .and .u8 ((i.val : Nat) : Int) 3 = ((i.val % 4 : Nat) : Int) := by decide +kernel
  exact this ⟨x, h⟩
theorem u8_and31 (x : Nat) (h : x < 256) : bits .and .u8 (x : Int) 31 = ((x % 32 : Nat) : Int) := by
  have : ∀ i : Fin 256, bits .and .u8 ((i.val : Nat) : Int) 31 = ((i.val % 32 : Nat) : Int) := by decide +kernel
  exact this ⟨x, h⟩
theorem u16_and15 (x : Nat) (h : x < 65536) : bits .and .u16 (x : Int) 32767 = ((x % 32768 : Nat) : Int) := by
  have := u16_and_nat x 32767 h (by decide)
  rw [show (32767 : Nat) = 2 ^ 15 - 1 from rfl, Nat.and_two_pow_sub_one_eq_mod] at this
  exact this
theorem u16_and7 (x : Nat) (h : x < 65536) : bits .and .u16 (x : Int) 127 = ((x % 128 : Nat) : Int) := by
  have := u16_and_nat x 127 h (by decide)
  rw [show (127 : Nat) = 2 ^ 7 - 1 from rfl, Nat.and_two_pow_sub_one_eq_mod] at this
  exact this

/-- Amid fitted: the descriptor, what is made of it, the answer's block. -/
structure Fit3 (w : World) (db ob rb : Nat) (d : Dv) (wx : World) : Prop where
  is : Is wx db 31 d.cells
  ans : Is wx rb 31 Dv.zero.cells
  pure : Only (fun _ => False) w wx
theorem Fit3.put {w wx : World} {db ob rb : Nat} {d : Dv} (h : Fit3 w db ob rb d wx) (h1 : db ≠ ob) (h2 : rb ≠ ob) (hw : w.heap.size ≤ ob) (i : Nat) (v : Value) : Fit3 w db ob rb d (wx.setCell ⟨ob, i, none⟩ v) := by
  have ho : Only (fun k => k = ob) wx (wx.setCell ⟨ob, i, none⟩ v) := Only.set (S := fun k => k = ob) (p := ⟨ob, i, none⟩) (Only.refl _ wx) (fun _ => rfl) v
  exact ⟨h.is.only ho h1, h.ans.only ho h2, h.pure.trans ho (fun i hi e => by omega)⟩
theorem Fit3.drew {w wx : World} {db ob rb : Nat} {d : Dv} (h : Fit3 w db ob rb d wx) : Fit3 w db ob rb d wx.drew := ⟨h.is, h.ans, h.pure.drew⟩
/-- A field of what is made is written. -/
theorem out_put {wx : World} {ob : Nat} {o o' : Dv} (h : Is wx ob 31 o.cells) (i : Nat) (v : Value) (hd : o.cells.setIfInBounds i v = o'.cells) : Is (wx.setCell ⟨ob, i, none⟩ v) ob 31 o'.cells := by
  rw [← hd]; exact h.put i v

def Dv.fpic (d o : Dv) : Dv := if d.hasPic then { o with long := d.long, pic := d.pic % (if d.long then 32768 else 128) } else o
def Dv.ftl0 (d o : Dv) : Dv := if d.hasTl0 then { o with tl0 := d.tl0 } else o
def Dv.ftid (d o : Dv) : Dv := if d.hasTid then { o with tid := d.tid % 4, sync := d.sync } else o
def Dv.fkey (d o : Dv) : Dv := if d.hasKey then { o with key := d.key % 32 } else o
def Dv.base (d : Dv) : Dv := ⟨d.n, d.start, d.part % 8, d.hasPic, false, 0, d.hasTl0, 0, d.hasTid, 0, false, d.hasKey, 0⟩
theorem Dv.fit_eq (d : Dv) : d.fit = d.fkey (d.ftid (d.ftl0 (d.fpic d.base))) := by
  obtain ⟨a1, a2, a3, a4, a5, a6, a7, a8, a9, a10, a11, a12, a13⟩ := d
  cases a4 <;> cases a7 <;> cases a9 <;> cases a12 <;> rfl

set_option maxRecDepth 100000 in
set_option maxHeartbeats 4000000 in
theorem fitted_is (d : Dv) (w : World) (hf : d.Fit) : Calls Try.prog 33 #[d.val] w fun e w' => e = .returned d.fit.val ∧ Only (fun _ => False) w w' := by
  simp only [Dv.val]
  have HQ := Lib.hid (Dv.fit_eq d)
  go_enter Try.func33, Try.ntmps33
  go_upto_region 1 with (fail)
  obtain ⟨db, hdb⟩ : ∃ db, w.heap.size = db := ⟨_, rfl⟩
  obtain ⟨rb, hrb⟩ : ∃ rb, w.heap.size + 1 = rb := ⟨_, rfl⟩
  generalize hw0 : World.alloc _ _ = w0
  have I1 : Is w0 db 31 d.cells := by rw [← hw0, ← hdb]; exact (Is.made w _ _).alloc _
  have I2 : Is w0 rb 31 Dv.zero.cells := by
    rw [← hw0, ← hrb]
    have := Is.made (w.alloc (.cells d.cells 31)) 31 Dv.zero.cells
    rw [World.size_alloc] at this
    exact this
  have P0 : Only (fun _ => False) w w0 := by rw [← hw0]; exact ((Only.refl _ w).alloc _).alloc _
  clear hw0
  rw [hrb, hdb]
  obtain ⟨ob, hob⟩ : ∃ ob, w0.heap.size = ob := ⟨_, rfl⟩
  have HD := Lib.hid (show db ≠ ob from by have := I1.lt; omega)
  have HR := Lib.hid (show rb ≠ ob from by have := I2.lt; omega)
  have hwo : w.heap.size ≤ ob := by have := P0.size; omega
  have hwr : w.heap.size ≤ rb := by omega
  have c0 := I1.cell 0
  simp [Dv.cells] at c0
  have c1 := I1.cell 1
  simp [Dv.cells] at c1
  have c3 := I1.cell 3
  simp [Dv.cells] at c3
  have c6 := I1.cell 6
  simp [Dv.cells] at c6
  have c8 := I1.cell 8
  simp [Dv.cells] at c8
  have c11 := I1.cell 11
  simp [Dv.cells] at c11
  have M0 := Lib.hid (show Fit3 w db ob rb d w0 from ⟨I1, I2, P0⟩)
  have HOB := Lib.hid hob
  clear I1 I2 P0 hdb hrb hob
  go_upto_region 2 with (first | (refine wpList_store_is (o := ⟨none, _, _, _, _, _⟩) rfl 31 _ _ rfl w0.heap.size (Dv.cells ⟨d.n, d.start, 0, d.hasPic, false, 0, d.hasTl0, 0, d.hasTid, 0, false, d.hasKey, 0⟩) rfl rfl 31 Dv.zero.cells (Is.made w0 _ _) Try.sizeDesc rfl (Dv.one _) ?_; intro w1 hi1 ho1))
  rw [HOB.out] at hi1 ho1 ⊢
  have M1 : Fit3 w db ob rb d w1 := ⟨(M0.out.is.alloc _).only ho1 HD.out, (M0.out.ans.alloc _).only ho1 HR.out, (M0.out.pure.alloc _).trans ho1 (fun i hi e => by omega)⟩
  have N1 := Lib.hid M1
  have O1 := Lib.hid hi1
  have c2 := M1.is.cell 2
  simp [Dv.cells] at c2
  have d2 := hi1.cell 2
  simp [Dv.cells] at d2
  have g2 := hi1.free 2
  have e7 := u8_and7 d.part hf.part
  clear M1 hi1 ho1 c0 c1 c3 c6 c8 c11 M0
  go_upto_region 3 with (fail)
  clear c2 d2 g2 e7
  generalize hw2 : World.setCell _ _ _ = w2
  have M := Lib.hid (show Fit3 w db ob rb d w2 from by rw [← hw2]; exact N1.out.put HD.out HR.out hwo 2 _)
  have O := Lib.hid (show Is w2 ob 31 d.base.cells from by rw [← hw2]; exact out_put O1.out 2 (.int .u8 ((d.part % 8 : Nat) : Int)) rfl)
  clear hw2 N1 O1
  have c3 := M.out.is.cell 3
  simp [Dv.cells] at c3
  go_upto_if 22 with (fail)
  clear c3
  go_cut [] (fun wx => Fit3 w db ob rb d wx ∧ Is wx ob 31 (d.fpic d.base).cells)
  case first =>
    have M2 := M
    have O2 := O
    clear M O
    generalize d.base = o at *
    cases hp : d.hasPic
    · go_wp2_with fail
      go_meet
      have e : d.fpic o = o := by simp [Dv.fpic, hp]
      rw [e]
      exact ⟨M2.out, O2.out⟩
    · have hpp := hf.pic
      rcases hl : d.long with _ | _
      · have ea := u16_and7 d.pic hpp
        have ew1 : IntKind.u16.wrap 128 = 128 := by decide
        have ew2 : IntKind.u16.wrap (128 - 1) = 127 := by decide
        have ew3 : IntKind.u16.wrap 127 = 127 := by decide
        go_upto_region 4 with (fail)
        refine wp_region_posts [[], [0], [], [2], [], [4], [5, 4], [6, 5, 4], [7, 6, 5, 4], [3, 8, 2, 7, 6, 5, 4], [0, 1], [10, 1, 6, 0, 5, 4], [0, 1, 2, 3, 4, 5, 6, 7, 8, 9, 10, 11], [12, 9, 11, 0, 1, 2, 3, 4, 5, 6, 7, 8, 10]] [11, 13] [14, 11, 13] [[], [], [], [], [], [], [], [], [], [], [], [14], [], [11, 14]] [[], [], [], [], [], [], [], [], [], [], [], [14], [], [11]] [13] [] [] [14]
            [some ?v0, some ?v1, some ?v2, some ?v3, some ?v4, some ?v5, some (.int .i64 7), some ?v7, some ?v8, some ?v9, some ?v10, none, some ?v12, none]
            ?T (fun w' => Fit3 w db ob rb d w') ?W ?E (by kernel_rfl) (by kernel_rfl) (by kernel_rfl) (fun x => ?hT) ?hF ?hini (Reg.all_ops ?runs) ?pres ?fin
        case W => exact fun j x w' => match j with | 14 => Is w' ob 31 o.cells | 11 => Is w' ob 31 (Dv.cells { o with long := false }) | 13 => Is w' ob 31 (Dv.cells { o with long := false, pic := d.pic % 128 }) | _ => True
        case E => exact fun _ _ _ => True
        case hT =>
          simp only [Reg.fillV, Act.put, List.setIfInBounds_toArray, List.set_cons_zero, List.set_cons_succ]
          rfl
        case runs =>
          refine And.intro ?_ ?_
          · refine Reg.ob_pure (fun _ => rfl) rfl rfl rfl rfl (fun x w1 hF => ?_)
            have c4 := hF.is.cell 4
            have c5 := hF.is.cell 5
            simp [Dv.cells, hl] at c4 c5
            go_simp
            with_reducible rfl
          refine And.intro ?_ ?_
          · refine Reg.ob_pure (fun _ => rfl) rfl rfl rfl rfl (fun x w1 hF => ?_)
            have c4 := hF.is.cell 4
            have c5 := hF.is.cell 5
            simp [Dv.cells, hl] at c4 c5
            go_simp
            with_reducible rfl
          refine And.intro ?_ ?_
          · refine Reg.ob_pure (fun _ => rfl) rfl rfl rfl rfl (fun x w1 hF => ?_)
            have c4 := hF.is.cell 4
            have c5 := hF.is.cell 5
            simp [Dv.cells, hl] at c4 c5
            go_simp
            with_reducible rfl
          refine And.intro ?_ ?_
          · refine Reg.ob_pure (fun _ => rfl) rfl rfl rfl rfl (fun x w1 hF => ?_)
            have c4 := hF.is.cell 4
            have c5 := hF.is.cell 5
            simp [Dv.cells, hl] at c4 c5
            go_simp
            with_reducible rfl
          refine And.intro ?_ ?_
          · refine Reg.ob_pure (fun _ => rfl) rfl rfl rfl rfl (fun x w1 hF => ?_)
            have c4 := hF.is.cell 4
            have c5 := hF.is.cell 5
            simp [Dv.cells, hl] at c4 c5
            go_simp
            with_reducible rfl
          refine And.intro ?_ ?_
          · refine Reg.ob_pure (fun _ => rfl) rfl rfl rfl rfl (fun x w1 hF => ?_)
            have c4 := hF.is.cell 4
            have c5 := hF.is.cell 5
            simp [Dv.cells, hl] at c4 c5
            go_simp
            with_reducible rfl
          refine And.intro ?_ ?_
          · refine Reg.ob_known (fun _ => rfl) rfl rfl (fun x w1 hF hU K hK => ?_)
            have c4 := (hF rfl).is.cell 4
            simp [Dv.cells, hl] at c4
            go_simp
            refine (pic_digits false _).mono ?_
            rintro e w3 ⟨rfl, rfl⟩
            exact hK _ (fun h => by cases h) rfl
          refine And.intro ?_ ?_
          · refine Reg.ob_pure (fun _ => rfl) rfl rfl rfl rfl (fun x w1 hF => ?_)
            have c4 := hF.is.cell 4
            have c5 := hF.is.cell 5
            simp [Dv.cells, hl] at c4 c5
            go_simp
            with_reducible rfl
          refine And.intro ?_ ?_
          · refine Reg.ob_pure (fun _ => rfl) rfl rfl rfl rfl (fun x w1 hF => ?_)
            have c4 := hF.is.cell 4
            have c5 := hF.is.cell 5
            simp [Dv.cells, hl] at c4 c5
            go_simp
            with_reducible rfl
          refine And.intro ?_ ?_
          · refine Reg.ob_pure (fun _ => rfl) rfl rfl rfl rfl (fun x w1 hF => ?_)
            have c4 := hF.is.cell 4
            have c5 := hF.is.cell 5
            simp [Dv.cells, hl] at c4 c5
            go_simp
            with_reducible rfl
          refine And.intro ?_ ?_
          · refine Reg.ob_pure (fun _ => rfl) rfl rfl rfl rfl (fun x w1 hF => ?_)
            have c4 := hF.is.cell 4
            have c5 := hF.is.cell 5
            simp [Dv.cells, hl] at c4 c5
            go_simp
            with_reducible rfl
          refine And.intro ?_ ?_
          · refine Reg.ob_some (fun _ => rfl) rfl (fun x w1 hF hU K hK => ?_)
            obtain ⟨hO, -⟩ := hU
            have hO : Is w1 ob 31 o.cells := hO
            have c4 := hO.cell 4
            simp [Dv.cells] at c4
            have f4 := hO.free 4
            go_simp
            exact hK undef _ (fun _ _ _ => (hF rfl).put HD.out HR.out hwo 4 _) trivial (out_put hO 4 (.bool false) rfl)
          refine And.intro ?_ ?_
          · refine Reg.ob_pure (fun _ => rfl) rfl rfl rfl rfl (fun x w1 hF => ?_)
            have c4 := hF.is.cell 4
            have c5 := hF.is.cell 5
            simp [Dv.cells, hl] at c4 c5
            go_simp
            with_reducible rfl
          refine And.intro ?_ ?_
          · refine Reg.ob_some (fun _ => rfl) rfl (fun x w1 hF hU K hK => ?_)
            obtain ⟨hO, -⟩ := hU
            have hO : Is w1 ob 31 (Dv.cells { o with long := false }) := hO
            have c5 := hO.cell 5
            simp [Dv.cells] at c5
            have f5 := hO.free 5
            go_simp
            exact hK undef _ (fun _ _ _ => (hF rfl).put HD.out HR.out hwo 5 _) trivial (out_put hO 5 (.int .u16 ((d.pic % 128 : Nat) : Int)) rfl)
          exact trivial
        case hF =>
          exact M2.out.drew
        case hini =>
          exact ⟨fun x => O2.out, trivial⟩
        case pres =>
          intro i hi j hj hc x w1 w2 hF hE hW
          exfalso
          revert hc
          simp only [List.mem_cons, List.mem_nil_iff, or_false] at hi hj
          rcases hi with rfl | rfl <;> rcases hj with rfl | rfl | rfl <;> decide
        case fin =>
          rintro x w1 hF ⟨hO, -⟩
          replace hF := hF rfl
          go_wp2_with fail
          go_meet
          refine ⟨hF, ?_⟩
          have e : d.fpic o = { o with long := false, pic := d.pic % 128 } := by simp [Dv.fpic, hp, hl]
          rw [e]
          exact hO
      · have ea := u16_and15 d.pic hpp
        have ew1 : IntKind.u16.wrap 32768 = 32768 := by decide
        have ew2 : IntKind.u16.wrap (32768 - 1) = 32767 := by decide
        have ew3 : IntKind.u16.wrap 32767 = 32767 := by decide
        go_upto_region 4 with (fail)
        refine wp_region_posts [[], [0], [], [2], [], [4], [5, 4], [6, 5, 4], [7, 6, 5, 4], [3, 8, 2, 7, 6, 5, 4], [0, 1], [10, 1, 6, 0, 5, 4], [0, 1, 2, 3, 4, 5, 6, 7, 8, 9, 10, 11], [12, 9, 11, 0, 1, 2, 3, 4, 5, 6, 7, 8, 10]] [11, 13] [14, 11, 13] [[], [], [], [], [], [], [], [], [], [], [], [14], [], [11, 14]] [[], [], [], [], [], [], [], [], [], [], [], [14], [], [11]] [13] [] [] [14]
            [some ?vt0, some ?vt1, some ?vt2, some ?vt3, some ?vt4, some ?vt5, some (.int .i64 15), some ?vt7, some ?vt8, some ?vt9, some ?vt10, none, some ?vt12, none]
            ?Tt (fun w' => Fit3 w db ob rb d w') ?Wt ?Et (by kernel_rfl) (by kernel_rfl) (by kernel_rfl) (fun x => ?hTt) ?hFt ?hinit (Reg.all_ops ?runst) ?prest ?fint
        case Wt => exact fun j x w' => match j with | 14 => Is w' ob 31 o.cells | 11 => Is w' ob 31 (Dv.cells { o with long := true }) | 13 => Is w' ob 31 (Dv.cells { o with long := true, pic := d.pic % 32768 }) | _ => True
        case Et => exact fun _ _ _ => True
        case hTt =>
          simp only [Reg.fillV, Act.put, List.setIfInBounds_toArray, List.set_cons_zero, List.set_cons_succ]
          rfl
        case runst =>
          refine And.intro ?_ ?_
          · refine Reg.ob_pure (fun _ => rfl) rfl rfl rfl rfl (fun x w1 hF => ?_)
            have c4 := hF.is.cell 4
            have c5 := hF.is.cell 5
            simp [Dv.cells, hl] at c4 c5
            go_simp
            with_reducible rfl
          refine And.intro ?_ ?_
          · refine Reg.ob_pure (fun _ => rfl) rfl rfl rfl rfl (fun x w1 hF => ?_)
            have c4 := hF.is.cell 4
            have c5 := hF.is.cell 5
            simp [Dv.cells, hl] at c4 c5
            go_simp
            with_reducible rfl
          refine And.intro ?_ ?_
          · refine Reg.ob_pure (fun _ => rfl) rfl rfl rfl rfl (fun x w1 hF => ?_)
            have c4 := hF.is.cell 4
            have c5 := hF.is.cell 5
            simp [Dv.cells, hl] at c4 c5
            go_simp
            with_reducible rfl
          refine And.intro ?_ ?_
          · refine Reg.ob_pure (fun _ => rfl) rfl rfl rfl rfl (fun x w1 hF => ?_)
            have c4 := hF.is.cell 4
            have c5 := hF.is.cell 5
            simp [Dv.cells, hl] at c4 c5
            go_simp
            with_reducible rfl
          refine And.intro ?_ ?_
          · refine Reg.ob_pure (fun _ => rfl) rfl rfl rfl rfl (fun x w1 hF => ?_)
            have c4 := hF.is.cell 4
            have c5 := hF.is.cell 5
            simp [Dv.cells, hl] at c4 c5
            go_simp
            with_reducible rfl
          refine And.intro ?_ ?_
          · refine Reg.ob_pure (fun _ => rfl) rfl rfl rfl rfl (fun x w1 hF => ?_)
            have c4 := hF.is.cell 4
            have c5 := hF.is.cell 5
            simp [Dv.cells, hl] at c4 c5
            go_simp
            with_reducible rfl
          refine And.intro ?_ ?_
          · refine Reg.ob_known (fun _ => rfl) rfl rfl (fun x w1 hF hU K hK => ?_)
            have c4 := (hF rfl).is.cell 4
            simp [Dv.cells, hl] at c4
            go_simp
            refine (pic_digits true _).mono ?_
            rintro e w3 ⟨rfl, rfl⟩
            exact hK _ (fun h => by cases h) rfl
          refine And.intro ?_ ?_
          · refine Reg.ob_pure (fun _ => rfl) rfl rfl rfl rfl (fun x w1 hF => ?_)
            have c4 := hF.is.cell 4
            have c5 := hF.is.cell 5
            simp [Dv.cells, hl] at c4 c5
            go_simp
            with_reducible rfl
          refine And.intro ?_ ?_
          · refine Reg.ob_pure (fun _ => rfl) rfl rfl rfl rfl (fun x w1 hF => ?_)
            have c4 := hF.is.cell 4
            have c5 := hF.is.cell 5
            simp [Dv.cells, hl] at c4 c5
            go_simp
            with_reducible rfl
          refine And.intro ?_ ?_
          · refine Reg.ob_pure (fun _ => rfl) rfl rfl rfl rfl (fun x w1 hF => ?_)
            have c4 := hF.is.cell 4
            have c5 := hF.is.cell 5
            simp [Dv.cells, hl] at c4 c5
            go_simp
            with_reducible rfl
          refine And.intro ?_ ?_
          · refine Reg.ob_pure (fun _ => rfl) rfl rfl rfl rfl (fun x w1 hF => ?_)
            have c4 := hF.is.cell 4
            have c5 := hF.is.cell 5
            simp [Dv.cells, hl] at c4 c5
            go_simp
            with_reducible rfl
          refine And.intro ?_ ?_
          · refine Reg.ob_some (fun _ => rfl) rfl (fun x w1 hF hU K hK => ?_)
            obtain ⟨hO, -⟩ := hU
            have hO : Is w1 ob 31 o.cells := hO
            have c4 := hO.cell 4
            simp [Dv.cells] at c4
            have f4 := hO.free 4
            go_simp
            exact hK undef _ (fun _ _ _ => (hF rfl).put HD.out HR.out hwo 4 _) trivial (out_put hO 4 (.bool true) rfl)
          refine And.intro ?_ ?_
          · refine Reg.ob_pure (fun _ => rfl) rfl rfl rfl rfl (fun x w1 hF => ?_)
            have c4 := hF.is.cell 4
            have c5 := hF.is.cell 5
            simp [Dv.cells, hl] at c4 c5
            go_simp
            with_reducible rfl
          refine And.intro ?_ ?_
          · refine Reg.ob_some (fun _ => rfl) rfl (fun x w1 hF hU K hK => ?_)
            obtain ⟨hO, -⟩ := hU
            have hO : Is w1 ob 31 (Dv.cells { o with long := true }) := hO
            have c5 := hO.cell 5
            simp [Dv.cells] at c5
            have f5 := hO.free 5
            go_simp
            exact hK undef _ (fun _ _ _ => (hF rfl).put HD.out HR.out hwo 5 _) trivial (out_put hO 5 (.int .u16 ((d.pic % 32768 : Nat) : Int)) rfl)
          exact trivial
        case hFt =>
          exact M2.out.drew
        case hinit =>
          exact ⟨fun x => O2.out, trivial⟩
        case prest =>
          intro i hi j hj hc x w1 w2 hF hE hW
          exfalso
          revert hc
          simp only [List.mem_cons, List.mem_nil_iff, or_false] at hi hj
          rcases hi with rfl | rfl <;> rcases hj with rfl | rfl | rfl <;> decide
        case fint =>
          rintro x w1 hF ⟨hO, -⟩
          replace hF := hF rfl
          go_wp2_with fail
          go_meet
          refine ⟨hF, ?_⟩
          have e : d.fpic o = { o with long := true, pic := d.pic % 32768 } := by simp [Dv.fpic, hp, hl]
          rw [e]
          exact hO
  case rest =>
    obtain ⟨hM, hO⟩ := hcut
    clear M O
    generalize d.fpic d.base = o at *
    have M := Lib.hid hM
    have O := Lib.hid hO
    have c6 := hM.is.cell 6
    simp [Dv.cells] at c6
    clear hM hO
    go_upto_if 36 with (fail)
    clear c6
    go_cut [] (fun wx => Fit3 w db ob rb d wx ∧ Is wx ob 31 (d.ftl0 o).cells)
    case first =>
      cases hp : d.hasTl0
      · go_wp2_with fail
        go_meet
        have e : d.ftl0 o = o := by simp [Dv.ftl0, hp]
        rw [e]
        exact ⟨M.out, O.out⟩
      · have c7 := M.out.is.cell 7
        simp [Dv.cells] at c7
        have e7 := O.out.cell 7
        simp [Dv.cells] at e7
        have f7 := O.out.free 7
        go_wp2_with fail
        go_meet
        have e : d.ftl0 o = { o with tl0 := d.tl0 } := by simp [Dv.ftl0, hp]
        rw [e]
        exact ⟨M.out.put HD.out HR.out hwo 7 _, out_put O.out 7 (.int .u8 (d.tl0 : Nat)) rfl⟩
    case rest =>
      obtain ⟨hM, hO⟩ := hcut
      clear M O
      generalize d.ftl0 o = o at *
      have M := Lib.hid hM
      have O := Lib.hid hO
      have c8 := hM.is.cell 8
      simp [Dv.cells] at c8
      clear hM hO
      go_upto_if 41 with (fail)
      clear c8
      go_cut [] (fun wx => Fit3 w db ob rb d wx ∧ Is wx ob 31 (d.ftid o).cells)
      case first =>
        have M2 := M
        have O2 := O
        clear M O
        cases hp : d.hasTid
        · go_wp2_with fail
          go_meet
          have e : d.ftid o = o := by simp [Dv.ftid, hp]
          rw [e]
          exact ⟨M2.out, O2.out⟩
        · have ea := u8_and3 d.tid hf.tid
          go_upto_region 8 with (fail)
          refine wp_region_posts [[], [0], [1, 0], [], [3], [0, 1, 2], [5, 2, 0, 1], [0, 1, 2, 3, 4, 5, 6], [7, 4, 6, 0, 1, 2, 3, 5]] [6, 8] [9, 6, 8] [[], [], [], [], [], [], [9], [], [6, 9]] [[], [], [], [], [], [], [9], [], [6]] [8] [] [] [9]
              [some ?vk0, some ?vk1, some ?vk2, some ?vk3, some ?vk4, some ?vk5, none, some ?vk7, none]
              ?Tk (fun w' => Fit3 w db ob rb d w') ?Wk ?Ek (by kernel_rfl) (by kernel_rfl) (by kernel_rfl) (fun x => ?hTk) ?hFk ?hinik (Reg.all_ops ?runsk) ?presk ?fink
          case Wk => exact fun j x w' => match j with | 9 => Is w' ob 31 o.cells | 6 => Is w' ob 31 (Dv.cells { o with tid := d.tid % 4 }) | 8 => Is w' ob 31 (Dv.cells { o with tid := d.tid % 4, sync := d.sync }) | _ => True
          case Ek => exact fun _ _ _ => True
          case hTk =>
            simp only [Reg.fillV, Act.put, List.setIfInBounds_toArray, List.set_cons_zero, List.set_cons_succ]
            rfl
          case runsk =>
            refine And.intro ?_ ?_
            · refine Reg.ob_pure (fun _ => rfl) rfl rfl rfl rfl (fun x w1 hF => ?_)
              have c9 := hF.is.cell 9
              have c10 := hF.is.cell 10
              simp [Dv.cells] at c9 c10
              go_simp
              with_reducible rfl
            refine And.intro ?_ ?_
            · refine Reg.ob_pure (fun _ => rfl) rfl rfl rfl rfl (fun x w1 hF => ?_)
              have c9 := hF.is.cell 9
              have c10 := hF.is.cell 10
              simp [Dv.cells] at c9 c10
              go_simp
              with_reducible rfl
            refine And.intro ?_ ?_
            · refine Reg.ob_pure (fun _ => rfl) rfl rfl rfl rfl (fun x w1 hF => ?_)
              have c9 := hF.is.cell 9
              have c10 := hF.is.cell 10
              simp [Dv.cells] at c9 c10
              go_simp
              with_reducible rfl
            refine And.intro ?_ ?_
            · refine Reg.ob_pure (fun _ => rfl) rfl rfl rfl rfl (fun x w1 hF => ?_)
              have c9 := hF.is.cell 9
              have c10 := hF.is.cell 10
              simp [Dv.cells] at c9 c10
              go_simp
              with_reducible rfl
            refine And.intro ?_ ?_
            · refine Reg.ob_pure (fun _ => rfl) rfl rfl rfl rfl (fun x w1 hF => ?_)
              have c9 := hF.is.cell 9
              have c10 := hF.is.cell 10
              simp [Dv.cells] at c9 c10
              go_simp
              with_reducible rfl
            refine And.intro ?_ ?_
            · refine Reg.ob_pure (fun _ => rfl) rfl rfl rfl rfl (fun x w1 hF => ?_)
              have c9 := hF.is.cell 9
              have c10 := hF.is.cell 10
              simp [Dv.cells] at c9 c10
              go_simp
              with_reducible rfl
            refine And.intro ?_ ?_
            · refine Reg.ob_some (fun _ => rfl) rfl (fun x w1 hF hU K hK => ?_)
              obtain ⟨hO, -⟩ := hU
              have hO : Is w1 ob 31 o.cells := hO
              have c9 := hO.cell 9
              simp [Dv.cells] at c9
              have f9 := hO.free 9
              go_simp
              exact hK undef _ (fun _ _ _ => (hF rfl).put HD.out HR.out hwo 9 _) trivial (out_put hO 9 (.int .u8 ((d.tid % 4 : Nat) : Int)) rfl)
            refine And.intro ?_ ?_
            · refine Reg.ob_pure (fun _ => rfl) rfl rfl rfl rfl (fun x w1 hF => ?_)
              have c9 := hF.is.cell 9
              have c10 := hF.is.cell 10
              simp [Dv.cells] at c9 c10
              go_simp
              with_reducible rfl
            refine And.intro ?_ ?_
            · refine Reg.ob_some (fun _ => rfl) rfl (fun x w1 hF hU K hK => ?_)
              obtain ⟨hO, -⟩ := hU
              have hO : Is w1 ob 31 (Dv.cells { o with tid := d.tid % 4 }) := hO
              have c10 := hO.cell 10
              simp [Dv.cells] at c10
              have f10 := hO.free 10
              go_simp
              exact hK undef _ (fun _ _ _ => (hF rfl).put HD.out HR.out hwo 10 _) trivial (out_put hO 10 (.bool d.sync) rfl)
            exact trivial
          case hFk =>
            exact M2.out.drew
          case hinik =>
            exact ⟨fun x => O2.out, trivial⟩
          case presk =>
            intro i hi j hj hc x w1 w2 hF hE hW
            exfalso
            revert hc
            simp only [List.mem_cons, List.mem_nil_iff, or_false] at hi hj
            rcases hi with rfl | rfl <;> rcases hj with rfl | rfl | rfl <;> decide
          case fink =>
            rintro x w1 hF ⟨hO, -⟩
            replace hF := hF rfl
            go_wp2_with fail
            go_meet
            refine ⟨hF, ?_⟩
            have e : d.ftid o = { o with tid := d.tid % 4, sync := d.sync } := by simp [Dv.ftid, hp]
            rw [e]
            exact hO
      case rest =>
        obtain ⟨hM, hO⟩ := hcut
        clear M O
        generalize d.ftid o = o at *
        have M := Lib.hid hM
        have O := Lib.hid hO
        have c11 := hM.is.cell 11
        simp [Dv.cells] at c11
        clear hM hO
        go_upto_if 50 with (fail)
        clear c11
        go_cut [] (fun wx => Fit3 w db ob rb d wx ∧ Is wx ob 31 (d.fkey o).cells)
        case first =>
          cases hp : d.hasKey
          · go_wp2_with fail
            go_meet
            have e : d.fkey o = o := by simp [Dv.fkey, hp]
            rw [e]
            exact ⟨M.out, O.out⟩
          · have c12 := M.out.is.cell 12
            simp [Dv.cells] at c12
            have e12 := O.out.cell 12
            simp [Dv.cells] at e12
            have f12 := O.out.free 12
            have ea := u8_and31 d.key hf.key
            go_wp2_with fail
            go_meet
            have e : d.fkey o = { o with key := d.key % 32 } := by simp [Dv.fkey, hp]
            rw [e]
            exact ⟨M.out.put HD.out HR.out hwo 12 _, out_put O.out 12 (.int .u8 ((d.key % 32 : Nat) : Int)) rfl⟩
        case rest =>
          obtain ⟨hM, hO⟩ := hcut
          clear M O
          generalize d.fkey o = o at *
          have M := Lib.hid hM
          have O := Lib.hid hO
          have HNE := Lib.hid HR.out
          clear hM hO
          go_wp2_with (first | (refine wpList_load_want (o := ⟨some 55, _, _, _, _, _⟩) rfl _ _ rfl ob rfl _ _ _ O.out Try.underlying31 rfl Try.sizeDesc ?_) | (refine wpList_store_is (o := ⟨none, _, _, _, _, _⟩) rfl 31 _ _ rfl rb _ rfl rfl 31 Dv.zero.cells M.out.ans Try.sizeDesc rfl (Dv.one _) ?_; intro w9 hi9 ho9))
          refine bodyPost_ret (results_cell_row Try.results33 _ w9 rb 31 _ (0, 0) _ rfl hi9 Try.underlying31 rfl Try.sizeDesc) rfl ?_
          rw [HQ.out]
          exact ⟨rfl, M.out.pure.trans ho9 (fun i hi e => by omega)⟩
end Go.Proofs.Ytneogagainllnaa
