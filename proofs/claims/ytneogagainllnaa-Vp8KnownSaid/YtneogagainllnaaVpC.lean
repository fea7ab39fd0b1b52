/- visitedMore, by any visitor of these two. Conditions: as each says. -/
import Derived.Test.YtneogagainllnaaVpB
set_option linter.unusedVariables false
namespace Go.Proofs.Ytneogagainllnaa
open Go.RowKit

section
variable {σ : Type} (V : Vis σ)
def Vis.more1 (d : Dv) (s : σ) : Dv × σ :=
  if d.hasPic then ({ d with long := V.fl s d.long, pic := V.nm (V.fs s d.long) d.pic (if V.fl s d.long then 15 else 7) }, V.ns (V.fs s d.long) d.pic (if V.fl s d.long then 15 else 7)) else (d, s)
def Vis.more2 (d : Dv) (s : σ) : Dv × σ := if d.hasTl0 then ({ d with tl0 := V.nm s d.tl0 8 % 256 }, V.ns s d.tl0 8) else (d, s)
def Vis.more3 (d : Dv) (s : σ) : Dv × σ :=
  if d.hasTid then ({ d with tid := V.nm s d.tid 2 % 256, sync := V.fl (V.ns s d.tid 2) d.sync }, V.fs (V.ns s d.tid 2) d.sync) else (d, V.rs s 3)
def Vis.more4 (d : Dv) (s : σ) : Dv × σ := if d.hasKey then ({ d with key := V.nm s d.key 5 % 256 }, V.ns s d.key 5) else (d, V.rs s 5)
def Vis.more (d : Dv) (s : σ) : Dv × σ :=
  let x := V.more2 (V.more1 d s).1 (V.more1 d s).2
  if !x.1.hasTid && !x.1.hasKey then x else V.more4 (V.more3 x.1 x.2).1 (V.more3 x.1 x.2).2
end

theorem Try.sizeDesc : (Try.prog.info? 31).map (·.size) = some 13 := by kernel_rfl
theorem Dv.one (d : Dv) : d.cells.all (·.oneCell') = true := by simp [Dv.cells, Value.oneCell']

set_option maxHeartbeats 400000 in
theorem pic_digits (x : Bool) (w : World) : Calls Try.prog 39 #[.bool x] w fun e w' => e = .returned (.int .i64 ((if x then 15 else 7 : Nat) : Int)) ∧ w = w' := by
  cases x
  · go_enter Try.func39, Try.ntmps39
    go_wp2
    go_ret
    exact ⟨rfl, rfl⟩
  · go_enter Try.func39, Try.ntmps39
    go_wp2
    go_ret
    exact ⟨rfl, rfl⟩

/-- Amid visitedMore: the descriptor's block, that of the answer, the visitor, and what has become of memory. -/
structure Mid {σ : Type} (St : World → σ → Prop) (B db rb : Nat) (w : World) (d : Dv) (s : σ) (wx : World) : Prop where
  is : Is wx db 31 d.cells
  ans : Is wx rb 31 Dv.zero.cells
  st : St wx s
  gone : Gone B w wx
theorem Gone.own {B c : Nat} {w w1 w2 : World} (h : Gone B w w1) (ho : Only (fun k => k = c) w1 w2) (hB : B ≤ c) (hc : w.heap.size ≤ c) : Gone B w w2 :=
  ⟨h.1.trans ho (fun i _ e => by rw [e]; exact hB), fun g cs hg => (h.2 g cs hg).only ho (fun e => by have := hg.lt; omega)⟩
theorem Mid.go {σ : Type} {St : World → σ → Prop} {B db rb : Nat} {w wx wy : World} {d : Dv} {s s' : σ} (h : Mid St B db rb w d s wx) (hs : St wy s') (hg : Gone B wx wy) : Mid St B db rb w d s' wy :=
  ⟨hg.2 _ _ h.is, hg.2 _ _ h.ans, hs, h.gone.trans hg⟩
theorem Mid.put {σ : Type} {ff fn fr : FuncId} {rx : Value} {B db rb : Nat} {V : Vis σ} {room : σ → Nat → Prop} {St : World → σ → Prop} {w wx : World} {d d' : Dv} {s : σ} (hv : Visitor ff fn fr rx B V room St) (h : Mid St B db rb w d s wx) (hne : db ≠ rb) (hB : B ≤ db) (hw : w.heap.size ≤ db) (i : Nat) (v : Value) (hd : d.cells.setIfInBounds i v = d'.cells) :
    Mid St B db rb w d' s (wx.setCell ⟨db, i, none⟩ v) := by
  have ho : Only (fun k => k = db) wx (wx.setCell ⟨db, i, none⟩ v) := Only.set (S := fun k => k = db) (p := ⟨db, i, none⟩) (Only.refl _ wx) (fun _ => rfl) v
  exact ⟨by rw [← hd]; exact h.is.put i v, h.ans.only ho (fun e => hne e.symm), hv.far _ _ _ _ _ h.st h.is ho, h.gone.own ho hB hw⟩
theorem Mid.drew {σ : Type} {ff fn fr : FuncId} {rx : Value} {B db rb : Nat} {V : Vis σ} {room : σ → Nat → Prop} {St : World → σ → Prop} {w wx : World} {d : Dv} {s : σ} (h : Mid St B db rb w d s wx) (hv : Visitor ff fn fr rx B V room St) : Mid St B db rb w d s wx.drew := ⟨h.is, h.ans, hv.drew _ _ h.st, h.gone.drew⟩
theorem mod_u8 (x : Nat) : ((x : Int) % 256) = ((x % 256 : Nat) : Int) := by omega

set_option maxRecDepth 100000 in
set_option maxHeartbeats 4000000 in
theorem more_taker {σ : Type} {B : Nat} {V : Vis σ} {room : σ → Nat → Prop} {St : World → σ → Prop} (b : Nat) (hv : Visitor 60 61 62 (.agg #[ptr b]) B V room St) (d : Dv) (w : World) (s : σ) (h : St w s) (hr : room s 8) (hB : B ≤ w.heap.size) (hf : d.Fit) :
    Calls Try.prog 35 #[d.val, .iface 56 (.agg #[ptr b])] w fun e w' => e = .returned (V.more d s).1.val ∧ St w' (V.more d s).2 ∧ Gone B w w' := by
  have m1 : ∀ w, (method 200 56 (.agg #[ptr b]) "easel/vp8.flag").run Try.prog w = .ok (60, .agg #[ptr b]) w := fun _ => by kernel_rfl
  have m2 : ∀ w, (method 200 56 (.agg #[ptr b]) "easel/vp8.number").run Try.prog w = .ok (61, .agg #[ptr b]) w := fun _ => by kernel_rfl
  have m3 : ∀ w, (method 200 56 (.agg #[ptr b]) "easel/vp8.reserved").run Try.prog w = .ok (62, .agg #[ptr b]) w := fun _ => by kernel_rfl
  have m4 : ∀ w, (nilAhead 200 56 (.agg #[ptr b]) "easel/vp8.number").run Try.prog w = .ok (some false) w := fun _ => by kernel_rfl
  simp only [Dv.val]
  go_enter Try.func35, Try.ntmps35
  go_upto_region 1 with (fail)
  obtain ⟨db, hdb⟩ : ∃ db, w.heap.size = db := ⟨_, rfl⟩
  obtain ⟨rb, hrb⟩ : ∃ rb, w.heap.size + 1 = rb := ⟨_, rfl⟩
  generalize hw0 : World.alloc _ _ = w0
  have M0 := Lib.hid (show Mid St B db rb w d s w0 from by
    have g1 : Is ((w.alloc (.cells d.cells 31)).alloc (.cells Dv.zero.cells 31)) w.heap.size 31 d.cells := (Is.made w _ _).alloc _
    have g2 : Is ((w.alloc (.cells d.cells 31)).alloc (.cells Dv.zero.cells 31)) (w.heap.size + 1) 31 Dv.zero.cells := by
      have := Is.made (w.alloc (.cells d.cells 31)) 31 Dv.zero.cells
      simpa using this
    rw [← hw0, ← hdb, ← hrb]
    exact ⟨g1, g2, hv.alloc _ _ _ (hv.alloc _ _ _ h), (Gone.alloc B w _).trans (Gone.alloc B _ _)⟩)
  clear hw0
  rw [hrb, hdb]
  have hne : db ≠ rb := by omega
  have hBd : B ≤ db := by omega
  have hwd : w.heap.size ≤ db := by omega
  have hBrb : B ≤ rb := by omega
  have hwrb : w.heap.size ≤ rb := by omega
  have HNE := Lib.hid hne
  clear hdb hrb hne h
  -- the number of the picture
  have c3 := M0.out.is.cell 3
  simp [Dv.cells] at c3
  go_upto_if 6 with (fail)
  clear c3
  go_cut [] (fun wx => Mid St B db rb w (V.more1 d s).1 (V.more1 d s).2 wx ∧ room (V.more1 d s).2 6 ∧ (V.more1 d s).1.Fit)
  case first =>
    cases hp : d.hasPic
    · go_wp2_with fail
      go_meet
      have e : V.more1 d s = (d, s) := by simp [Vis.more1, hp]
      rw [e]
      exact ⟨M0.out, hv.roomd _ _ (hv.roomd _ _ hr), hf⟩
    · have c4 := M0.out.is.cell 4
      simp [Dv.cells] at c4
      go_wp2_with fail
      refine (hv.flag _ s d.long M0.out.st (hv.room1 _ _ hr)).mono ?_
      rintro e w1 ⟨rfl, hs1, hg1⟩
      have M1 := Lib.hid (M0.out.go hs1 hg1)
      have hr1 := hv.roomf s d.long _ hr
      have HE := Lib.hid (show V.more1 d s = ({ d with long := V.fl s d.long, pic := V.nm (V.fs s d.long) d.pic (if V.fl s d.long then 15 else 7) }, V.ns (V.fs s d.long) d.pic (if V.fl s d.long then 15 else 7)) from by simp [Vis.more1, hp])
      clear hs1 hg1 c4 hp
      generalize V.fl s d.long = l at *
      generalize V.fs s d.long = s1 at *
      have c4 := M1.out.is.cell 4
      simp [Dv.cells] at c4
      have f4 := M1.out.is.free 4
      go_upto_region 3 with (fail)
      clear c4 f4
      generalize hw2 : World.setCell _ _ _ = w2
      have M2 := Lib.hid (show Mid St B db rb w { d with long := l } s1 w2 from by rw [← hw2]; exact M1.out.put hv HNE.out hBd hwd 4 (.bool l) rfl)
      clear hw2
      have hkd : (if l then 15 else 7 : Nat) ≤ 16 := by split <;> omega
      have HPD := Lib.hid (fun w => pic_digits l w)
      generalize (if l then 15 else 7 : Nat) = kd at *
      have hpic := hf.pic
      have hr2 := hv.roomn s1 d.pic kd _ hkd hr1
      have hfit := hv.fits s1 d.pic kd hpic hkd
      refine wp_region_posts [[], [], [1], [], [3], [4, 3], [0], [6, 0], [0, 6, 7], [8, 2, 5, 0, 6, 7, 1, 4, 3], [0, 1, 2, 3, 4, 5, 6, 7, 8, 9], [10, 9, 0, 1, 2, 3, 4, 5, 6, 7, 8]] [9, 11] [9, 11] [[], [], [], [], [], [], [], [], [], [], [], [9]] [[], [], [], [], [], [], [], [], [], [], [], [9]] [11] [9, 11] [10, 11] []
          [some ?v0, some ?v1, some ?v2, some ?v3, some ?v4, some (.int .i64 (kd : Int)), some ?v6, some ?v7, some ?v8, none, some ?v10, none]
          ?T (fun w' => Mid St B db rb w { d with long := l } s1 w') ?W ?E (by kernel_rfl) (by kernel_rfl) (by kernel_rfl) (fun x => ?hT) ?hF ?hini (Reg.all_ops ?runs) ?pres ?fin
      case W => exact fun j x w' => match j with | 9 => x 9 = .int .u16 (V.nm s1 d.pic kd : Nat) ∧ Mid St B db rb w { d with long := l } (V.ns s1 d.pic kd) w' | 11 => Mid St B db rb w { d with long := l, pic := V.nm s1 d.pic kd } (V.ns s1 d.pic kd) w' | _ => True
      case E => exact fun _ _ _ => True
      case hT =>
        simp only [Reg.fillV, Act.put, List.setIfInBounds_toArray, List.set_cons_zero, List.set_cons_succ]
        rfl
      case runs =>
        refine And.intro ?_ ?_
        · refine Reg.ob_pure (fun _ => rfl) rfl rfl rfl rfl (fun x w1 hF => ?_)
          have c5 := hF.is.cell 5
          have c4 := hF.is.cell 4
          simp [Dv.cells] at c4 c5
          go_simp
          with_reducible rfl
        refine And.intro ?_ ?_
        · refine Reg.ob_pure (fun _ => rfl) rfl rfl rfl rfl (fun x w1 hF => ?_)
          have c5 := hF.is.cell 5
          have c4 := hF.is.cell 4
          simp [Dv.cells] at c4 c5
          go_simp
          with_reducible rfl
        refine And.intro ?_ ?_
        · refine Reg.ob_pure (fun _ => rfl) rfl rfl rfl rfl (fun x w1 hF => ?_)
          have c5 := hF.is.cell 5
          have c4 := hF.is.cell 4
          simp [Dv.cells] at c4 c5
          go_simp
          with_reducible rfl
        refine And.intro ?_ ?_
        · refine Reg.ob_pure (fun _ => rfl) rfl rfl rfl rfl (fun x w1 hF => ?_)
          have c5 := hF.is.cell 5
          have c4 := hF.is.cell 4
          simp [Dv.cells] at c4 c5
          go_simp
          with_reducible rfl
        refine And.intro ?_ ?_
        · refine Reg.ob_pure (fun _ => rfl) rfl rfl rfl rfl (fun x w1 hF => ?_)
          have c5 := hF.is.cell 5
          have c4 := hF.is.cell 4
          simp [Dv.cells] at c4 c5
          go_simp
          with_reducible rfl
        refine And.intro ?_ ?_
        · refine Reg.ob_known (fun _ => rfl) rfl rfl (fun x w1 hF hU K hK => ?_)
          have c5 := (hF rfl).is.cell 5
          have c4 := (hF rfl).is.cell 4
          simp [Dv.cells] at c4 c5
          go_simp
          refine (HPD.out _).mono ?_
          rintro e w3 ⟨rfl, rfl⟩
          exact hK _ (fun h => by cases h) rfl
        refine And.intro ?_ ?_
        · refine Reg.ob_pure (fun _ => rfl) rfl rfl rfl rfl (fun x w1 hF => ?_)
          have c5 := hF.is.cell 5
          have c4 := hF.is.cell 4
          simp [Dv.cells] at c4 c5
          go_simp
          with_reducible rfl
        refine And.intro ?_ ?_
        · refine Reg.ob_pure (fun _ => rfl) rfl rfl rfl rfl (fun x w1 hF => ?_)
          have c5 := hF.is.cell 5
          have c4 := hF.is.cell 4
          simp [Dv.cells] at c4 c5
          go_simp
          with_reducible rfl
        refine And.intro ?_ ?_
        · refine Reg.ob_pure (fun _ => rfl) rfl rfl rfl rfl (fun x w1 hF => ?_)
          have c5 := hF.is.cell 5
          have c4 := hF.is.cell 4
          simp [Dv.cells] at c4 c5
          go_simp
          with_reducible rfl
        refine And.intro ?_ ?_
        · refine Reg.ob_some (fun _ => rfl) rfl (fun x w1 hF hU K hK => ?_)
          go_simp
          refine (hv.number _ s1 d.pic kd (hF rfl).st (hv.room1 _ _ hr1) hpic hkd).mono ?_
          rintro e w3 ⟨rfl, hs3, hg3⟩
          exact hK _ w3 (fun _ h _ => absurd h (by decide)) trivial ⟨rfl, (hF rfl).go hs3 hg3⟩
        refine And.intro ?_ ?_
        · refine Reg.ob_bare (fun _ => rfl) rfl rfl rfl (fun x w1 => ?_)
          go_simp
          with_reducible rfl
        refine And.intro ?_ ?_
        · refine Reg.ob_some (fun _ => rfl) rfl (fun x w1 hF hU K hK => ?_)
          obtain ⟨⟨h9, hM⟩, -⟩ := hU
          have h9 : x 9 = .int .u16 (V.nm s1 d.pic kd : Nat) := h9
          have c5 := hM.is.cell 5
          simp [Dv.cells] at c5
          have f5 := hM.is.free 5
          rw [h9] at hK ⊢
          go_simp
          exact hK undef _ (fun _ h _ => absurd h (by decide)) trivial (hM.put hv HNE.out hBd hwd 5 (.int .u16 (V.nm s1 d.pic kd : Nat)) rfl)
        exact trivial
      case hF =>
        exact M2.out.drew hv
      case hini =>
        exact trivial
      case pres =>
        intro i hi j hj hc x w1 w2 hF hE hW
        exfalso
        revert hc
        simp only [List.mem_cons, List.mem_nil_iff, or_false] at hi hj
        rcases hi with rfl | rfl <;> rcases hj with rfl | rfl <;> decide
      case fin =>
        rintro x w1 - ⟨hM, -⟩
        go_wp2_with fail
        go_meet
        rw [HE.out]
        exact ⟨hM, hr2, hf.part, hfit, hf.tl0, hf.tid, hf.key⟩
  case rest =>
    obtain ⟨hm, hr, hf⟩ := hcut
    have HEQ := Lib.hid (show V.more d s = (if !(V.more2 (V.more1 d s).1 (V.more1 d s).2).1.hasTid && !(V.more2 (V.more1 d s).1 (V.more1 d s).2).1.hasKey then V.more2 (V.more1 d s).1 (V.more1 d s).2 else V.more4 (V.more3 (V.more2 (V.more1 d s).1 (V.more1 d s).2).1 (V.more2 (V.more1 d s).1 (V.more1 d s).2).2).1 (V.more3 (V.more2 (V.more1 d s).1 (V.more1 d s).2).1 (V.more2 (V.more1 d s).1 (V.more1 d s).2).2).2) from rfl)
    clear M0
    generalize (V.more1 d s).1 = d1 at *
    generalize (V.more1 d s).2 = s1 at *
    have M0 := Lib.hid hm
    clear hm
    -- the base's number
    have c6 := M0.out.is.cell 6
    simp [Dv.cells] at c6
    go_upto_if 24 with (fail)
    clear c6
    go_cut [] (fun wx => Mid St B db rb w (V.more2 d1 s1).1 (V.more2 d1 s1).2 wx ∧ room (V.more2 d1 s1).2 5)
    case first =>
      cases hp : d1.hasTl0
      · go_wp2_with fail
        go_meet
        have e : V.more2 d1 s1 = (d1, s1) := by simp [Vis.more2, hp]
        rw [e]
        exact ⟨M0.out, hv.roomd _ _ hr⟩
      · have c7 := M0.out.is.cell 7
        simp [Dv.cells] at c7
        have htl := hf.tl0
        have HE := Lib.hid (show V.more2 d1 s1 = ({ d1 with tl0 := V.nm s1 d1.tl0 8 % 256 }, V.ns s1 d1.tl0 8) from by simp [Vis.more2, hp])
        clear hp
        go_wp2_with fail
        refine (hv.number _ s1 d1.tl0 8 M0.out.st (hv.room1 _ _ hr) (by omega) (by omega)).mono ?_
        rintro e w1 ⟨rfl, hs1, hg1⟩
        have M1 := Lib.hid (M0.out.go hs1 hg1)
        have hr1 := hv.roomn s1 d1.tl0 8 _ (by omega) hr
        have hx := hv.fits s1 d1.tl0 8 (by omega) (by omega)
        clear hs1 hg1 c7
        have c7 := M1.out.is.cell 7
        simp [Dv.cells] at c7
        have f7 := M1.out.is.free 7
        generalize hX : V.nm s1 d1.tl0 8 = x at *
        go_wp2_with fail
        go_meet
        rw [HE.out]
        exact ⟨M1.out.put hv HNE.out hBd hwd 7 (.int .u8 ((x % 256 : Nat) : Int)) rfl, hr1⟩
    case rest =>
      obtain ⟨hm, hr⟩ := hcut
      clear M0
      have hf2 : (V.more2 d1 s1).1.tid < 256 ∧ (V.more2 d1 s1).1.key < 256 := by
        unfold Vis.more2
        split
        · exact ⟨hf.tid, hf.key⟩
        · exact ⟨hf.tid, hf.key⟩
      obtain ⟨ht, hk⟩ := hf2
      generalize V.more2 d1 s1 = x2 at *
      obtain ⟨d2, s2⟩ := x2
      have hm : Mid St B db rb w d2 s2 wc := hm
      have hr : room s2 5 := hr
      have ht : d2.tid < 256 := ht
      have hk : d2.key < 256 := hk
      have M0 := Lib.hid hm
      clear hm hf
      have c8 := M0.out.is.cell 8
      simp [Dv.cells] at c8
      have c11 := M0.out.is.cell 11
      simp [Dv.cells] at c11
      have hBr : B ≤ rb := hBrb
      have hwr : w.heap.size ≤ rb := hwrb
      cases h8 : d2.hasTid
      · rw [h8] at c8
        cases h11 : d2.hasKey
        · rw [h11] at c11
          have HE := Lib.hid (show V.more d s = (d2, s2) from by rw [HEQ.out]; simp [h8, h11])
          have HMID := M0
          go_upto_region 7 with (fail)
          have hi3 := Lib.hid (HMID.out.ans)
          clear c8 c11
          go_wp2_with (first | (refine wpList_load_want (o := ⟨some 40, _, _, _, _, _⟩) rfl _ _ rfl db rfl _ _ _ HMID.out.is Try.underlying31 rfl Try.sizeDesc ?_) | (refine wpList_store_is (o := ⟨none, _, _, _, _, _⟩) rfl 31 _ _ rfl rb _ rfl rfl 31 Dv.zero.cells HMID.out.ans Try.sizeDesc rfl (Dv.one _) ?_; intro w9 hi9 ho9))
          refine bodyPost_ret (results_cell_row Try.results35 _ w9 rb 31 _ (0, 0) _ rfl hi9 Try.underlying31 rfl Try.sizeDesc) rfl ?_
          rw [HE.out]
          exact ⟨rfl, hv.far _ _ _ _ _ HMID.out.st HMID.out.ans ho9, HMID.out.gone.own ho9 hBr hwr⟩
        · rw [h11] at c11
          have HE := Lib.hid (show V.more d s = ({ d2 with key := V.nm (V.rs s2 3) d2.key 5 % 256 }, V.ns (V.rs s2 3) d2.key 5) from by rw [HEQ.out]; simp [h8, h11, Vis.more3, Vis.more4])
          go_wp2_with fail
          refine (hv.reserved _ s2 3 M0.out.st (hv.room1 _ _ hr) (by omega)).mono ?_
          rintro e w1 ⟨rfl, hs1, hg1⟩
          have M1 := Lib.hid (M0.out.go hs1 hg1)
          have hr1 := hv.roomr s2 3 _ (by omega) hr
          clear hs1 hg1 c8 c11
          generalize V.rs s2 3 = s3 at *
          have c8 := M1.out.is.cell 12
          simp [Dv.cells] at c8
          have c11 := M1.out.is.cell 11
          simp [Dv.cells] at c11
          rw [h11] at c11
          go_wp2_with fail
          refine (hv.number _ s3 d2.key 5 M1.out.st (hv.room1 _ _ hr1) (by omega) (by omega)).mono ?_
          rintro e w2 ⟨rfl, hs2, hg2⟩
          have M2 := Lib.hid (M1.out.go hs2 hg2)
          have hx := hv.fits s3 d2.key 5 (by omega) (by omega)
          clear hs2 hg2 c8 c11
          have c8 := M2.out.is.cell 12
          simp [Dv.cells] at c8
          have c11 := M2.out.is.free 12
          generalize V.nm s3 d2.key 5 = x at *
          go_upto_region 15 with (fail)
          generalize hw3 : World.setCell _ _ _ = w3
          have HMID := Lib.hid (show Mid St B db rb w { d2 with key := x % 256 } (V.ns s3 d2.key 5) w3 from by rw [← hw3]; exact M2.out.put hv HNE.out hBd hwd 12 (.int .u8 ((x % 256 : Nat) : Int)) rfl)
          clear hw3
          have hi3 := Lib.hid (HMID.out.ans)
          clear c8 c11
          go_wp2_with (first | (refine wpList_load_want (o := ⟨some 68, _, _, _, _, _⟩) rfl _ _ rfl db rfl _ _ _ HMID.out.is Try.underlying31 rfl Try.sizeDesc ?_) | (refine wpList_store_is (o := ⟨none, _, _, _, _, _⟩) rfl 31 _ _ rfl rb _ rfl rfl 31 Dv.zero.cells HMID.out.ans Try.sizeDesc rfl (Dv.one _) ?_; intro w9 hi9 ho9))
          refine bodyPost_ret (results_cell_row Try.results35 _ w9 rb 31 _ (0, 0) _ rfl hi9 Try.underlying31 rfl Try.sizeDesc) rfl ?_
          rw [HE.out]
          exact ⟨rfl, hv.far _ _ _ _ _ HMID.out.st HMID.out.ans ho9, HMID.out.gone.own ho9 hBr hwr⟩
      · rw [h8] at c8
        have c9 := M0.out.is.cell 9
        simp [Dv.cells] at c9
        have HE3 := Lib.hid (show V.more3 d2 s2 = ({ d2 with tid := V.nm s2 d2.tid 2 % 256, sync := V.fl (V.ns s2 d2.tid 2) d2.sync }, V.fs (V.ns s2 d2.tid 2) d2.sync) from by simp [Vis.more3, h8])
        have HE4 := Lib.hid (show V.more d s = V.more4 (V.more3 d2 s2).1 (V.more3 d2 s2).2 from by rw [HEQ.out]; simp [h8])
        go_wp2_with fail
        refine (hv.number _ s2 d2.tid 2 M0.out.st (hv.room1 _ _ hr) (by omega) (by omega)).mono ?_
        rintro e w1 ⟨rfl, hs1, hg1⟩
        have M1 := Lib.hid (M0.out.go hs1 hg1)
        have hr1 := hv.roomn s2 d2.tid 2 _ (by omega) hr
        have hx := hv.fits s2 d2.tid 2 (by omega) (by omega)
        clear hs1 hg1 c8 c11 c9
        generalize V.nm s2 d2.tid 2 = x at *
        generalize V.ns s2 d2.tid 2 = s3 at *
        have c9 := M1.out.is.cell 9
        simp [Dv.cells] at c9
        have f9 := M1.out.is.free 9
        go_upto_region 10 with (fail)
        clear c9 f9
        generalize hw2 : World.setCell _ _ _ = w2
        have M2 := Lib.hid (show Mid St B db rb w { d2 with tid := x % 256 } s3 w2 from by rw [← hw2]; exact M1.out.put hv HNE.out hBd hwd 9 (.int .u8 ((x % 256 : Nat) : Int)) rfl)
        clear hw2
        have c10 := M2.out.is.cell 10
        simp [Dv.cells] at c10
        go_wp2_with fail
        refine (hv.flag _ s3 d2.sync M2.out.st (hv.room1 _ _ hr1)).mono ?_
        rintro e w3 ⟨rfl, hs3, hg3⟩
        have M3 := Lib.hid (M2.out.go hs3 hg3)
        have hr3 := hv.roomf s3 d2.sync _ hr1
        clear hs3 hg3 c10
        have c10 := M3.out.is.cell 10
        simp [Dv.cells] at c10
        have f10 := M3.out.is.free 10
        generalize V.fl s3 d2.sync = y at *
        generalize V.fs s3 d2.sync = s4 at *
        go_upto_region 12 with (fail)
        clear c10 f10
        generalize hw4 : World.setCell _ _ _ = w4
        have M4 := Lib.hid (show Mid St B db rb w { d2 with tid := x % 256, sync := y } s4 w4 from by rw [← hw4]; exact M3.out.put hv HNE.out hBd hwd 10 (.bool y) rfl)
        clear hw4
        rw [HE3.out] at HE4
        have c11 := M4.out.is.cell 11
        simp [Dv.cells] at c11
        cases h11 : d2.hasKey
        · rw [h11] at c11
          have HE := Lib.hid (show V.more d s = ({ d2 with tid := x % 256, sync := y }, V.rs s4 5) from by rw [HE4.out]; simp [Vis.more4, h11])
          go_wp2_with fail
          refine (hv.reserved _ s4 5 M4.out.st (hv.room1 _ _ hr3) (by omega)).mono ?_
          rintro e w5 ⟨rfl, hs5, hg5⟩
          have HMID := Lib.hid (M4.out.go hs5 hg5)
          clear hs5 hg5 c11
          have c8 := hx
          have c11 := hx
          have hi3 := Lib.hid (HMID.out.ans)
          clear c8 c11
          go_wp2_with (first | (refine wpList_load_want (o := ⟨some 68, _, _, _, _, _⟩) rfl _ _ rfl db rfl _ _ _ HMID.out.is Try.underlying31 rfl Try.sizeDesc ?_) | (refine wpList_store_is (o := ⟨none, _, _, _, _, _⟩) rfl 31 _ _ rfl rb _ rfl rfl 31 Dv.zero.cells HMID.out.ans Try.sizeDesc rfl (Dv.one _) ?_; intro w9 hi9 ho9))
          refine bodyPost_ret (results_cell_row Try.results35 _ w9 rb 31 _ (0, 0) _ rfl hi9 Try.underlying31 rfl Try.sizeDesc) rfl ?_
          rw [HE.out]
          exact ⟨rfl, hv.far _ _ _ _ _ HMID.out.st HMID.out.ans ho9, HMID.out.gone.own ho9 hBr hwr⟩
        · rw [h11] at c11
          have HE := Lib.hid (show V.more d s = ({ d2 with tid := x % 256, sync := y, key := V.nm s4 d2.key 5 % 256 }, V.ns s4 d2.key 5) from by rw [HE4.out]; simp [Vis.more4, h11])
          have c12 := M4.out.is.cell 12
          simp [Dv.cells] at c12
          go_wp2_with fail
          refine (hv.number _ s4 d2.key 5 M4.out.st (hv.room1 _ _ hr3) (by omega) (by omega)).mono ?_
          rintro e w5 ⟨rfl, hs5, hg5⟩
          have M5 := Lib.hid (M4.out.go hs5 hg5)
          have hz := hv.fits s4 d2.key 5 (by omega) (by omega)
          clear hs5 hg5 c12 c11
          have c8 := M5.out.is.cell 12
          simp [Dv.cells] at c8
          have c11 := M5.out.is.free 12
          generalize V.nm s4 d2.key 5 = z at *
          go_upto_region 15 with (fail)
          generalize hw6 : World.setCell _ _ _ = w6
          have HMID := Lib.hid (show Mid St B db rb w { d2 with tid := x % 256, sync := y, key := z % 256 } (V.ns s4 d2.key 5) w6 from by rw [← hw6]; exact M5.out.put hv HNE.out hBd hwd 12 (.int .u8 ((z % 256 : Nat) : Int)) rfl)
          clear hw6
          have hi3 := Lib.hid (HMID.out.ans)
          clear c8 c11
          go_wp2_with (first | (refine wpList_load_want (o := ⟨some 68, _, _, _, _, _⟩) rfl _ _ rfl db rfl _ _ _ HMID.out.is Try.underlying31 rfl Try.sizeDesc ?_) | (refine wpList_store_is (o := ⟨none, _, _, _, _, _⟩) rfl 31 _ _ rfl rb _ rfl rfl 31 Dv.zero.cells HMID.out.ans Try.sizeDesc rfl (Dv.one _) ?_; intro w9 hi9 ho9))
          refine bodyPost_ret (results_cell_row Try.results35 _ w9 rb 31 _ (0, 0) _ rfl hi9 Try.underlying31 rfl Try.sizeDesc) rfl ?_
          rw [HE.out]
          exact ⟨rfl, hv.far _ _ _ _ _ HMID.out.st HMID.out.ans ho9, HMID.out.gone.own ho9 hBr hwr⟩
set_option maxRecDepth 100000 in
set_option maxHeartbeats 4000000 in
theorem more_putter {σ : Type} {B : Nat} {V : Vis σ} {room : σ → Nat → Prop} {St : World → σ → Prop} (b : Nat) (hv : Visitor 66 67 68 (.agg #[ptr b]) B V room St) (d : Dv) (w : World) (s : σ) (h : St w s) (hr : room s 8) (hB : B ≤ w.heap.size) (hf : d.Fit) :
    Calls Try.prog 35 #[d.val, .iface 63 (.agg #[ptr b])] w fun e w' => e = .returned (V.more d s).1.val ∧ St w' (V.more d s).2 ∧ Gone B w w' := by
  have m1 : ∀ w, (method 200 63 (.agg #[ptr b]) "easel/vp8.flag").run Try.prog w = .ok (66, .agg #[ptr b]) w := fun _ => by kernel_rfl
  have m2 : ∀ w, (method 200 63 (.agg #[ptr b]) "easel/vp8.number").run Try.prog w = .ok (67, .agg #[ptr b]) w := fun _ => by kernel_rfl
  have m3 : ∀ w, (method 200 63 (.agg #[ptr b]) "easel/vp8.reserved").run Try.prog w = .ok (68, .agg #[ptr b]) w := fun _ => by kernel_rfl
  have m4 : ∀ w, (nilAhead 200 63 (.agg #[ptr b]) "easel/vp8.number").run Try.prog w = .ok (some false) w := fun _ => by kernel_rfl
  simp only [Dv.val]
  go_enter Try.func35, Try.ntmps35
  go_upto_region 1 with (fail)
  obtain ⟨db, hdb⟩ : ∃ db, w.heap.size = db := ⟨_, rfl⟩
  obtain ⟨rb, hrb⟩ : ∃ rb, w.heap.size + 1 = rb := ⟨_, rfl⟩
  generalize hw0 : World.alloc _ _ = w0
  have M0 := Lib.hid (show Mid St B db rb w d s w0 from by
    have g1 : Is ((w.alloc (.cells d.cells 31)).alloc (.cells Dv.zero.cells 31)) w.heap.size 31 d.cells := (Is.made w _ _).alloc _
    have g2 : Is ((w.alloc (.cells d.cells 31)).alloc (.cells Dv.zero.cells 31)) (w.heap.size + 1) 31 Dv.zero.cells := by
      have := Is.made (w.alloc (.cells d.cells 31)) 31 Dv.zero.cells
      simpa using this
    rw [← hw0, ← hdb, ← hrb]
    exact ⟨g1, g2, hv.alloc _ _ _ (hv.alloc _ _ _ h), (Gone.alloc B w _).trans (Gone.alloc B _ _)⟩)
  clear hw0
  rw [hrb, hdb]
  have hne : db ≠ rb := by omega
  have hBd : B ≤ db := by omega
  have hwd : w.heap.size ≤ db := by omega
  have hBrb : B ≤ rb := by omega
  have hwrb : w.heap.size ≤ rb := by omega
  have HNE := Lib.hid hne
  clear hdb hrb hne h
  -- the number of the picture
  have c3 := M0.out.is.cell 3
  simp [Dv.cells] at c3
  go_upto_if 6 with (fail)
  clear c3
  go_cut [] (fun wx => Mid St B db rb w (V.more1 d s).1 (V.more1 d s).2 wx ∧ room (V.more1 d s).2 6 ∧ (V.more1 d s).1.Fit)
  case first =>
    cases hp : d.hasPic
    · go_wp2_with fail
      go_meet
      have e : V.more1 d s = (d, s) := by simp [Vis.more1, hp]
      rw [e]
      exact ⟨M0.out, hv.roomd _ _ (hv.roomd _ _ hr), hf⟩
    · have c4 := M0.out.is.cell 4
      simp [Dv.cells] at c4
      go_wp2_with fail
      refine (hv.flag _ s d.long M0.out.st (hv.room1 _ _ hr)).mono ?_
      rintro e w1 ⟨rfl, hs1, hg1⟩
      have M1 := Lib.hid (M0.out.go hs1 hg1)
      have hr1 := hv.roomf s d.long _ hr
      have HE := Lib.hid (show V.more1 d s = ({ d with long := V.fl s d.long, pic := V.nm (V.fs s d.long) d.pic (if V.fl s d.long then 15 else 7) }, V.ns (V.fs s d.long) d.pic (if V.fl s d.long then 15 else 7)) from by simp [Vis.more1, hp])
      clear hs1 hg1 c4 hp
      generalize V.fl s d.long = l at *
      generalize V.fs s d.long = s1 at *
      have c4 := M1.out.is.cell 4
      simp [Dv.cells] at c4
      have f4 := M1.out.is.free 4
      go_upto_region 3 with (fail)
      clear c4 f4
      generalize hw2 : World.setCell _ _ _ = w2
      have M2 := Lib.hid (show Mid St B db rb w { d with long := l } s1 w2 from by rw [← hw2]; exact M1.out.put hv HNE.out hBd hwd 4 (.bool l) rfl)
      clear hw2
      have hkd : (if l then 15 else 7 : Nat) ≤ 16 := by split <;> omega
      have HPD := Lib.hid (fun w => pic_digits l w)
      generalize (if l then 15 else 7 : Nat) = kd at *
      have hpic := hf.pic
      have hr2 := hv.roomn s1 d.pic kd _ hkd hr1
      have hfit := hv.fits s1 d.pic kd hpic hkd
      refine wp_region_posts [[], [], [1], [], [3], [4, 3], [0], [6, 0], [0, 6, 7], [8, 2, 5, 0, 6, 7, 1, 4, 3], [0, 1, 2, 3, 4, 5, 6, 7, 8, 9], [10, 9, 0, 1, 2, 3, 4, 5, 6, 7, 8]] [9, 11] [9, 11] [[], [], [], [], [], [], [], [], [], [], [], [9]] [[], [], [], [], [], [], [], [], [], [], [], [9]] [11] [9, 11] [10, 11] []
          [some ?v0, some ?v1, some ?v2, some ?v3, some ?v4, some (.int .i64 (kd : Int)), some ?v6, some ?v7, some ?v8, none, some ?v10, none]
          ?T (fun w' => Mid St B db rb w { d with long := l } s1 w') ?W ?E (by kernel_rfl) (by kernel_rfl) (by kernel_rfl) (fun x => ?hT) ?hF ?hini (Reg.all_ops ?runs) ?pres ?fin
      case W => exact fun j x w' => match j with | 9 => x 9 = .int .u16 (V.nm s1 d.pic kd : Nat) ∧ Mid St B db rb w { d with long := l } (V.ns s1 d.pic kd) w' | 11 => Mid St B db rb w { d with long := l, pic := V.nm s1 d.pic kd } (V.ns s1 d.pic kd) w' | _ => True
      case E => exact fun _ _ _ => True
      case hT =>
        simp only [Reg.fillV, Act.put, List.setIfInBounds_toArray, List.set_cons_zero, List.set_cons_succ]
        rfl
      case runs =>
        refine And.intro ?_ ?_
        · refine Reg.ob_pure (fun _ => rfl) rfl rfl rfl rfl (fun x w1 hF => ?_)
          have c5 := hF.is.cell 5
          have c4 := hF.is.cell 4
          simp [Dv.cells] at c4 c5
          go_simp
          with_reducible rfl
        refine And.intro ?_ ?_
        · refine Reg.ob_pure (fun _ => rfl) rfl rfl rfl rfl (fun x w1 hF => ?_)
          have c5 := hF.is.cell 5
          have c4 := hF.is.cell 4
          simp [Dv.cells] at c4 c5
          go_simp
          with_reducible rfl
        refine And.intro ?_ ?_
        · refine Reg.ob_pure (fun _ => rfl) rfl rfl rfl rfl (fun x w1 hF => ?_)
          have c5 := hF.is.cell 5
          have c4 := hF.is.cell 4
          simp [Dv.cells] at c4 c5
          go_simp
          with_reducible rfl
        refine And.intro ?_ ?_
        · refine Reg.ob_pure (fun _ => rfl) rfl rfl rfl rfl (fun x w1 hF => ?_)
          have c5 := hF.is.cell 5
          have c4 := hF.is.cell 4
          simp [Dv.cells] at c4 c5
          go_simp
          with_reducible rfl
        refine And.intro ?_ ?_
        · refine Reg.ob_pure (fun _ => rfl) rfl rfl rfl rfl (fun x w1 hF => ?_)
          have c5 := hF.is.cell 5
          have c4 := hF.is.cell 4
          simp [Dv.cells] at c4 c5
          go_simp
          with_reducible rfl
        refine And.intro ?_ ?_
        · refine Reg.ob_known (fun _ => rfl) rfl rfl (fun x w1 hF hU K hK => ?_)
          have c5 := (hF rfl).is.cell 5
          have c4 := (hF rfl).is.cell 4
          simp [Dv.cells] at c4 c5
          go_simp
          refine (HPD.out _).mono ?_
          rintro e w3 ⟨rfl, rfl⟩
          exact hK _ (fun h => by cases h) rfl
        refine And.intro ?_ ?_
        · refine Reg.ob_pure (fun _ => rfl) rfl rfl rfl rfl (fun x w1 hF => ?_)
          have c5 := hF.is.cell 5
          have c4 := hF.is.cell 4
          simp [Dv.cells] at c4 c5
          go_simp
          with_reducible rfl
        refine And.intro ?_ ?_
        · refine Reg.ob_pure (fun _ => rfl) rfl rfl rfl rfl (fun x w1 hF => ?_)
          have c5 := hF.is.cell 5
          have c4 := hF.is.cell 4
          simp [Dv.cells] at c4 c5
          go_simp
          with_reducible rfl
        refine And.intro ?_ ?_
        · refine Reg.ob_pure (fun _ => rfl) rfl rfl rfl rfl (fun x w1 hF => ?_)
          have c5 := hF.is.cell 5
          have c4 := hF.is.cell 4
          simp [Dv.cells] at c4 c5
          go_simp
          with_reducible rfl
        refine And.intro ?_ ?_
        · refine Reg.ob_some (fun _ => rfl) rfl (fun x w1 hF hU K hK => ?_)
          go_simp
          refine (hv.number _ s1 d.pic kd (hF rfl).st (hv.room1 _ _ hr1) hpic hkd).mono ?_
          rintro e w3 ⟨rfl, hs3, hg3⟩
          exact hK _ w3 (fun _ h _ => absurd h (by decide)) trivial ⟨rfl, (hF rfl).go hs3 hg3⟩
        refine And.intro ?_ ?_
        · refine Reg.ob_bare (fun _ => rfl) rfl rfl rfl (fun x w1 => ?_)
          go_simp
          with_reducible rfl
        refine And.intro ?_ ?_
        · refine Reg.ob_some (fun _ => rfl) rfl (fun x w1 hF hU K hK => ?_)
          obtain ⟨⟨h9, hM⟩, -⟩ := hU
          have h9 : x 9 = .int .u16 (V.nm s1 d.pic kd : Nat) := h9
          have c5 := hM.is.cell 5
          simp [Dv.cells] at c5
          have f5 := hM.is.free 5
          rw [h9] at hK ⊢
          go_simp
          exact hK undef _ (fun _ h _ => absurd h (by decide)) trivial (hM.put hv HNE.out hBd hwd 5 (.int .u16 (V.nm s1 d.pic kd : Nat)) rfl)
        exact trivial
      case hF =>
        exact M2.out.drew hv
      case hini =>
        exact trivial
      case pres =>
        intro i hi j hj hc x w1 w2 hF hE hW
        exfalso
        revert hc
        simp only [List.mem_cons, List.mem_nil_iff, or_false] at hi hj
        rcases hi with rfl | rfl <;> rcases hj with rfl | rfl <;> decide
      case fin =>
        rintro x w1 - ⟨hM, -⟩
        go_wp2_with fail
        go_meet
        rw [HE.out]
        exact ⟨hM, hr2, hf.part, hfit, hf.tl0, hf.tid, hf.key⟩
  case rest =>
    obtain ⟨hm, hr, hf⟩ := hcut
    have HEQ := Lib.hid (show V.more d s = (if !(V.more2 (V.more1 d s).1 (V.more1 d s).2).1.hasTid && !(V.more2 (V.more1 d s).1 (V.more1 d s).2).1.hasKey then V.more2 (V.more1 d s).1 (V.more1 d s).2 else V.more4 (V.more3 (V.more2 (V.more1 d s).1 (V.more1 d s).2).1 (V.more2 (V.more1 d s).1 (V.more1 d s).2).2).1 (V.more3 (V.more2 (V.more1 d s).1 (V.more1 d s).2).1 (V.more2 (V.more1 d s).1 (V.more1 d s).2).2).2) from rfl)
    clear M0
    generalize (V.more1 d s).1 = d1 at *
    generalize (V.more1 d s).2 = s1 at *
    have M0 := Lib.hid hm
    clear hm
    -- the base's number
    have c6 := M0.out.is.cell 6
    simp [Dv.cells] at c6
    go_upto_if 24 with (fail)
    clear c6
    go_cut [] (fun wx => Mid St B db rb w (V.more2 d1 s1).1 (V.more2 d1 s1).2 wx ∧ room (V.more2 d1 s1).2 5)
    case first =>
      cases hp : d1.hasTl0
      · go_wp2_with fail
        go_meet
        have e : V.more2 d1 s1 = (d1, s1) := by simp [Vis.more2, hp]
        rw [e]
        exact ⟨M0.out, hv.roomd _ _ hr⟩
      · have c7 := M0.out.is.cell 7
        simp [Dv.cells] at c7
        have htl := hf.tl0
        have HE := Lib.hid (show V.more2 d1 s1 = ({ d1 with tl0 := V.nm s1 d1.tl0 8 % 256 }, V.ns s1 d1.tl0 8) from by simp [Vis.more2, hp])
        clear hp
        go_wp2_with fail
        refine (hv.number _ s1 d1.tl0 8 M0.out.st (hv.room1 _ _ hr) (by omega) (by omega)).mono ?_
        rintro e w1 ⟨rfl, hs1, hg1⟩
        have M1 := Lib.hid (M0.out.go hs1 hg1)
        have hr1 := hv.roomn s1 d1.tl0 8 _ (by omega) hr
        have hx := hv.fits s1 d1.tl0 8 (by omega) (by omega)
        clear hs1 hg1 c7
        have c7 := M1.out.is.cell 7
        simp [Dv.cells] at c7
        have f7 := M1.out.is.free 7
        generalize hX : V.nm s1 d1.tl0 8 = x at *
        go_wp2_with fail
        go_meet
        rw [HE.out]
        exact ⟨M1.out.put hv HNE.out hBd hwd 7 (.int .u8 ((x % 256 : Nat) : Int)) rfl, hr1⟩
    case rest =>
      obtain ⟨hm, hr⟩ := hcut
      clear M0
      have hf2 : (V.more2 d1 s1).1.tid < 256 ∧ (V.more2 d1 s1).1.key < 256 := by
        unfold Vis.more2
        split
        · exact ⟨hf.tid, hf.key⟩
        · exact ⟨hf.tid, hf.key⟩
      obtain ⟨ht, hk⟩ := hf2
      generalize V.more2 d1 s1 = x2 at *
      obtain ⟨d2, s2⟩ := x2
      have hm : Mid St B db rb w d2 s2 wc := hm
      have hr : room s2 5 := hr
      have ht : d2.tid < 256 := ht
      have hk : d2.key < 256 := hk
      have M0 := Lib.hid hm
      clear hm hf
      have c8 := M0.out.is.cell 8
      simp [Dv.cells] at c8
      have c11 := M0.out.is.cell 11
      simp [Dv.cells] at c11
      have hBr : B ≤ rb := hBrb
      have hwr : w.heap.size ≤ rb := hwrb
      cases h8 : d2.hasTid
      · rw [h8] at c8
        cases h11 : d2.hasKey
        · rw [h11] at c11
          have HE := Lib.hid (show V.more d s = (d2, s2) from by rw [HEQ.out]; simp [h8, h11])
          have HMID := M0
          go_upto_region 7 with (fail)
          have hi3 := Lib.hid (HMID.out.ans)
          clear c8 c11
          go_wp2_with (first | (refine wpList_load_want (o := ⟨some 40, _, _, _, _, _⟩) rfl _ _ rfl db rfl _ _ _ HMID.out.is Try.underlying31 rfl Try.sizeDesc ?_) | (refine wpList_store_is (o := ⟨none, _, _, _, _, _⟩) rfl 31 _ _ rfl rb _ rfl rfl 31 Dv.zero.cells HMID.out.ans Try.sizeDesc rfl (Dv.one _) ?_; intro w9 hi9 ho9))
          refine bodyPost_ret (results_cell_row Try.results35 _ w9 rb 31 _ (0, 0) _ rfl hi9 Try.underlying31 rfl Try.sizeDesc) rfl ?_
          rw [HE.out]
          exact ⟨rfl, hv.far _ _ _ _ _ HMID.out.st HMID.out.ans ho9, HMID.out.gone.own ho9 hBr hwr⟩
        · rw [h11] at c11
          have HE := Lib.hid (show V.more d s = ({ d2 with key := V.nm (V.rs s2 3) d2.key 5 % 256 }, V.ns (V.rs s2 3) d2.key 5) from by rw [HEQ.out]; simp [h8, h11, Vis.more3, Vis.more4])
          go_wp2_with fail
          refine (hv.reserved _ s2 3 M0.out.st (hv.room1 _ _ hr) (by omega)).mono ?_
          rintro e w1 ⟨rfl, hs1, hg1⟩
          have M1 := Lib.hid (M0.out.go hs1 hg1)
          have hr1 := hv.roomr s2 3 _ (by omega) hr
          clear hs1 hg1 c8 c11
          generalize V.rs s2 3 = s3 at *
          have c8 := M1.out.is.cell 12
          simp [Dv.cells] at c8
          have c11 := M1.out.is.cell 11
          simp [Dv.cells] at c11
          rw [h11] at c11
          go_wp2_with fail
          refine (hv.number _ s3 d2.key 5 M1.out.st (hv.room1 _ _ hr1) (by omega) (by omega)).mono ?_
          rintro e w2 ⟨rfl, hs2, hg2⟩
          have M2 := Lib.hid (M1.out.go hs2 hg2)
          have hx := hv.fits s3 d2.key 5 (by omega) (by omega)
          clear hs2 hg2 c8 c11
          have c8 := M2.out.is.cell 12
          simp [Dv.cells] at c8
          have c11 := M2.out.is.free 12
          generalize V.nm s3 d2.key 5 = x at *
          go_upto_region 15 with (fail)
          generalize hw3 : World.setCell _ _ _ = w3
          have HMID := Lib.hid (show Mid St B db rb w { d2 with key := x % 256 } (V.ns s3 d2.key 5) w3 from by rw [← hw3]; exact M2.out.put hv HNE.out hBd hwd 12 (.int .u8 ((x % 256 : Nat) : Int)) rfl)
          clear hw3
          have hi3 := Lib.hid (HMID.out.ans)
          clear c8 c11
          go_wp2_with (first | (refine wpList_load_want (o := ⟨some 68, _, _, _, _, _⟩) rfl _ _ rfl db rfl _ _ _ HMID.out.is Try.underlying31 rfl Try.sizeDesc ?_) | (refine wpList_store_is (o := ⟨none, _, _, _, _, _⟩) rfl 31 _ _ rfl rb _ rfl rfl 31 Dv.zero.cells HMID.out.ans Try.sizeDesc rfl (Dv.one _) ?_; intro w9 hi9 ho9))
          refine bodyPost_ret (results_cell_row Try.results35 _ w9 rb 31 _ (0, 0) _ rfl hi9 Try.underlying31 rfl Try.sizeDesc) rfl ?_
          rw [HE.out]
          exact ⟨rfl, hv.far _ _ _ _ _ HMID.out.st HMID.out.ans ho9, HMID.out.gone.own ho9 hBr hwr⟩
      · rw [h8] at c8
        have c9 := M0.out.is.cell 9
        simp [Dv.cells] at c9
        have HE3 := Lib.hid (show V.more3 d2 s2 = ({ d2 with tid := V.nm s2 d2.tid 2 % 256, sync := V.fl (V.ns s2 d2.tid 2) d2.sync }, V.fs (V.ns s2 d2.tid 2) d2.sync) from by simp [Vis.more3, h8])
        have HE4 := Lib.hid (show V.more d s = V.more4 (V.more3 d2 s2).1 (V.more3 d2 s2).2 from by rw [HEQ.out]; simp [h8])
        go_wp2_with fail
        refine (hv.number _ s2 d2.tid 2 M0.out.st (hv.room1 _ _ hr) (by omega) (by omega)).mono ?_
        rintro e w1 ⟨rfl, hs1, hg1⟩
        have M1 := Lib.hid (M0.out.go hs1 hg1)
        have hr1 := hv.roomn s2 d2.tid 2 _ (by omega) hr
        have hx := hv.fits s2 d2.tid 2 (by omega) (by omega)
        clear hs1 hg1 c8 c11 c9
        generalize V.nm s2 d2.tid 2 = x at *
        generalize V.ns s2 d2.tid 2 = s3 at *
        have c9 := M1.out.is.cell 9
        simp [Dv.cells] at c9
        have f9 := M1.out.is.free 9
        go_upto_region 10 with (fail)
        clear c9 f9
        generalize hw2 : World.setCell _ _ _ = w2
        have M2 := Lib.hid (show Mid St B db rb w { d2 with tid := x % 256 } s3 w2 from by rw [← hw2]; exact M1.out.put hv HNE.out hBd hwd 9 (.int .u8 ((x % 256 : Nat) : Int)) rfl)
        clear hw2
        have c10 := M2.out.is.cell 10
        simp [Dv.cells] at c10
        go_wp2_with fail
        refine (hv.flag _ s3 d2.sync M2.out.st (hv.room1 _ _ hr1)).mono ?_
        rintro e w3 ⟨rfl, hs3, hg3⟩
        have M3 := Lib.hid (M2.out.go hs3 hg3)
        have hr3 := hv.roomf s3 d2.sync _ hr1
        clear hs3 hg3 c10
        have c10 := M3.out.is.cell 10
        simp [Dv.cells] at c10
        have f10 := M3.out.is.free 10
        generalize V.fl s3 d2.sync = y at *
        generalize V.fs s3 d2.sync = s4 at *
        go_upto_region 12 with (fail)
        clear c10 f10
        generalize hw4 : World.setCell _ _ _ = w4
        have M4 := Lib.hid (show Mid St B db rb w { d2 with tid := x % 256, sync := y } s4 w4 from by rw [← hw4]; exact M3.out.put hv HNE.out hBd hwd 10 (.bool y) rfl)
        clear hw4
        rw [HE3.out] at HE4
        have c11 := M4.out.is.cell 11
        simp [Dv.cells] at c11
        cases h11 : d2.hasKey
        · rw [h11] at c11
          have HE := Lib.hid (show V.more d s = ({ d2 with tid := x % 256, sync := y }, V.rs s4 5) from by rw [HE4.out]; simp [Vis.more4, h11])
          go_wp2_with fail
          refine (hv.reserved _ s4 5 M4.out.st (hv.room1 _ _ hr3) (by omega)).mono ?_
          rintro e w5 ⟨rfl, hs5, hg5⟩
          have HMID := Lib.hid (M4.out.go hs5 hg5)
          clear hs5 hg5 c11
          have c8 := hx
          have c11 := hx
          have hi3 := Lib.hid (HMID.out.ans)
          clear c8 c11
          go_wp2_with (first | (refine wpList_load_want (o := ⟨some 68, _, _, _, _, _⟩) rfl _ _ rfl db rfl _ _ _ HMID.out.is Try.underlying31 rfl Try.sizeDesc ?_) | (refine wpList_store_is (o := ⟨none, _, _, _, _, _⟩) rfl 31 _ _ rfl rb _ rfl rfl 31 Dv.zero.cells HMID.out.ans Try.sizeDesc rfl (Dv.one _) ?_; intro w9 hi9 ho9))
          refine bodyPost_ret (results_cell_row Try.results35 _ w9 rb 31 _ (0, 0) _ rfl hi9 Try.underlying31 rfl Try.sizeDesc) rfl ?_
          rw [HE.out]
          exact ⟨rfl, hv.far _ _ _ _ _ HMID.out.st HMID.out.ans ho9, HMID.out.gone.own ho9 hBr hwr⟩
        · rw [h11] at c11
          have HE := Lib.hid (show V.more d s = ({ d2 with tid := x % 256, sync := y, key := V.nm s4 d2.key 5 % 256 }, V.ns s4 d2.key 5) from by rw [HE4.out]; simp [Vis.more4, h11])
          have c12 := M4.out.is.cell 12
          simp [Dv.cells] at c12
          go_wp2_with fail
          refine (hv.number _ s4 d2.key 5 M4.out.st (hv.room1 _ _ hr3) (by omega) (by omega)).mono ?_
          rintro e w5 ⟨rfl, hs5, hg5⟩
          have M5 := Lib.hid (M4.out.go hs5 hg5)
          have hz := hv.fits s4 d2.key 5 (by omega) (by omega)
          clear hs5 hg5 c12 c11
          have c8 := M5.out.is.cell 12
          simp [Dv.cells] at c8
          have c11 := M5.out.is.free 12
          generalize V.nm s4 d2.key 5 = z at *
          go_upto_region 15 with (fail)
          generalize hw6 : World.setCell _ _ _ = w6
          have HMID := Lib.hid (show Mid St B db rb w { d2 with tid := x % 256, sync := y, key := z % 256 } (V.ns s4 d2.key 5) w6 from by rw [← hw6]; exact M5.out.put hv HNE.out hBd hwd 12 (.int .u8 ((z % 256 : Nat) : Int)) rfl)
          clear hw6
          have hi3 := Lib.hid (HMID.out.ans)
          clear c8 c11
          go_wp2_with (first | (refine wpList_load_want (o := ⟨some 68, _, _, _, _, _⟩) rfl _ _ rfl db rfl _ _ _ HMID.out.is Try.underlying31 rfl Try.sizeDesc ?_) | (refine wpList_store_is (o := ⟨none, _, _, _, _, _⟩) rfl 31 _ _ rfl rb _ rfl rfl 31 Dv.zero.cells HMID.out.ans Try.sizeDesc rfl (Dv.one _) ?_; intro w9 hi9 ho9))
          refine bodyPost_ret (results_cell_row Try.results35 _ w9 rb 31 _ (0, 0) _ rfl hi9 Try.underlying31 rfl Try.sizeDesc) rfl ?_
          rw [HE.out]
          exact ⟨rfl, hv.far _ _ _ _ _ HMID.out.st HMID.out.ans ho9, HMID.out.gone.own ho9 hBr hwr⟩
end Go.Proofs.Ytneogagainllnaa
