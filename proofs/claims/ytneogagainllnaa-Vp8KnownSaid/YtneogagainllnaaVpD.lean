/- visited, by any visitor of these two. Conditions: as each says. -/
import Derived.Test.YtneogagainllnaaVpC
set_option linter.unusedVariables false
namespace Go.Proofs.Ytneogagainllnaa
open Go.RowKit

section
variable {σ : Type} (V : Vis σ)
/-- The first byte's digits: whether there is more, the descriptor, the visitor. -/
def Dv.any (d : Dv) : Bool := d.hasPic || d.hasTl0 || d.hasTid || d.hasKey
def Vis.s1 (d : Dv) (s : σ) : σ := V.rs (V.fs s d.any) 1
def Vis.s2 (d : Dv) (s : σ) : σ := V.fs (V.s1 d s) d.n
def Vis.s3 (d : Dv) (s : σ) : σ := V.rs (V.fs (V.s2 d s) d.start) 1
def Vis.first (d : Dv) (s : σ) : Dv × σ :=
  ({ d with n := V.fl (V.s1 d s) d.n, start := V.fl (V.s2 d s) d.start, part := V.nm (V.s3 d s) d.part 3 % 256 }, V.ns (V.s3 d s) d.part 3)
/-- The second byte's. -/
def Vis.second (d : Dv) (s : σ) : Dv × σ :=
  let a := V.fl s d.hasPic
  let s1 := V.fs s d.hasPic
  let b := V.fl s1 d.hasTl0
  let s2 := V.fs s1 d.hasTl0
  let c := V.fl s2 d.hasTid
  let s3 := V.fs s2 d.hasTid
  let e := V.fl s3 d.hasKey
  let s4 := V.fs s3 d.hasKey
  ({ d with hasPic := a, hasTl0 := b, hasTid := c, hasKey := e }, V.rs s4 4)
def Vis.visit (d : Dv) (s : σ) : Dv × σ :=
  if V.fl s d.any then V.more (V.second (V.first d s).1 (V.first d s).2).1 (V.second (V.first d s).1 (V.first d s).2).2 else V.first d s
end

set_option maxRecDepth 100000 in
set_option maxHeartbeats 4000000 in
theorem visit_taker {σ : Type} {B : Nat} {V : Vis σ} {room : σ → Nat → Prop} {St : World → σ → Prop} (b : Nat) (hv : Visitor 60 61 62 (.agg #[ptr b]) B V room St) (d : Dv) (w : World) (s : σ) (h : St w s) (hr : room s 20) (hB : B ≤ w.heap.size) (hf : d.Fit) :
    Calls Try.prog 26 #[d.val, .iface 56 (.agg #[ptr b])] w fun e w' => e = .returned (V.visit d s).1.val ∧ St w' (V.visit d s).2 ∧ Gone B w w' := by
  have m1 : ∀ w, (method 200 56 (.agg #[ptr b]) "easel/vp8.flag").run Try.prog w = .ok (60, .agg #[ptr b]) w := fun _ => by kernel_rfl
  have m2 : ∀ w, (method 200 56 (.agg #[ptr b]) "easel/vp8.number").run Try.prog w = .ok (61, .agg #[ptr b]) w := fun _ => by kernel_rfl
  have m3 : ∀ w, (method 200 56 (.agg #[ptr b]) "easel/vp8.reserved").run Try.prog w = .ok (62, .agg #[ptr b]) w := fun _ => by kernel_rfl
  simp only [Dv.val]
  go_enter Try.func26, Try.ntmps26
  go_upto_region 1 with (fail)
  obtain ⟨db, hdb⟩ : ∃ db, w.heap.size = db := ⟨_, rfl⟩
  obtain ⟨rb, hrb⟩ : ∃ rb, w.heap.size + 1 = rb := ⟨_, rfl⟩
  generalize hw0 : World.alloc _ _ = w0
  have M0 := Lib.hid (show Mid St B db rb w d s w0 from by
    have g1 : Is ((w.alloc (.cells d.cells 31)).alloc (.cells Dv.zero.cells 31)) w.heap.size 31 d.cells := (Is.made w _ _).alloc _
    have g2 : Is ((w.alloc (.cells d.cells 31)).alloc (.cells Dv.zero.cells 31)) (w.heap.size + 1) 31 Dv.zero.cells := by
      have := Is.made (w.alloc (.cells d.cells 31)) 31 Dv.zero.cells
      simpa using this
    rw [← hw0, ← hdb, ← hrb]
    exact ⟨g1, g2, hv.alloc _ _ _ (hv.alloc _ _ _ h), (Gone.alloc B w _).trans (Gone.alloc B _ _)⟩)
  clear hw0
  rw [hrb, hdb]
  have hne : db ≠ rb := by omega
  have hBd : B ≤ db := by omega
  have hwd : w.heap.size ≤ db := by omega
  have hBrb : B ≤ rb := by omega
  have hwrb : w.heap.size ≤ rb := by omega
  have HNE := Lib.hid hne
  clear hdb hrb hne h
  -- is there more?
  have c3 := M0.out.is.cell 3
  simp [Dv.cells] at c3
  have c6 := M0.out.is.cell 6
  simp [Dv.cells] at c6
  have c8 := M0.out.is.cell 8
  simp [Dv.cells] at c8
  have c11 := M0.out.is.cell 11
  simp [Dv.cells] at c11
  go_cut [5] (fun s5 wx => s5 = .bool (V.fl s d.any) ∧ Mid St B db rb w d (V.fs s d.any) wx)
  case first =>
    have key : ∀ x, d.any = x → ∀ wx, Mid St B db rb w d s wx → Calls Try.prog 60 #[.agg #[ptr b], .bool x] wx fun e w' => e = .returned (.bool (V.fl s d.any)) ∧ Mid St B db rb w d (V.fs s d.any) w' := by
      rintro x rfl wx hm
      refine (hv.flag wx s d.any hm.st (hv.room1 _ _ hr)).mono ?_
      rintro e w' ⟨rfl, h1, h2⟩
      exact ⟨rfl, hm.go h1 h2⟩
    have KEY := Lib.hid key
    clear key
    cases h3 : d.hasPic
    · cases h6 : d.hasTl0
      · cases h8 : d.hasTid
        · cases h11 : d.hasKey
          all_goals
            have hany : d.any = d.hasKey := by simp [Dv.any, h3, h6, h8]
            rw [h11] at hany
            rw [h3] at c3
            rw [h6] at c6
            rw [h8] at c8
            rw [h11] at c11
            have HA := Lib.hid hany
            clear hany
            go_wp2_with fail
            refine (KEY.out _ HA.out _ M0.out).mono ?_
            rintro e w1 ⟨rfl, h1⟩
            have H1 := Lib.hid h1
            clear h1
            go_wp2_with fail
            go_meet
            exact ⟨rfl, H1.out⟩
        · have HA := Lib.hid (show d.any = true from by simp [Dv.any, h3, h6, h8])
          rw [h3] at c3
          rw [h6] at c6
          rw [h8] at c8
          go_wp2_with fail
          refine (KEY.out _ HA.out _ M0.out).mono ?_
          rintro e w1 ⟨rfl, h1⟩
          have H1 := Lib.hid h1
          clear h1
          go_wp2_with fail
          go_meet
          exact ⟨rfl, H1.out⟩
      · have HA := Lib.hid (show d.any = true from by simp [Dv.any, h3, h6])
        rw [h3] at c3
        rw [h6] at c6
        go_wp2_with fail
        refine (KEY.out _ HA.out _ M0.out).mono ?_
        rintro e w1 ⟨rfl, h1⟩
        have H1 := Lib.hid h1
        clear h1
        go_wp2_with fail
        go_meet
        exact ⟨rfl, H1.out⟩
    · have HA := Lib.hid (show d.any = true from by simp [Dv.any, h3])
      rw [h3] at c3
      go_wp2_with fail
      refine (KEY.out _ HA.out _ M0.out).mono ?_
      rintro e w1 ⟨rfl, h1⟩
      have H1 := Lib.hid h1
      clear h1
      go_wp2_with fail
      go_meet
      exact ⟨rfl, H1.out⟩
  case rest =>
    obtain ⟨rfl, hm⟩ := hcut
    have hr1 := hv.roomf s d.any _ hr
    have HV := Lib.hid (show V.visit d s = (if V.fl s d.any then V.more (V.second (V.first d s).1 (V.first d s).2).1 (V.second (V.first d s).1 (V.first d s).2).2 else V.first d s) from rfl)
    have HF := Lib.hid (show V.first d s = ({ d with n := V.fl (V.rs (V.fs s d.any) 1) d.n, start := V.fl (V.fs (V.rs (V.fs s d.any) 1) d.n) d.start, part := V.nm (V.rs (V.fs (V.fs (V.rs (V.fs s d.any) 1) d.n) d.start) 1) d.part 3 % 256 }, V.ns (V.rs (V.fs (V.fs (V.rs (V.fs s d.any) 1) d.n) d.start) 1) d.part 3) from rfl)
    generalize V.fl s d.any = more at *
    generalize V.fs s d.any = sa at *
    have M1 := Lib.hid hm
    clear hm M0 c3 c6 c8 c11 hr
    go_wp2_with fail
    refine (hv.reserved _ sa 1 M1.out.st (hv.room1 _ _ hr1) (by omega)).mono ?_
    rintro e w2 ⟨rfl, hs2, hg2⟩
    have M2 := Lib.hid (M1.out.go hs2 hg2)
    have hr2 := hv.roomr sa 1 _ (by omega) hr1
    clear hs2 hg2
    generalize V.rs sa 1 = sb at *
    have c3 := M2.out.is.cell 0
    simp [Dv.cells] at c3
    go_wp2_with fail
    refine (hv.flag _ sb d.n M2.out.st (hv.room1 _ _ hr2)).mono ?_
    rintro e wa ⟨rfl, hs, hg⟩
    have MA := Lib.hid (M2.out.go hs hg)
    have hr3 := hv.roomf sb d.n _ hr2
    clear hs hg c3
    generalize V.fl sb d.n = yn at *
    generalize V.fs sb d.n = sc at *
    have cc := MA.out.is.cell 0
    simp [Dv.cells] at cc
    have ff := MA.out.is.free 0
    go_upto_region 4 with (fail)
    clear cc ff
    generalize hw3 : World.setCell _ _ _ = w3
    have M3 := Lib.hid (show Mid St B db rb w { d with n := yn } sc w3 from by rw [← hw3]; exact MA.out.put hv HNE.out hBd hwd 0 (.bool yn) rfl)
    clear hw3 MA
    have c4 := M3.out.is.cell 1
    simp [Dv.cells] at c4
    go_wp2_with fail
    refine (hv.flag _ sc d.start M3.out.st (hv.room1 _ _ hr3)).mono ?_
    rintro e wa ⟨rfl, hs, hg⟩
    have MA := Lib.hid (M3.out.go hs hg)
    have hr4 := hv.roomf sc d.start _ hr3
    clear hs hg c4
    generalize V.fl sc d.start = ys at *
    generalize V.fs sc d.start = sd at *
    have cc := MA.out.is.cell 1
    simp [Dv.cells] at cc
    have ff := MA.out.is.free 1
    go_upto_region 5 with (fail)
    clear cc ff
    generalize hw4 : World.setCell _ _ _ = w4
    have M4 := Lib.hid (show Mid St B db rb w { d with n := yn, start := ys } sd w4 from by rw [← hw4]; exact MA.out.put hv HNE.out hBd hwd 1 (.bool ys) rfl)
    clear hw4 MA
    go_wp2_with fail
    refine (hv.reserved _ sd 1 M4.out.st (hv.room1 _ _ hr4) (by omega)).mono ?_
    rintro e w5 ⟨rfl, hs5, hg5⟩
    have M5 := Lib.hid (M4.out.go hs5 hg5)
    have hr5 := hv.roomr sd 1 _ (by omega) hr4
    clear hs5 hg5
    generalize V.rs sd 1 = se at *
    have c2 := M5.out.is.cell 2
    simp [Dv.cells] at c2
    have hpart := hf.part
    go_wp2_with fail
    refine (hv.number _ se d.part 3 M5.out.st (hv.room1 _ _ hr5) (by omega) (by omega)).mono ?_
    rintro e w6 ⟨rfl, hs6, hg6⟩
    have M6 := Lib.hid (M5.out.go hs6 hg6)
    have hr6 := hv.roomn se d.part 3 _ (by omega) hr5
    have hx := hv.fits se d.part 3 (by omega) (by omega)
    clear hs6 hg6 c2
    generalize V.nm se d.part 3 = x at *
    generalize V.ns se d.part 3 = sf at *
    have c2 := M6.out.is.cell 2
    simp [Dv.cells] at c2
    have f2 := M6.out.is.free 2
    go_upto_if 44 with (fail)
    clear c2 f2
    generalize hw7 : World.setCell _ _ _ = w7
    have M7 := Lib.hid (show Mid St B db rb w { d with n := yn, start := ys, part := x % 256 } sf w7 from by rw [← hw7]; exact M6.out.put hv HNE.out hBd hwd 2 (.int .u8 ((x % 256 : Nat) : Int)) rfl)
    clear hw7 M1 M2 M3 M4 M5 M6
    rw [HF.out] at HV
    have hx2 : x % 256 < 256 := by omega
    generalize x % 256 = pt at *
    cases more
    · have HE := Lib.hid (show V.visit d s = ({ d with n := yn, start := ys, part := pt }, sf) from HV.out)
      have HMID := M7
      go_wp2_with (first | (refine wpList_load_want (o := ⟨some 45, _, _, _, _, _⟩) rfl _ _ rfl db rfl _ _ _ HMID.out.is Try.underlying31 rfl Try.sizeDesc ?_) | (refine wpList_store_is (o := ⟨none, _, _, _, _, _⟩) rfl 31 _ _ rfl rb _ rfl rfl 31 Dv.zero.cells HMID.out.ans Try.sizeDesc rfl (Dv.one _) ?_; intro w9 hi9 ho9))
      refine bodyPost_ret (results_cell_row Try.results26 _ w9 rb 31 _ (0, 0) _ rfl hi9 Try.underlying31 rfl Try.sizeDesc) rfl ?_
      rw [HE.out]
      exact ⟨rfl, hv.far _ _ _ _ _ HMID.out.st HMID.out.ans ho9, HMID.out.gone.own ho9 hBrb hwrb⟩
    · have HS := Lib.hid (show ∀ dd : Dv, dd = { d with n := yn, start := ys, part := pt } → V.visit d s = V.more (V.second dd sf).1 (V.second dd sf).2 from by rintro dd rfl; exact HV.out)
      clear HV HF
      obtain ⟨d1, hd1⟩ : ∃ d1 : Dv, d1 = { d with n := yn, start := ys, part := pt } := ⟨_, rfl⟩
      have HS1 := Lib.hid (HS.out d1 hd1)
      have hfit1 : d1.Fit := by rw [hd1]; exact ⟨hx2, hf.pic, hf.tl0, hf.tid, hf.key⟩
      have M := M7
      rw [← hd1] at M
      have HV2 := Lib.hid (show V.second d1 sf = ({ d1 with hasPic := V.fl sf d1.hasPic, hasTl0 := V.fl (V.fs sf d1.hasPic) d1.hasTl0, hasTid := V.fl (V.fs (V.fs sf d1.hasPic) d1.hasTl0) d1.hasTid, hasKey := V.fl (V.fs (V.fs (V.fs sf d1.hasPic) d1.hasTl0) d1.hasTid) d1.hasKey }, V.rs (V.fs (V.fs (V.fs (V.fs sf d1.hasPic) d1.hasTl0) d1.hasTid) d1.hasKey) 4) from rfl)
      clear M7 HS hd1 hf hr1 hr2 hr3 hr4 hr5 hx hx2 hpart
      have cc := M.out.is.cell 3
      simp [Dv.cells] at cc
      go_wp2_with fail
      refine (hv.flag _ sf d1.hasPic M.out.st (hv.room1 _ _ hr6)).mono ?_
      rintro e wa ⟨rfl, hs, hg⟩
      have MA := Lib.hid (M.out.go hs hg)
      have hrb1 := hv.roomf sf d1.hasPic _ hr6
      clear hs hg cc
      generalize V.fl sf d1.hasPic = ya at *
      generalize V.fs sf d1.hasPic = sg at *
      have cc := MA.out.is.cell 3
      simp [Dv.cells] at cc
      have ff := MA.out.is.free 3
      go_upto_region 10 with (fail)
      clear cc ff
      generalize hwb1 : World.setCell _ _ _ = wb1
      have Mb1 := Lib.hid (show Mid St B db rb w { d1 with hasPic := ya } sg wb1 from by rw [← hwb1]; exact MA.out.put hv HNE.out hBd hwd 3 (.bool ya) rfl)
      clear hwb1 MA
      have cc := Mb1.out.is.cell 6
      simp [Dv.cells] at cc
      go_wp2_with fail
      refine (hv.flag _ sg d1.hasTl0 Mb1.out.st (hv.room1 _ _ hrb1)).mono ?_
      rintro e wa ⟨rfl, hs, hg⟩
      have MA := Lib.hid (Mb1.out.go hs hg)
      have hrb2 := hv.roomf sg d1.hasTl0 _ hrb1
      clear hs hg cc
      generalize V.fl sg d1.hasTl0 = yb at *
      generalize V.fs sg d1.hasTl0 = sh at *
      have cc := MA.out.is.cell 6
      simp [Dv.cells] at cc
      have ff := MA.out.is.free 6
      go_upto_region 11 with (fail)
      clear cc ff
      generalize hwb2 : World.setCell _ _ _ = wb2
      have Mb2 := Lib.hid (show Mid St B db rb w { d1 with hasPic := ya, hasTl0 := yb } sh wb2 from by rw [← hwb2]; exact MA.out.put hv HNE.out hBd hwd 6 (.bool yb) rfl)
      clear hwb2 MA
      have cc := Mb2.out.is.cell 8
      simp [Dv.cells] at cc
      go_wp2_with fail
      refine (hv.flag _ sh d1.hasTid Mb2.out.st (hv.room1 _ _ hrb2)).mono ?_
      rintro e wa ⟨rfl, hs, hg⟩
      have MA := Lib.hid (Mb2.out.go hs hg)
      have hrb3 := hv.roomf sh d1.hasTid _ hrb2
      clear hs hg cc
      generalize V.fl sh d1.hasTid = yc at *
      generalize V.fs sh d1.hasTid = si at *
      have cc := MA.out.is.cell 8
      simp [Dv.cells] at cc
      have ff := MA.out.is.free 8
      go_upto_region 12 with (fail)
      clear cc ff
      generalize hwb3 : World.setCell _ _ _ = wb3
      have Mb3 := Lib.hid (show Mid St B db rb w { d1 with hasPic := ya, hasTl0 := yb, hasTid := yc } si wb3 from by rw [← hwb3]; exact MA.out.put hv HNE.out hBd hwd 8 (.bool yc) rfl)
      clear hwb3 MA
      have cc := Mb3.out.is.cell 11
      simp [Dv.cells] at cc
      go_wp2_with fail
      refine (hv.flag _ si d1.hasKey Mb3.out.st (hv.room1 _ _ hrb3)).mono ?_
      rintro e wa ⟨rfl, hs, hg⟩
      have MA := Lib.hid (Mb3.out.go hs hg)
      have hrb4 := hv.roomf si d1.hasKey _ hrb3
      clear hs hg cc
      generalize V.fl si d1.hasKey = yd at *
      generalize V.fs si d1.hasKey = sj at *
      have cc := MA.out.is.cell 11
      simp [Dv.cells] at cc
      have ff := MA.out.is.free 11
      go_upto_region 13 with (fail)
      clear cc ff
      generalize hwb4 : World.setCell _ _ _ = wb4
      have Mb4 := Lib.hid (show Mid St B db rb w { d1 with hasPic := ya, hasTl0 := yb, hasTid := yc, hasKey := yd } sj wb4 from by rw [← hwb4]; exact MA.out.put hv HNE.out hBd hwd 11 (.bool yd) rfl)
      clear hwb4 MA
      go_wp2_with fail
      refine (hv.reserved _ sj 4 Mb4.out.st (hv.room1 _ _ hrb4) (by omega)).mono ?_
      rintro e wc1 ⟨rfl, hs, hg⟩
      have MC := Lib.hid (Mb4.out.go hs hg)
      have hrc := hv.roomr sj 4 _ (by omega) hrb4
      clear hs hg
      generalize V.rs sj 4 = sk at *
      rw [HV2.out] at HS1
      obtain ⟨d2, hd2⟩ : ∃ d2 : Dv, d2 = { d1 with hasPic := ya, hasTl0 := yb, hasTid := yc, hasKey := yd } := ⟨_, rfl⟩
      have HE := Lib.hid (show V.visit d s = V.more d2 sk from by rw [hd2]; exact HS1.out)
      have hfit2 : d2.Fit := by rw [hd2]; exact ⟨hfit1.part, hfit1.pic, hfit1.tl0, hfit1.tid, hfit1.key⟩
      have MD := MC
      rw [← hd2] at MD
      have HMORE := Lib.hid (fun w' (hm : Mid St B db rb w d2 sk w') (hB' : B ≤ w'.heap.size) => more_taker b hv d2 w' sk hm.st (hv.roomd _ _ hrc) hB' hfit2)
      clear M Mb1 Mb2 Mb3 Mb4 MC HS1 HV2 hd2 hfit1 hfit2
      have hsz : B ≤ wc1.heap.size := Nat.le_trans hB MD.out.gone.1.size
      have HONE := Lib.hid ((V.more d2 sk).1.one)
      go_wp2_with (first | (refine wpList_load_want (o := ⟨some 68, _, _, _, _, _⟩) rfl _ _ rfl db rfl _ _ _ MD.out.is Try.underlying31 rfl Try.sizeDesc ?_) | (go_at_call 35; refine (HMORE.out _ MD.out hsz).mono ?_; rintro e w8 ⟨rfl, hs8, hg8⟩; have ME := Lib.hid (MD.out.go hs8 hg8); clear hs8 hg8) | (refine wpList_store_is (o := ⟨none, _, _, _, _, _⟩) rfl 31 _ _ rfl rb (V.more d2 sk).1.cells rfl rfl 31 Dv.zero.cells ME.out.ans Try.sizeDesc rfl HONE.out ?_; intro w9 hi9 ho9))
      refine bodyPost_ret (results_cell_row Try.results26 _ w9 rb 31 _ (0, 0) _ rfl hi9 Try.underlying31 rfl Try.sizeDesc) rfl ?_
      rw [HE.out]
      exact ⟨rfl, hv.far _ _ _ _ _ ME.out.st ME.out.ans ho9, ME.out.gone.own ho9 hBrb hwrb⟩
set_option maxRecDepth 100000 in
set_option maxHeartbeats 4000000 in
theorem visit_putter {σ : Type} {B : Nat} {V : Vis σ} {room : σ → Nat → Prop} {St : World → σ → Prop} (b : Nat) (hv : Visitor 66 67 68 (.agg #[ptr b]) B V room St) (d : Dv) (w : World) (s : σ) (h : St w s) (hr : room s 20) (hB : B ≤ w.heap.size) (hf : d.Fit) :
    Calls Try.prog 26 #[d.val, .iface 63 (.agg #[ptr b])] w fun e w' => e = .returned (V.visit d s).1.val ∧ St w' (V.visit d s).2 ∧ Gone B w w' := by
  have m1 : ∀ w, (method 200 63 (.agg #[ptr b]) "easel/vp8.flag").run Try.prog w = .ok (66, .agg #[ptr b]) w := fun _ => by kernel_rfl
  have m2 : ∀ w, (method 200 63 (.agg #[ptr b]) "easel/vp8.number").run Try.prog w = .ok (67, .agg #[ptr b]) w := fun _ => by kernel_rfl
  have m3 : ∀ w, (method 200 63 (.agg #[ptr b]) "easel/vp8.reserved").run Try.prog w = .ok (68, .agg #[ptr b]) w := fun _ => by kernel_rfl
  simp only [Dv.val]
  go_enter Try.func26, Try.ntmps26
  go_upto_region 1 with (fail)
  obtain ⟨db, hdb⟩ : ∃ db, w.heap.size = db := ⟨_, rfl⟩
  obtain ⟨rb, hrb⟩ : ∃ rb, w.heap.size + 1 = rb := ⟨_, rfl⟩
  generalize hw0 : World.alloc _ _ = w0
  have M0 := Lib.hid (show Mid St B db rb w d s w0 from by
    have g1 : Is ((w.alloc (.cells d.cells 31)).alloc (.cells Dv.zero.cells 31)) w.heap.size 31 d.cells := (Is.made w _ _).alloc _
    have g2 : Is ((w.alloc (.cells d.cells 31)).alloc (.cells Dv.zero.cells 31)) (w.heap.size + 1) 31 Dv.zero.cells := by
      have := Is.made (w.alloc (.cells d.cells 31)) 31 Dv.zero.cells
      simpa using this
    rw [← hw0, ← hdb, ← hrb]
    exact ⟨g1, g2, hv.alloc _ _ _ (hv.alloc _ _ _ h), (Gone.alloc B w _).trans (Gone.alloc B _ _)⟩)
  clear hw0
  rw [hrb, hdb]
  have hne : db ≠ rb := by omega
  have hBd : B ≤ db := by omega
  have hwd : w.heap.size ≤ db := by omega
  have hBrb : B ≤ rb := by omega
  have hwrb : w.heap.size ≤ rb := by omega
  have HNE := Lib.hid hne
  clear hdb hrb hne h
  -- is there more?
  have c3 := M0.out.is.cell 3
  simp [Dv.cells] at c3
  have c6 := M0.out.is.cell 6
  simp [Dv.cells] at c6
  have c8 := M0.out.is.cell 8
  simp [Dv.cells] at c8
  have c11 := M0.out.is.cell 11
  simp [Dv.cells] at c11
  go_cut [5] (fun s5 wx => s5 = .bool (V.fl s d.any) ∧ Mid St B db rb w d (V.fs s d.any) wx)
  case first =>
    have key : ∀ x, d.any = x → ∀ wx, Mid St B db rb w d s wx → Calls Try.prog 66 #[.agg #[ptr b], .bool x] wx fun e w' => e = .returned (.bool (V.fl s d.any)) ∧ Mid St B db rb w d (V.fs s d.any) w' := by
      rintro x rfl wx hm
      refine (hv.flag wx s d.any hm.st (hv.room1 _ _ hr)).mono ?_
      rintro e w' ⟨rfl, h1, h2⟩
      exact ⟨rfl, hm.go h1 h2⟩
    have KEY := Lib.hid key
    clear key
    cases h3 : d.hasPic
    · cases h6 : d.hasTl0
      · cases h8 : d.hasTid
        · cases h11 : d.hasKey
          all_goals
            have hany : d.any = d.hasKey := by simp [Dv.any, h3, h6, h8]
            rw [h11] at hany
            rw [h3] at c3
            rw [h6] at c6
            rw [h8] at c8
            rw [h11] at c11
            have HA := Lib.hid hany
            clear hany
            go_wp2_with fail
            refine (KEY.out _ HA.out _ M0.out).mono ?_
            rintro e w1 ⟨rfl, h1⟩
            have H1 := Lib.hid h1
            clear h1
            go_wp2_with fail
            go_meet
            exact ⟨rfl, H1.out⟩
        · have HA := Lib.hid (show d.any = true from by simp [Dv.any, h3, h6, h8])
          rw [h3] at c3
          rw [h6] at c6
          rw [h8] at c8
          go_wp2_with fail
          refine (KEY.out _ HA.out _ M0.out).mono ?_
          rintro e w1 ⟨rfl, h1⟩
          have H1 := Lib.hid h1
          clear h1
          go_wp2_with fail
          go_meet
          exact ⟨rfl, H1.out⟩
      · have HA := Lib.hid (show d.any = true from by simp [Dv.any, h3, h6])
        rw [h3] at c3
        rw [h6] at c6
        go_wp2_with fail
        refine (KEY.out _ HA.out _ M0.out).mono ?_
        rintro e w1 ⟨rfl, h1⟩
        have H1 := Lib.hid h1
        clear h1
        go_wp2_with fail
        go_meet
        exact ⟨rfl, H1.out⟩
    · have HA := Lib.hid (show d.any = true from by simp [Dv.any, h3])
      rw [h3] at c3
      go_wp2_with fail
      refine (KEY.out _ HA.out _ M0.out).mono ?_
      rintro e w1 ⟨rfl, h1⟩
      have H1 := Lib.hid h1
      clear h1
      go_wp2_with fail
      go_meet
      exact ⟨rfl, H1.out⟩
  case rest =>
    obtain ⟨rfl, hm⟩ := hcut
    have hr1 := hv.roomf s d.any _ hr
    have HV := Lib.hid (show V.visit d s = (if V.fl s d.any then V.more (V.second (V.first d s).1 (V.first d s).2).1 (V.second (V.first d s).1 (V.first d s).2).2 else V.first d s) from rfl)
    have HF := Lib.hid (show V.first d s = ({ d with n := V.fl (V.rs (V.fs s d.any) 1) d.n, start := V.fl (V.fs (V.rs (V.fs s d.any) 1) d.n) d.start, part := V.nm (V.rs (V.fs (V.fs (V.rs (V.fs s d.any) 1) d.n) d.start) 1) d.part 3 % 256 }, V.ns (V.rs (V.fs (V.fs (V.rs (V.fs s d.any) 1) d.n) d.start) 1) d.part 3) from rfl)
    generalize V.fl s d.any = more at *
    generalize V.fs s d.any = sa at *
    have M1 := Lib.hid hm
    clear hm M0 c3 c6 c8 c11 hr
    go_wp2_with fail
    refine (hv.reserved _ sa 1 M1.out.st (hv.room1 _ _ hr1) (by omega)).mono ?_
    rintro e w2 ⟨rfl, hs2, hg2⟩
    have M2 := Lib.hid (M1.out.go hs2 hg2)
    have hr2 := hv.roomr sa 1 _ (by omega) hr1
    clear hs2 hg2
    generalize V.rs sa 1 = sb at *
    have c3 := M2.out.is.cell 0
    simp [Dv.cells] at c3
    go_wp2_with fail
    refine (hv.flag _ sb d.n M2.out.st (hv.room1 _ _ hr2)).mono ?_
    rintro e wa ⟨rfl, hs, hg⟩
    have MA := Lib.hid (M2.out.go hs hg)
    have hr3 := hv.roomf sb d.n _ hr2
    clear hs hg c3
    generalize V.fl sb d.n = yn at *
    generalize V.fs sb d.n = sc at *
    have cc := MA.out.is.cell 0
    simp [Dv.cells] at cc
    have ff := MA.out.is.free 0
    go_upto_region 4 with (fail)
    clear cc ff
    generalize hw3 : World.setCell _ _ _ = w3
    have M3 := Lib.hid (show Mid St B db rb w { d with n := yn } sc w3 from by rw [← hw3]; exact MA.out.put hv HNE.out hBd hwd 0 (.bool yn) rfl)
    clear hw3 MA
    have c4 := M3.out.is.cell 1
    simp [Dv.cells] at c4
    go_wp2_with fail
    refine (hv.flag _ sc d.start M3.out.st (hv.room1 _ _ hr3)).mono ?_
    rintro e wa ⟨rfl, hs, hg⟩
    have MA := Lib.hid (M3.out.go hs hg)
    have hr4 := hv.roomf sc d.start _ hr3
    clear hs hg c4
    generalize V.fl sc d.start = ys at *
    generalize V.fs sc d.start = sd at *
    have cc := MA.out.is.cell 1
    simp [Dv.cells] at cc
    have ff := MA.out.is.free 1
    go_upto_region 5 with (fail)
    clear cc ff
    generalize hw4 : World.setCell _ _ _ = w4
    have M4 := Lib.hid (show Mid St B db rb w { d with n := yn, start := ys } sd w4 from by rw [← hw4]; exact MA.out.put hv HNE.out hBd hwd 1 (.bool ys) rfl)
    clear hw4 MA
    go_wp2_with fail
    refine (hv.reserved _ sd 1 M4.out.st (hv.room1 _ _ hr4) (by omega)).mono ?_
    rintro e w5 ⟨rfl, hs5, hg5⟩
    have M5 := Lib.hid (M4.out.go hs5 hg5)
    have hr5 := hv.roomr sd 1 _ (by omega) hr4
    clear hs5 hg5
    generalize V.rs sd 1 = se at *
    have c2 := M5.out.is.cell 2
    simp [Dv.cells] at c2
    have hpart := hf.part
    go_wp2_with fail
    refine (hv.number _ se d.part 3 M5.out.st (hv.room1 _ _ hr5) (by omega) (by omega)).mono ?_
    rintro e w6 ⟨rfl, hs6, hg6⟩
    have M6 := Lib.hid (M5.out.go hs6 hg6)
    have hr6 := hv.roomn se d.part 3 _ (by omega) hr5
    have hx := hv.fits se d.part 3 (by omega) (by omega)
    clear hs6 hg6 c2
    generalize V.nm se d.part 3 = x at *
    generalize V.ns se d.part 3 = sf at *
    have c2 := M6.out.is.cell 2
    simp [Dv.cells] at c2
    have f2 := M6.out.is.free 2
    go_upto_if 44 with (fail)
    clear c2 f2
    generalize hw7 : World.setCell _ _ _ = w7
    have M7 := Lib.hid (show Mid St B db rb w { d with n := yn, start := ys, part := x % 256 } sf w7 from by rw [← hw7]; exact M6.out.put hv HNE.out hBd hwd 2 (.int .u8 ((x % 256 : Nat) : Int)) rfl)
    clear hw7 M1 M2 M3 M4 M5 M6
    rw [HF.out] at HV
    have hx2 : x % 256 < 256 := by omega
    generalize x % 256 = pt at *
    cases more
    · have HE := Lib.hid (show V.visit d s = ({ d with n := yn, start := ys, part := pt }, sf) from HV.out)
      have HMID := M7
      go_wp2_with (first | (refine wpList_load_want (o := ⟨some 45, _, _, _, _, _⟩) rfl _ _ rfl db rfl _ _ _ HMID.out.is Try.underlying31 rfl Try.sizeDesc ?_) | (refine wpList_store_is (o := ⟨none, _, _, _, _, _⟩) rfl 31 _ _ rfl rb _ rfl rfl 31 Dv.zero.cells HMID.out.ans Try.sizeDesc rfl (Dv.one _) ?_; intro w9 hi9 ho9))
      refine bodyPost_ret (results_cell_row Try.results26 _ w9 rb 31 _ (0, 0) _ rfl hi9 Try.underlying31 rfl Try.sizeDesc) rfl ?_
      rw [HE.out]
      exact ⟨rfl, hv.far _ _ _ _ _ HMID.out.st HMID.out.ans ho9, HMID.out.gone.own ho9 hBrb hwrb⟩
    · have HS := Lib.hid (show ∀ dd : Dv, dd = { d with n := yn, start := ys, part := pt } → V.visit d s = V.more (V.second dd sf).1 (V.second dd sf).2 from by rintro dd rfl; exact HV.out)
      clear HV HF
      obtain ⟨d1, hd1⟩ : ∃ d1 : Dv, d1 = { d with n := yn, start := ys, part := pt } := ⟨_, rfl⟩
      have HS1 := Lib.hid (HS.out d1 hd1)
      have hfit1 : d1.Fit := by rw [hd1]; exact ⟨hx2, hf.pic, hf.tl0, hf.tid, hf.key⟩
      have M := M7
      rw [← hd1] at M
      have HV2 := Lib.hid (show V.second d1 sf = ({ d1 with hasPic := V.fl sf d1.hasPic, hasTl0 := V.fl (V.fs sf d1.hasPic) d1.hasTl0, hasTid := V.fl (V.fs (V.fs sf d1.hasPic) d1.hasTl0) d1.hasTid, hasKey := V.fl (V.fs (V.fs (V.fs sf d1.hasPic) d1.hasTl0) d1.hasTid) d1.hasKey }, V.rs (V.fs (V.fs (V.fs (V.fs sf d1.hasPic) d1.hasTl0) d1.hasTid) d1.hasKey) 4) from rfl)
      clear M7 HS hd1 hf hr1 hr2 hr3 hr4 hr5 hx hx2 hpart
      have cc := M.out.is.cell 3
      simp [Dv.cells] at cc
      go_wp2_with fail
      refine (hv.flag _ sf d1.hasPic M.out.st (hv.room1 _ _ hr6)).mono ?_
      rintro e wa ⟨rfl, hs, hg⟩
      have MA := Lib.hid (M.out.go hs hg)
      have hrb1 := hv.roomf sf d1.hasPic _ hr6
      clear hs hg cc
      generalize V.fl sf d1.hasPic = ya at *
      generalize V.fs sf d1.hasPic = sg at *
      have cc := MA.out.is.cell 3
      simp [Dv.cells] at cc
      have ff := MA.out.is.free 3
      go_upto_region 10 with (fail)
      clear cc ff
      generalize hwb1 : World.setCell _ _ _ = wb1
      have Mb1 := Lib.hid (show Mid St B db rb w { d1 with hasPic := ya } sg wb1 from by rw [← hwb1]; exact MA.out.put hv HNE.out hBd hwd 3 (.bool ya) rfl)
      clear hwb1 MA
      have cc := Mb1.out.is.cell 6
      simp [Dv.cells] at cc
      go_wp2_with fail
      refine (hv.flag _ sg d1.hasTl0 Mb1.out.st (hv.room1 _ _ hrb1)).mono ?_
      rintro e wa ⟨rfl, hs, hg⟩
      have MA := Lib.hid (Mb1.out.go hs hg)
      have hrb2 := hv.roomf sg d1.hasTl0 _ hrb1
      clear hs hg cc
      generalize V.fl sg d1.hasTl0 = yb at *
      generalize V.fs sg d1.hasTl0 = sh at *
      have cc := MA.out.is.cell 6
      simp [Dv.cells] at cc
      have ff := MA.out.is.free 6
      go_upto_region 11 with (fail)
      clear cc ff
      generalize hwb2 : World.setCell _ _ _ = wb2
      have Mb2 := Lib.hid (show Mid St B db rb w { d1 with hasPic := ya, hasTl0 := yb } sh wb2 from by rw [← hwb2]; exact MA.out.put hv HNE.out hBd hwd 6 (.bool yb) rfl)
      clear hwb2 MA
      have cc := Mb2.out.is.cell 8
      simp [Dv.cells] at cc
      go_wp2_with fail
      refine (hv.flag _ sh d1.hasTid Mb2.out.st (hv.room1 _ _ hrb2)).mono ?_
      rintro e wa ⟨rfl, hs, hg⟩
      have MA := Lib.hid (Mb2.out.go hs hg)
      have hrb3 := hv.roomf sh d1.hasTid _ hrb2
      clear hs hg cc
      generalize V.fl sh d1.hasTid = yc at *
      generalize V.fs sh d1.hasTid = si at *
      have cc := MA.out.is.cell 8
      simp [Dv.cells] at cc
      have ff := MA.out.is.free 8
      go_upto_region 12 with (fail)
      clear cc ff
      generalize hwb3 : World.setCell _ _ _ = wb3
      have Mb3 := Lib.hid (show Mid St B db rb w { d1 with hasPic := ya, hasTl0 := yb, hasTid := yc } si wb3 from by rw [← hwb3]; exact MA.out.put hv HNE.out hBd hwd 8 (.bool yc) rfl)
      clear hwb3 MA
      have cc := Mb3.out.is.cell 11
      simp [Dv.cells] at cc
      go_wp2_with fail
      refine (hv.flag _ si d1.hasKey Mb3.out.st (hv.room1 _ _ hrb3)).mono ?_
      rintro e wa ⟨rfl, hs, hg⟩
      have MA := Lib.hid (Mb3.out.go hs hg)
      have hrb4 := hv.roomf si d1.hasKey _ hrb3
      clear hs hg cc
      generalize V.fl si d1.hasKey = yd at *
      generalize V.fs si d1.hasKey = sj at *
      have cc := MA.out.is.cell 11
      simp [Dv.cells] at cc
      have ff := MA.out.is.free 11
      go_upto_region 13 with (fail)
      clear cc ff
      generalize hwb4 : World.setCell _ _ _ = wb4
      have Mb4 := Lib.hid (show Mid St B db rb w { d1 with hasPic := ya, hasTl0 := yb, hasTid := yc, hasKey := yd } sj wb4 from by rw [← hwb4]; exact MA.out.put hv HNE.out hBd hwd 11 (.bool yd) rfl)
      clear hwb4 MA
      go_wp2_with fail
      refine (hv.reserved _ sj 4 Mb4.out.st (hv.room1 _ _ hrb4) (by omega)).mono ?_
      rintro e wc1 ⟨rfl, hs, hg⟩
      have MC := Lib.hid (Mb4.out.go hs hg)
      have hrc := hv.roomr sj 4 _ (by omega) hrb4
      clear hs hg
      generalize V.rs sj 4 = sk at *
      rw [HV2.out] at HS1
      obtain ⟨d2, hd2⟩ : ∃ d2 : Dv, d2 = { d1 with hasPic := ya, hasTl0 := yb, hasTid := yc, hasKey := yd } := ⟨_, rfl⟩
      have HE := Lib.hid (show V.visit d s = V.more d2 sk from by rw [hd2]; exact HS1.out)
      have hfit2 : d2.Fit := by rw [hd2]; exact ⟨hfit1.part, hfit1.pic, hfit1.tl0, hfit1.tid, hfit1.key⟩
      have MD := MC
      rw [← hd2] at MD
      have HMORE := Lib.hid (fun w' (hm : Mid St B db rb w d2 sk w') (hB' : B ≤ w'.heap.size) => more_putter b hv d2 w' sk hm.st (hv.roomd _ _ hrc) hB' hfit2)
      clear M Mb1 Mb2 Mb3 Mb4 MC HS1 HV2 hd2 hfit1 hfit2
      have hsz : B ≤ wc1.heap.size := Nat.le_trans hB MD.out.gone.1.size
      have HONE := Lib.hid ((V.more d2 sk).1.one)
      go_wp2_with (first | (refine wpList_load_want (o := ⟨some 68, _, _, _, _, _⟩) rfl _ _ rfl db rfl _ _ _ MD.out.is Try.underlying31 rfl Try.sizeDesc ?_) | (go_at_call 35; refine (HMORE.out _ MD.out hsz).mono ?_; rintro e w8 ⟨rfl, hs8, hg8⟩; have ME := Lib.hid (MD.out.go hs8 hg8); clear hs8 hg8) | (refine wpList_store_is (o := ⟨none, _, _, _, _, _⟩) rfl 31 _ _ rfl rb (V.more d2 sk).1.cells rfl rfl 31 Dv.zero.cells ME.out.ans Try.sizeDesc rfl HONE.out ?_; intro w9 hi9 ho9))
      refine bodyPost_ret (results_cell_row Try.results26 _ w9 rb 31 _ (0, 0) _ rfl hi9 Try.underlying31 rfl Try.sizeDesc) rfl ?_
      rw [HE.out]
      exact ⟨rfl, hv.far _ _ _ _ _ ME.out.st ME.out.ans ho9, ME.out.gone.own ho9 hBrb hwrb⟩
end Go.Proofs.Ytneogagainllnaa
