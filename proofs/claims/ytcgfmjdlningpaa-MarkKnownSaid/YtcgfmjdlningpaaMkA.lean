/- mark: markings, plainly; two compared; firstByte, short, Right, Put, parseFirst, Parse. Conditions: as each says. -/
import Derived.Test.YtcgfmjdlningpaaExA
import Derived.Test.YtcgfmjdlningpaaBase
import Derived.Laws.StructEq
set_option linter.unusedVariables false
namespace Go.Proofs.Ytcgfmjdlningpaa
open Go.RowKit

/-- A marking, plainly. -/
structure Mk where
  st : Bool
  en : Bool
  ind : Bool
  dr : Bool
  lg : Bool
  ba : Bool
  tid : Nat
  lid : Nat
  tl : Nat
def Mk.cells (m : Mk) : Array Value := #[.bool m.st, .bool m.en, .bool m.ind, .bool m.dr, .bool m.lg, .bool m.ba, .int .u8 (m.tid : Nat), .int .u8 (m.lid : Nat), .int .u8 (m.tl : Nat)]
theorem Mk.one (m : Mk) : m.cells.all (·.oneCell') = true := by simp [Mk.cells, Value.oneCell']
def Mk.zero : Mk := ⟨false, false, false, false, false, false, 0, 0, 0⟩
structure Mk.Fit (m : Mk) : Prop where
  tid : m.tid < 256
  lid : m.lid < 256
  tl : m.tl < 256
def Mk.low (m : Mk) : Mk := ⟨m.st, m.en, m.ind, m.dr, false, false, 0, 0, 0⟩
def Mk.right (m : Mk) : Bool := decide (m.tid ≤ 7) && (m.lg || (!m.ba && decide (m.tid = 0) && decide (m.lid = 0) && decide (m.tl = 0)))
def Mk.same (d e : Mk) : Bool := d.st == e.st && d.en == e.en && d.ind == e.ind && d.dr == e.dr && d.lg == e.lg && d.ba == e.ba && d.tid == e.tid && d.lid == e.lid && d.tl == e.tl
theorem Mk.same_iff (d e : Mk) : d.same e = true ↔ d = e := by
  obtain ⟨a1, a2, a3, a4, a5, a6, a7, a8, a9⟩ := d
  obtain ⟨b1, b2, b3, b4, b5, b6, b7, b8, b9⟩ := e
  simp [Mk.same, and_assoc]
theorem Mk.same_self (d : Mk) : d.same d = true := (Mk.same_iff d d).2 rfl
theorem Mk.right_low (m : Mk) (h : m.lg = false) (h7 : m.tid ≤ 7) : m.same m.low = m.right := by
  obtain ⟨a1, a2, a3, a4, a5, a6, a7, a8, a9⟩ := m
  simp only at h h7
  subst h
  rw [Bool.eq_iff_iff, Mk.same_iff]
  simp [Mk.low, Mk.right, h7, and_assoc]
def bn (b : Bool) (n : Nat) : Nat := if b then n else 0
def Mk.first (m : Mk) : Nat := bn m.st 128 + bn m.en 64 + bn m.ind 32 + bn m.dr 16 + bn m.ba 8 + m.tid
def Mk.enc (m : Mk) : List Nat := if m.lg then [m.first, m.lid, m.tl] else [m.first]
def mkErr (bs : List Nat) : Nat := if bs.length = 3 then 0 else if bs.length = 1 ∧ bt bs 0 % 16 = 0 then 0 else 40
def mkOf (bs : List Nat) : Mk :=
  if bs.length = 3 then ⟨hasb (bt bs 0) 128, hasb (bt bs 0) 64, hasb (bt bs 0) 32, hasb (bt bs 0) 16, true, hasb (bt bs 0) 8, bt bs 0 % 8, bt bs 1, bt bs 2⟩
  else if bs.length = 1 ∧ bt bs 0 % 16 = 0 then ⟨hasb (bt bs 0) 128, hasb (bt bs 0) 64, hasb (bt bs 0) 32, hasb (bt bs 0) 16, false, false, 0, 0, 0⟩ else Mk.zero
/-- What a first byte tells. -/
def mkFirst (b : Nat) : Mk := ⟨hasb b 128, hasb b 64, hasb b 32, hasb b 16, false, hasb b 8, b % 8, 0, 0⟩

theorem mk_chain (p : Prop) [Decidable p] (b : Bool) (w : World) : (if p then Result.ok (Value.bool b) w else Result.ok (Value.bool false) w) = Result.ok (Value.bool (decide p && b)) w := by
  by_cases h : p <;> simp [h]
theorem Try.sizeMk : (Try.prog.info? 69).map (·.size) = some 9 := by kernel_rfl
set_option maxRecDepth 100000 in
set_option maxHeartbeats 1000000 in
theorem eq_mk (d e : Mk) (w : World) : (binOp .eql 69 (.agg d.cells) (.agg e.cells)).run Try.prog w = .ok (.bool (d.same e)) w := by
  rw [run_eql_struct, run_equalIn_agg w 9999 _ _ _ (by kernel_rfl) (by kernel_rfl)]
  simp only [Program.fieldsOf, Try.underlying69]
  simp [Op.eqFields, Mk.cells, go_sem]
  simp only [Int.natCast_inj, mk_chain, Bool.and_true]
  have e : d.same e = (decide (d.st = e.st) && (decide (d.en = e.en) && (decide (d.ind = e.ind) && (decide (d.dr = e.dr) && (decide (d.lg = e.lg) && (decide (d.ba = e.ba) && (decide (d.tid = e.tid) && (decide (d.lid = e.lid) && decide (d.tl = e.tl))))))))) := by
    rw [Bool.eq_iff_iff]
    simp [Mk.same, and_assoc]
  rw [e]
theorem run_eql_mk {o : Oper} {ρ : Operand → Value} (w : World) (x y : Operand) (d e : Mk) (ho : o.op = .binOp .eql 69 x y 69) (hx : ρ x = .agg d.cells) (hy : ρ y = .agg e.cells) :
    (execOp ρ o).run Try.prog w = .ok (.value (.bool (d.same e))) w := by
  unfold execOp
  simp only [ho, hx, hy, Sem.run_bind, Sem.run_pure, Result.andThen_ok, run_eqGuard_agg (P := Try.prog) w .eql 69 x y d.cells e.cells (by kernel_rfl), eq_mk d e w]
/-- What is answered of a struct alone. -/
theorem res_one {P : Program} {fn : Func} {p : Tmp} {ty : TypeId} (h : fn.results = #[.cell p ty]) (tmps : Array Value) (w : World) (g : Nat) (t : TypeId) (cs : Array Value) (d : TypeDesc)
    (hp : tmps.getD p undef = .pointer (some ⟨g, 0, none⟩)) (hg : Is w g t cs)
    (hu : P.underlying ty = some d) (hd : (match d with | .struct _ | .array _ _ => true | _ => false) = true) (hi : (P.info? ty).map (·.size) = some cs.size) :
    (results fn tmps).run P w = .ok (.agg cs) w := by
  have hp' : tmps[p]?.getD undef = .pointer (some ⟨g, 0, none⟩) := by simpa using hp
  simp [results, h, hp', asAddr, run_loadVar_row w g t ty cs (0, 0) d hg hu hd hi]

/-- A flag is put. -/
def fbit (x : Bool) (flag b : Int) : Int := if x then bits .or .u8 b flag else b
set_option maxRecDepth 100000 in
set_option maxHeartbeats 400000 in
theorem fb_put (x : Bool) (flag b : Int) (g : Nat) (w : World) (h : Is w g 5 #[.int .u8 b]) :
    Calls Try.prog 94 #[.bool x, .int .u8 flag, ptr g] w fun e w' => e = .returned (.tuple #[]) ∧ Is w' g 5 #[.int .u8 (fbit x flag b)] ∧ Only (fun k => k = g) w w' := by
  have c0 := h.cell 0
  have f0 := h.free 0
  simp at c0
  have H := Lib.hid h
  clear h
  cases x
  · go_enter Try.func94, Try.ntmps94
    go_wp2
    go_end0
    exact ⟨rfl, H.out, Only.refl _ _⟩
  · go_enter Try.func94, Try.ntmps94
    go_wp2
    go_end0
    exact ⟨rfl, H.out.put 0 _, Only.set (S := fun k => k = g) (p := ⟨g, 0, none⟩) (Only.refl _ w) (fun _ => rfl) _⟩
theorem fbits_is (m : Mk) (h : m.tid ≤ 7) : fbit m.ba 8 (fbit m.dr 16 (fbit m.ind 32 (fbit m.en 64 (fbit m.st 128 (m.tid : Int))))) = ((m.first : Nat) : Int) := by
  obtain ⟨a1, a2, a3, a4, a5, a6, a7, a8, a9⟩ := m
  have : ∀ (i : Fin 8) (b1 b2 b3 b4 b6 : Bool), fbit b6 8 (fbit b4 16 (fbit b3 32 (fbit b2 64 (fbit b1 128 ((i.val : Nat) : Int))))) = ((bn b1 128 + bn b2 64 + bn b3 32 + bn b4 16 + bn b6 8 + i.val : Nat) : Int) := by decide +kernel
  exact this ⟨a7, by simp only at h; omega⟩ a1 a2 a3 a4 a6

/-- Amid firstByte: where the marking lies, and the byte in the making. -/
structure Fby (m : Mk) (mb g : Nat) (z : Int) (w wx : World) : Prop where
  mis : Is wx mb 69 m.cells
  by_ : Is wx g 5 #[.int .u8 z]
  pure : Only (fun _ => False) w wx
theorem Fby.go {m : Mk} {mb g : Nat} {z z' : Int} {w wx wy : World} (hg : w.heap.size ≤ g) (h : Fby m mb g z w wx) (h2 : Is wy g 5 #[.int .u8 z']) (ho : Only (fun k => k = g) wx wy) : Fby m mb g z' w wy :=
  ⟨h.mis.only ho (Is.apart h.mis h.by_ (by decide)), h2, h.pure.trans ho (fun i hi e => by omega)⟩

set_option maxRecDepth 100000 in
set_option maxHeartbeats 1000000 in
theorem mk_first (m : Mk) (w : World) (h7 : m.tid ≤ 7) : Calls Try.prog 76 #[.agg m.cells] w fun e w' => e = .returned (.int .u8 (m.first : Nat)) ∧ Only (fun _ => False) w w' := by
  have HF := Lib.hid (fbits_is m h7)
  generalize m.first = fr at *
  go_enter Try.func76, Try.ntmps76
  go_upto_region 1 with (fail)
  generalize hw0 : World.alloc _ _ = w0
  have I0 : Is w0 w.heap.size 69 m.cells := by rw [← hw0]; exact Is.made _ _ _
  have P0 : Only (fun _ => False) w w0 := by rw [← hw0]; exact (Only.refl _ w).alloc _
  have HSZ : w.heap.size ≤ w0.heap.size := P0.size
  have c6 := I0.cell 6
  simp [Mk.cells] at c6
  have HI0 := Lib.hid I0
  have HP0 := Lib.hid P0
  obtain ⟨mb, hmb⟩ : ∃ k, w.heap.size = k := ⟨_, rfl⟩
  have HMB := Lib.hid hmb
  rw [hmb] at HI0 c6 ⊢
  clear hw0 I0 P0 h7 hmb
  go_upto_region 2 with (fail)
  generalize hw1 : World.alloc _ _ = w1
  have F1 := Lib.hid (show Fby m mb w0.heap.size (m.tid : Int) w w1 from by
    rw [← hw1]
    exact ⟨HI0.out.alloc _, Is.made w0 5 _, HP0.out.alloc _⟩)
  obtain ⟨g, hg⟩ : ∃ k, w0.heap.size = k := ⟨_, rfl⟩
  rw [hg] at F1 ⊢
  have HG := Lib.hid (show w.heap.size ≤ g from by omega)
  clear hw1 c6 hg HSZ HI0 HP0
  have c0 := F1.out.mis.cell 0
  simp [Mk.cells] at c0
  go_wp2_with fail
  refine (fb_put m.st 128 _ g w1 F1.out.by_).mono ?_
  rintro e w2 ⟨rfl, hb2, ho2⟩
  have F2 := Lib.hid (F1.out.go HG.out hb2 ho2)
  clear hb2 ho2 c0
  have c1 := F2.out.mis.cell 1
  simp [Mk.cells] at c1
  go_wp2_with fail
  refine (fb_put m.en 64 _ g w2 F2.out.by_).mono ?_
  rintro e w3 ⟨rfl, hb3, ho3⟩
  have F3 := Lib.hid (F2.out.go HG.out hb3 ho3)
  clear hb3 ho3 c1
  have c2 := F3.out.mis.cell 2
  simp [Mk.cells] at c2
  go_wp2_with fail
  refine (fb_put m.ind 32 _ g w3 F3.out.by_).mono ?_
  rintro e w4 ⟨rfl, hb4, ho4⟩
  have F4 := Lib.hid (F3.out.go HG.out hb4 ho4)
  clear hb4 ho4 c2
  have c3 := F4.out.mis.cell 3
  simp [Mk.cells] at c3
  go_wp2_with fail
  refine (fb_put m.dr 16 _ g w4 F4.out.by_).mono ?_
  rintro e w5 ⟨rfl, hb5, ho5⟩
  have F5 := Lib.hid (F4.out.go HG.out hb5 ho5)
  clear hb5 ho5 c3
  have c5 := F5.out.mis.cell 5
  simp [Mk.cells] at c5
  go_wp2_with fail
  refine (fb_put m.ba 8 _ g w5 F5.out.by_).mono ?_
  rintro e w6 ⟨rfl, hb6, ho6⟩
  have F6 := Lib.hid (F5.out.go HG.out hb6 ho6)
  clear hb6 ho6 c5
  have c0 := F6.out.by_.cell 0
  simp at c0
  rw [HF.out] at c0
  go_wp2
  go_ret
  exact ⟨rfl, F6.out.pure⟩

set_option maxRecDepth 100000 in
set_option maxHeartbeats 1000000 in
theorem mk_low (m : Mk) (w : World) : Calls Try.prog 77 #[.agg m.cells] w fun e w' => e = .returned (.agg m.low.cells) ∧ Only (fun _ => False) w w' := by
  have HV := Lib.hid (Mk.one m.low)
  go_enter Try.func77, Try.ntmps77
  go_upto_region 1 with (fail)
  generalize hw0 : World.alloc (World.alloc _ _) _ = w0
  have HI : Is w0 w.heap.size 69 m.cells := by rw [← hw0]; exact (Is.made w _ _).alloc _
  have HO := Lib.hid (show Is w0 (w.heap.size + 1) 69 Mk.zero.cells from by rw [← hw0]; have := Is.made (w.alloc (.cells m.cells 69)) 69 Mk.zero.cells; rw [World.size_alloc] at this; exact this)
  have P0 := Lib.hid (show Only (fun _ => False) w w0 from by rw [← hw0]; exact ((Only.refl _ w).alloc _).alloc _)
  clear hw0
  have c0 := HI.cell 0
  have c1 := HI.cell 1
  have c2 := HI.cell 2
  have c3 := HI.cell 3
  clear HI
  simp [Mk.cells] at c0 c1 c2 c3
  go_wp2_with (refine wpList_store_is (o := ⟨none, _, _, _, _, _⟩) rfl 69 _ _ rfl (w.heap.size + 1) m.low.cells rfl rfl 69 Mk.zero.cells HO.out Try.sizeMk rfl HV.out ?_; intro w2 hi2 ho2)
  exact bodyPost_ret (res_one Try.results77 _ w2 (w.heap.size + 1) 69 m.low.cells _ rfl hi2 Try.underlying69 rfl Try.sizeMk) rfl ⟨rfl, P0.out.trans ho2 (fun i hi e => by omega)⟩

set_option maxRecDepth 100000 in
set_option maxHeartbeats 2000000 in
theorem mk_right (m : Mk) (w : World) : Calls Try.prog 41 #[.agg m.cells] w fun e w' => e = .returned (.bool m.right) ∧ Only (fun _ => False) w w' := by
  have HLOW := Lib.hid (fun w => mk_low m w)
  have I0 := Lib.hid (Is.made w 69 m.cells)
  have P0 := Lib.hid (show Only (fun _ => False) w (w.alloc (.cells m.cells 69)) from (Only.refl _ w).alloc _)
  by_cases h7 : m.tid ≤ 7
  · have d7 : decide ((m.tid : Int) ≤ 7) = true := decide_eq_true (by omega)
    have h7' : (m.tid : Int) ≤ 7 := by omega
    cases hl : m.lg
    · have HR := Lib.hid (Mk.right_low m hl h7)
      rw [← HR.out]
      go_enter Try.func41, Try.ntmps41
      go_upto_region 1 with (fail)
      generalize (w.alloc (.cells m.cells 69)) = w0 at *
      generalize w.heap.size = mb at *
      clear HR
      refine wp_region_posts [[], [0], [1, 0], [2, 1, 0], [3, 2, 1, 0], [4, 3, 2, 1, 0], [5, 3, 4, 2, 1, 0], [6, 5, 3, 4, 2, 1, 0], [6, 5, 3, 4, 2, 1, 0], [8, 6, 5, 3, 4, 2, 1, 0], [7, 9, 6, 5, 3, 4, 2, 1, 0, 8], [6, 10, 3, 5, 4, 2, 1, 0, 7, 9, 8], [3, 11, 2, 1, 0, 6, 10, 5, 4, 7, 9, 8], [12, 9, 0, 1, 2, 3, 4, 5, 6, 7, 8, 10, 11]] [9] [] [[], [], [], [], [], [], [], [], [], [], [], [], [], []] [[], [], [], [], [], [], [], [], [], [], [], [], [], []] [] [] [] []
          [some ?v0, some ?v1, some ?v2, some ?v3, some ?v4, some ?v5, some ?v6, some (.agg m.cells), some (.agg m.cells), some (.agg m.low.cells), some (.bool (m.same m.low)), some ?v11, some ?v12, some ?v13]
          ?T (fun wx => Is wx mb 69 m.cells ∧ Only (fun _ => False) w0 wx) ?W ?E (by kernel_rfl) (by kernel_rfl) (by kernel_rfl) (fun x => ?hT) ?hF ?hini (Reg.all_ops ?runs) ?pres ?fin
      case W => exact fun j x w' => True
      case E => exact fun _ w' w'' => True
      case hT =>
        simp only [Reg.fillV, Act.put, List.setIfInBounds_toArray, List.set_cons_zero, List.set_cons_succ]
        rfl
      case runs =>
        refine And.intro ?_ ?_
        · refine Reg.ob_pure (fun _ => rfl) rfl rfl rfl rfl (fun x w1 hF => ?_)
          have q4 := hF.1.cell 4
          have q6 := hF.1.cell 6
          simp [Mk.cells, hl] at q4 q6
          go_simp
          with_reducible rfl
        refine And.intro ?_ ?_
        · refine Reg.ob_pure (fun _ => rfl) rfl rfl rfl rfl (fun x w1 hF => ?_)
          have q4 := hF.1.cell 4
          have q6 := hF.1.cell 6
          simp [Mk.cells, hl] at q4 q6
          go_simp
          with_reducible rfl
        refine And.intro ?_ ?_
        · refine Reg.ob_pure (fun _ => rfl) rfl rfl rfl rfl (fun x w1 hF => ?_)
          have q4 := hF.1.cell 4
          have q6 := hF.1.cell 6
          simp [Mk.cells, hl] at q4 q6
          go_simp
          with_reducible rfl
        refine And.intro ?_ ?_
        · refine Reg.ob_pure (fun _ => rfl) rfl rfl rfl rfl (fun x w1 hF => ?_)
          have q4 := hF.1.cell 4
          have q6 := hF.1.cell 6
          simp [Mk.cells, hl] at q4 q6
          go_simp
          with_reducible rfl
        refine And.intro ?_ ?_
        · refine Reg.ob_pure (fun _ => rfl) rfl rfl rfl rfl (fun x w1 hF => ?_)
          have q4 := hF.1.cell 4
          have q6 := hF.1.cell 6
          simp [Mk.cells, hl] at q4 q6
          go_simp
          with_reducible rfl
        refine And.intro ?_ ?_
        · refine Reg.ob_pure (fun _ => rfl) rfl rfl rfl rfl (fun x w1 hF => ?_)
          have q4 := hF.1.cell 4
          have q6 := hF.1.cell 6
          simp [Mk.cells, hl] at q4 q6
          go_simp
          with_reducible rfl
        refine And.intro ?_ ?_
        · refine Reg.ob_pure (fun _ => rfl) rfl rfl rfl rfl (fun x w1 hF => ?_)
          have q4 := hF.1.cell 4
          have q6 := hF.1.cell 6
          simp [Mk.cells, hl] at q4 q6
          go_simp
          with_reducible rfl
        refine And.intro ?_ ?_
        · refine Reg.ob_pure (fun _ => rfl) rfl rfl rfl rfl (fun x w1 hF => ?_)
          exact run_load_at 69 _ (by rfl) mb (by rfl) 69 _ _ hF.1 Try.underlying69 rfl Try.sizeMk
        refine And.intro ?_ ?_
        · refine Reg.ob_pure (fun _ => rfl) rfl rfl rfl rfl (fun x w1 hF => ?_)
          exact run_load_at 69 _ (by rfl) mb (by rfl) 69 _ _ hF.1 Try.underlying69 rfl Try.sizeMk
        refine And.intro ?_ ?_
        · refine Reg.ob_known (fun _ => rfl) rfl rfl (fun x w1 hF hU K hK => ?_)
          replace hF := hF rfl
          go_simp
          refine (HLOW.out _).mono ?_
          rintro e w3 ⟨rfl, ho⟩
          exact hK w3 (fun _ _ _ => ⟨hF.1.only ho (by simp), only_more hF.2 ho⟩) trivial
        refine And.intro ?_ ?_
        · refine Reg.ob_pure (fun _ => rfl) rfl rfl rfl rfl (fun x w1 hF => ?_)
          exact run_eql_mk _ _ _ m m.low rfl rfl rfl
        refine And.intro ?_ ?_
        · refine Reg.ob_pure (fun _ => rfl) rfl rfl rfl rfl (fun x w1 hF => ?_)
          have q4 := hF.1.cell 4
          have q6 := hF.1.cell 6
          simp [Mk.cells, hl] at q4 q6
          go_simp
          with_reducible rfl
        refine And.intro ?_ ?_
        · refine Reg.ob_pure (fun _ => rfl) rfl rfl rfl rfl (fun x w1 hF => ?_)
          have q4 := hF.1.cell 4
          have q6 := hF.1.cell 6
          simp [Mk.cells, hl] at q4 q6
          go_simp
          with_reducible rfl
        refine And.intro ?_ ?_
        · refine Reg.ob_pure (fun _ => rfl) rfl rfl rfl rfl (fun x w1 hF => ?_)
          have q4 := hF.1.cell 4
          have q6 := hF.1.cell 6
          simp [Mk.cells, hl] at q4 q6
          go_simp
          with_reducible rfl
        exact trivial
      case hF =>
        exact ⟨I0.out.only (only_drewN _ 1) (by simp), only_drewN _ 1⟩
      case hini =>
        exact trivial
      case pres =>
        intro i hi j hj hc x w1 w2 hF hE hW
        trivial
      case fin =>
        rintro x w9 hF -
        have PU := Lib.hid (hF rfl).2
        clear hF
        go_wp2
        go_ret
        exact ⟨rfl, only_more P0.out PU.out⟩
    · have HR := Lib.hid (show m.right = true from by unfold Mk.right; rw [decide_eq_true h7, hl]; rfl)
      rw [HR.out]
      go_enter Try.func41, Try.ntmps41
      go_upto_region 1 with (fail)
      generalize (w.alloc (.cells m.cells 69)) = w0 at *
      generalize w.heap.size = mb at *
      clear HR
      refine wp_region_posts [[], [0], [1, 0], [2, 1, 0], [3, 2, 1, 0], [4, 3, 2, 1, 0], [5, 3, 4, 2, 1, 0], [6, 5, 3, 4, 2, 1, 0], [6, 5, 3, 4, 2, 1, 0], [8, 6, 5, 3, 4, 2, 1, 0], [7, 9, 6, 5, 3, 4, 2, 1, 0, 8], [6, 10, 3, 5, 4, 2, 1, 0, 7, 9, 8], [3, 11, 2, 1, 0, 6, 10, 5, 4, 7, 9, 8], [12, 9, 0, 1, 2, 3, 4, 5, 6, 7, 8, 10, 11]] [] [] [[], [], [], [], [], [], [], [], [], [], [], [], [], []] [[], [], [], [], [], [], [], [], [], [], [], [], [], []] [] [] [] []
          [some ?vb0, some ?vb1, some ?vb2, some ?vb3, some ?vb4, some ?vb5, some ?vb6, some undef, some undef, some undef, some undef, some ?vb11, some ?vb12, some ?vb13]
          ?Tb (fun wx => Is wx mb 69 m.cells ∧ Only (fun _ => False) w0 wx) ?Wb ?Eb (by kernel_rfl) (by kernel_rfl) (by kernel_rfl) (fun x => ?hTb) ?hFb ?hinib (Reg.all_ops ?runsb) ?presb ?finb
      case Wb => exact fun j x w' => True
      case Eb => exact fun _ w' w'' => True
      case hTb =>
        simp only [Reg.fillV, Act.put, List.setIfInBounds_toArray, List.set_cons_zero, List.set_cons_succ]
        rfl
      case runsb =>
        refine And.intro ?_ ?_
        · refine Reg.ob_pure (fun _ => rfl) rfl rfl rfl rfl (fun x w1 hF => ?_)
          have q4 := hF.1.cell 4
          have q6 := hF.1.cell 6
          simp [Mk.cells, hl] at q4 q6
          go_simp
          with_reducible rfl
        refine And.intro ?_ ?_
        · refine Reg.ob_pure (fun _ => rfl) rfl rfl rfl rfl (fun x w1 hF => ?_)
          have q4 := hF.1.cell 4
          have q6 := hF.1.cell 6
          simp [Mk.cells, hl] at q4 q6
          go_simp
          with_reducible rfl
        refine And.intro ?_ ?_
        · refine Reg.ob_pure (fun _ => rfl) rfl rfl rfl rfl (fun x w1 hF => ?_)
          have q4 := hF.1.cell 4
          have q6 := hF.1.cell 6
          simp [Mk.cells, hl] at q4 q6
          go_simp
          with_reducible rfl
        refine And.intro ?_ ?_
        · refine Reg.ob_pure (fun _ => rfl) rfl rfl rfl rfl (fun x w1 hF => ?_)
          have q4 := hF.1.cell 4
          have q6 := hF.1.cell 6
          simp [Mk.cells, hl] at q4 q6
          go_simp
          with_reducible rfl
        refine And.intro ?_ ?_
        · refine Reg.ob_pure (fun _ => rfl) rfl rfl rfl rfl (fun x w1 hF => ?_)
          have q4 := hF.1.cell 4
          have q6 := hF.1.cell 6
          simp [Mk.cells, hl] at q4 q6
          go_simp
          with_reducible rfl
        refine And.intro ?_ ?_
        · refine Reg.ob_pure (fun _ => rfl) rfl rfl rfl rfl (fun x w1 hF => ?_)
          have q4 := hF.1.cell 4
          have q6 := hF.1.cell 6
          simp [Mk.cells, hl] at q4 q6
          go_simp
          with_reducible rfl
        refine And.intro ?_ ?_
        · refine Reg.ob_pure (fun _ => rfl) rfl rfl rfl rfl (fun x w1 hF => ?_)
          have q4 := hF.1.cell 4
          have q6 := hF.1.cell 6
          simp [Mk.cells, hl] at q4 q6
          go_simp
          with_reducible rfl
        refine And.intro ?_ ?_
        · exact Reg.ob_skip (fun _ => rfl) rfl rfl rfl
        refine And.intro ?_ ?_
        · exact Reg.ob_skip (fun _ => rfl) rfl rfl rfl
        refine And.intro ?_ ?_
        · exact Reg.ob_skip (fun _ => rfl) rfl rfl rfl
        refine And.intro ?_ ?_
        · exact Reg.ob_skip (fun _ => rfl) rfl rfl rfl
        refine And.intro ?_ ?_
        · refine Reg.ob_pure (fun _ => rfl) rfl rfl rfl rfl (fun x w1 hF => ?_)
          have q4 := hF.1.cell 4
          have q6 := hF.1.cell 6
          simp [Mk.cells, hl] at q4 q6
          go_simp
          with_reducible rfl
        refine And.intro ?_ ?_
        · refine Reg.ob_pure (fun _ => rfl) rfl rfl rfl rfl (fun x w1 hF => ?_)
          have q4 := hF.1.cell 4
          have q6 := hF.1.cell 6
          simp [Mk.cells, hl] at q4 q6
          go_simp
          with_reducible rfl
        refine And.intro ?_ ?_
        · refine Reg.ob_pure (fun _ => rfl) rfl rfl rfl rfl (fun x w1 hF => ?_)
          have q4 := hF.1.cell 4
          have q6 := hF.1.cell 6
          simp [Mk.cells, hl] at q4 q6
          go_simp
          with_reducible rfl
        exact trivial
      case hFb =>
        exact ⟨I0.out.only (only_drewN _ 1) (by simp), only_drewN _ 1⟩
      case hinib =>
        exact trivial
      case presb =>
        intro i hi j hj hc x w1 w2 hF hE hW
        trivial
      case finb =>
        rintro x w9 hF -
        have PU := Lib.hid (hF rfl).2
        clear hF
        go_wp2
        go_ret
        exact ⟨rfl, only_more P0.out PU.out⟩
  · have d7 : decide ((m.tid : Int) ≤ 7) = false := decide_eq_false (by omega)
    have h7' : ¬ (m.tid : Int) ≤ 7 := by omega
    have HR := Lib.hid (show m.right = false from by unfold Mk.right; rw [decide_eq_false h7]; rfl)
    rw [HR.out]
    go_enter Try.func41, Try.ntmps41
    go_upto_region 1 with (fail)
    generalize (w.alloc (.cells m.cells 69)) = w0 at *
    generalize w.heap.size = mb at *
    clear HR
    refine wp_region_posts [[], [0], [1, 0], [2, 1, 0], [3, 2, 1, 0], [4, 3, 2, 1, 0], [5, 3, 4, 2, 1, 0], [6, 5, 3, 4, 2, 1, 0], [6, 5, 3, 4, 2, 1, 0], [8, 6, 5, 3, 4, 2, 1, 0], [7, 9, 6, 5, 3, 4, 2, 1, 0, 8], [6, 10, 3, 5, 4, 2, 1, 0, 7, 9, 8], [3, 11, 2, 1, 0, 6, 10, 5, 4, 7, 9, 8], [12, 9, 0, 1, 2, 3, 4, 5, 6, 7, 8, 10, 11]] [] [] [[], [], [], [], [], [], [], [], [], [], [], [], [], []] [[], [], [], [], [], [], [], [], [], [], [], [], [], []] [] [] [] []
        [some ?vc0, some ?vc1, some ?vc2, some ?vc3, some undef, some undef, some undef, some undef, some undef, some undef, some undef, some undef, some ?vc12, some ?vc13]
        ?Tc (fun wx => Is wx mb 69 m.cells ∧ Only (fun _ => False) w0 wx) ?Wc ?Ec (by kernel_rfl) (by kernel_rfl) (by kernel_rfl) (fun x => ?hTc) ?hFc ?hinic (Reg.all_ops ?runsc) ?presc ?finc
    case Wc => exact fun j x w' => True
    case Ec => exact fun _ w' w'' => True
    case hTc =>
      simp only [Reg.fillV, Act.put, List.setIfInBounds_toArray, List.set_cons_zero, List.set_cons_succ]
      rfl
    case runsc =>
      refine And.intro ?_ ?_
      · refine Reg.ob_pure (fun _ => rfl) rfl rfl rfl rfl (fun x w1 hF => ?_)
        have q6 := hF.1.cell 6
        simp [Mk.cells] at q6
        go_simp
        with_reducible rfl
      refine And.intro ?_ ?_
      · refine Reg.ob_pure (fun _ => rfl) rfl rfl rfl rfl (fun x w1 hF => ?_)
        have q6 := hF.1.cell 6
        simp [Mk.cells] at q6
        go_simp
        with_reducible rfl
      refine And.intro ?_ ?_
      · refine Reg.ob_pure (fun _ => rfl) rfl rfl rfl rfl (fun x w1 hF => ?_)
        have q6 := hF.1.cell 6
        simp [Mk.cells] at q6
        go_simp
        with_reducible rfl
      refine And.intro ?_ ?_
      · refine Reg.ob_pure (fun _ => rfl) rfl rfl rfl rfl (fun x w1 hF => ?_)
        have q6 := hF.1.cell 6
        simp [Mk.cells] at q6
        go_simp
        with_reducible rfl
      refine And.intro ?_ ?_
      · exact Reg.ob_skip (fun _ => rfl) rfl rfl rfl
      refine And.intro ?_ ?_
      · exact Reg.ob_skip (fun _ => rfl) rfl rfl rfl
      refine And.intro ?_ ?_
      · exact Reg.ob_skip (fun _ => rfl) rfl rfl rfl
      refine And.intro ?_ ?_
      · exact Reg.ob_skip (fun _ => rfl) rfl rfl rfl
      refine And.intro ?_ ?_
      · exact Reg.ob_skip (fun _ => rfl) rfl rfl rfl
      refine And.intro ?_ ?_
      · exact Reg.ob_skip (fun _ => rfl) rfl rfl rfl
      refine And.intro ?_ ?_
      · exact Reg.ob_skip (fun _ => rfl) rfl rfl rfl
      refine And.intro ?_ ?_
      · exact Reg.ob_skip (fun _ => rfl) rfl rfl rfl
      refine And.intro ?_ ?_
      · refine Reg.ob_pure (fun _ => rfl) rfl rfl rfl rfl (fun x w1 hF => ?_)
        have q6 := hF.1.cell 6
        simp [Mk.cells] at q6
        go_simp
        with_reducible rfl
      refine And.intro ?_ ?_
      · refine Reg.ob_pure (fun _ => rfl) rfl rfl rfl rfl (fun x w1 hF => ?_)
        have q6 := hF.1.cell 6
        simp [Mk.cells] at q6
        go_simp
        with_reducible rfl
      exact trivial
    case hFc =>
      exact ⟨I0.out.only (only_drewN _ 1) (by simp), only_drewN _ 1⟩
    case hinic =>
      exact trivial
    case presc =>
      intro i hi j hj hc x w1 w2 hF hE hW
      trivial
    case finc =>
      rintro x w9 hF -
      have PU := Lib.hid (hF rfl).2
      clear hF
      go_wp2
      go_ret
      exact ⟨rfl, only_more P0.out PU.out⟩

end Go.Proofs.Ytcgfmjdlningpaa
