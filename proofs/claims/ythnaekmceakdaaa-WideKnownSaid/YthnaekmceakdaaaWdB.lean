/- circleOf, New, and an extender's calls. Conditions: as each says. -/
import Derived.Test.YthnaekmceakdaaaWdA
import Derived.Test.YthnaekmceakdaaaRegT
import Derived.Deep.DeepCutAuto
set_option linter.unusedVariables false
namespace Go.Proofs.Ythnaekmceakdaaa
open Go.RowKit

theorem Only.setNew {S : Nat → Prop} {w w1 : World} (h : Only S w w1) {p : Addr} (hp : w.heap.size ≤ p.block) (u : Value) : Only S w (w1.setCell p u) := h.set (fun h => by omega) u
/-- The circle of so many digits; of digits that may not be: of one number. -/
def cirOf (z : Int) : Nat := if 1 ≤ z ∧ z ≤ 32 then 2 ^ z.toNat else 1
theorem cirOf_cir (z : Int) : Cir (cirOf z) := by
  unfold cirOf
  split
  · exact ⟨z.toNat, by omega, rfl⟩
  · exact ⟨0, by omega, rfl⟩
theorem mask_is (k : Nat) (hk : k < 64) : IntKind.u64.wrap (IntKind.u64.wrap (2 ^ k) - 1) = ((2 ^ k - 1 : Nat) : Int) := by
  have h := Nat.pow_lt_pow_right (a := 2) (by decide) hk
  have hp : 0 < 2 ^ k := Nat.pow_pos (by decide)
  have e64 : 2 ^ 64 = 18446744073709551616 := by decide
  rw [e64] at h
  rw [show (2 : Int) ^ k = ((2 ^ k : Nat) : Int) by simp, wrap_u64_is _ h]
  have e : ((2 ^ k : Nat) : Int) - 1 = ((2 ^ k - 1 : Nat) : Int) := by omega
  rw [e, wrap_u64_is _ (by omega)]

set_option maxHeartbeats 400000 in
theorem circleOf_is (z : Int) (w : World) : Calls Try.prog 23 #[.int .i64 z] w (Says (cirV (cirOf z)) w) := by
  by_cases h : 1 ≤ z ∧ z ≤ 32
  · obtain ⟨h1, h2⟩ := h
    obtain ⟨k, rfl⟩ : ∃ k : Nat, z = (k : Int) := ⟨z.toNat, by omega⟩
    have hm := mask_is k (by omega)
    have hc : cirOf (k : Int) = 2 ^ k := by unfold cirOf; rw [if_pos ⟨h1, h2⟩, Int.toNat_natCast]
    rw [hc]
    simp only [cirV]
    clear hc
    have h3 : 1 ≤ k := by omega
    have h4 : k ≤ 32 := by omega
    generalize 2 ^ k - 1 = m at *
    go_enter Try.func23, Try.ntmps23
    go_wp2
    refine bodyPost_ret (v := .agg #[.int .u64 (m : Int)]) (by simp [results, Try.results23, go_sem]) rfl ⟨rfl, ?_⟩
    exact (Only.refl _ w).alloc _
  · have hc : cirOf z = 1 := by unfold cirOf; rw [if_neg h]
    rw [hc]
    by_cases h1 : z < 1
    · go_enter Try.func23, Try.ntmps23
      go_wp2
      refine bodyPost_ret (v := .agg #[.int .u64 0]) (by simp [results, Try.results23, go_sem]) rfl ⟨rfl, ?_⟩
      exact (Only.refl _ w).alloc _
    · have h2 : 32 < z := by omega
      go_enter Try.func23, Try.ntmps23
      go_wp2
      refine bodyPost_ret (v := .agg #[.int .u64 0]) (by simp [results, Try.results23, go_sem]) rfl ⟨rfl, ?_⟩
      exact (Only.refl _ w).alloc _

/-- An extender: its circle, its top, whether anything has come. -/
abbrev extC (C top : Nat) (some : Bool) : Array Value := #[.int .u64 ((C - 1 : Nat) : Int), .int .u64 (top : Int), .bool some]
def XIs (w : World) (b C top : Nat) (some : Bool) : Prop := Is w b 55 (extC C top some)
theorem XIs.cells {w : World} {b C top : Nat} {some : Bool} (h : XIs w b C top some) :
    w.cell? ⟨b, 0, none⟩ = Option.some (.int .u64 ((C - 1 : Nat) : Int)) ∧ w.cell? ⟨b, 1, none⟩ = Option.some (.int .u64 (top : Int)) ∧ w.cell? ⟨b, 2, none⟩ = Option.some (.bool some) :=
  ⟨Is.cell h 0, Is.cell h 1, Is.cell h 2⟩
theorem XIs.only {w w1 : World} {b C top : Nat} {some : Bool} {S : Nat → Prop} (h : XIs w b C top some) (ho : Only S w w1) (hn : ¬ S b) : XIs w1 b C top some := Is.only h ho hn

set_option maxHeartbeats 400000 in
theorem xnew_none (z : Int) (w : World) (h : ¬ (1 ≤ z ∧ z ≤ 32)) : Calls Try.prog 9 #[.int .i64 z] w (Says (.tuple #[.pointer none, .int .i64 2]) w) := by
  have hc : cirOf z = 1 := by unfold cirOf; rw [if_neg h]
  have HC := Lib.hid hc
  clear h hc
  go_enter Try.func9, Try.ntmps9
  go_wp2_with fail
  refine (circleOf_is z w).mono ?_
  rw [HC.out]
  rintro e w1 ⟨rfl, ho⟩
  have HO := Lib.hid ho
  clear ho
  go_wp2_with fail
  refine (may_is 1 _ ⟨0, by omega, rfl⟩).mono ?_
  rintro e w2 ⟨rfl, ho⟩
  have HO2 := Lib.hid ((HO.out.alloc _).trans ho (fun _ _ e => e))
  clear ho
  go_wp2
  go_ret2
  exact ⟨rfl, HO2.out⟩
/-- An extender is answered, in new memory. -/
def NewX (C : Nat) (w : World) (e : Ending) (w' : World) : Prop := ∃ b, e = .returned (.tuple #[ptr b, .int .i64 0]) ∧ w.heap.size ≤ b ∧ XIs w' b C 0 false ∧ Only (fun _ => False) w w'
set_option maxHeartbeats 400000 in
theorem xnew_is (z : Int) (w : World) (h : 1 ≤ z ∧ z ≤ 32) : Calls Try.prog 9 #[.int .i64 z] w (NewX (cirOf z) w) := by
  have h1 : 1 < cirOf z := by
    unfold cirOf
    rw [if_pos h]
    exact Nat.one_lt_two_pow (by omega)
  have HC := Lib.hid (cirOf_cir z)
  have H1 := Lib.hid (circleOf_is z w)
  generalize cirOf z = C at *
  clear h
  go_enter Try.func9, Try.ntmps9
  go_wp2_with fail
  refine H1.out.mono ?_
  rintro e w1 ⟨rfl, ho⟩
  have HO := Lib.hid ho
  clear ho
  go_upto_region 2 with (fail)
  generalize hw2 : World.alloc w1 _ = w2
  have HC2 := Lib.hid (show w2.cell? ⟨w1.heap.size, 0, none⟩ = some (.int .u64 ((C - 1 : Nat) : Int)) from by rw [← hw2]; simp)
  have HO2 := Lib.hid (show Only (fun _ => False) w w2 from by rw [← hw2]; exact HO.out.alloc _)
  have hlt : w1.heap.size < w2.heap.size := by rw [← hw2]; simp
  clear hw2
  have hz := HO.out.size
  generalize w1.heap.size = g at *
  have c0 := HC2.out
  go_wp2_with fail
  refine (may_is C _ HC.out).mono ?_
  rintro e w3 ⟨rfl, ho⟩
  have c1 := (ho.cell (p := ⟨g, 0, none⟩) hlt (by simp)).trans HC2.out
  have HO3 := Lib.hid (HO2.out.trans ho (fun _ _ e => e))
  clear ho c0
  go_wp2
  go_ret2
  exact ⟨_, rfl, HO3.out.size, Is.made _ _ _, HO3.out.alloc _⟩

set_option maxHeartbeats 400000 in
theorem goes_nil (w : World) : Calls Try.prog 25 #[.pointer none] w fun e w' => e = .returned (.bool false) ∧ w = w' := by
  go_enter Try.func25, Try.ntmps25
  go_wp2
  go_ret
  exact ⟨rfl, rfl⟩
set_option maxHeartbeats 400000 in
theorem xtop_nil (w : World) : Calls Try.prog 10 #[.pointer none] w fun e w' => e = .returned (.tuple #[.int .u64 0, .bool false]) ∧ w = w' := by
  go_enter Try.func10, Try.ntmps10
  go_wp2
  go_ret2
  exact ⟨rfl, rfl⟩
set_option maxHeartbeats 400000 in
theorem xcut_nil (x : Int) (w : World) : Calls Try.prog 13 #[.pointer none, .int .u64 x] w fun e w' => e = .returned (.int .u32 0) ∧ w = w' := by
  go_enter Try.func13, Try.ntmps13
  go_wp2
  go_ret
  exact ⟨rfl, rfl⟩
set_option maxHeartbeats 400000 in
theorem xpeek_nil (x : Int) (w : World) : Calls Try.prog 11 #[.pointer none, .int .u32 x] w fun e w' => e = .returned (.int .u64 0) ∧ w = w' := by
  go_enter Try.func11, Try.ntmps11
  go_wp2_with (go_at_call 25; refine (goes_nil _).mono ?_; rintro e w' ⟨rfl, rfl⟩)
  go_ret
  exact ⟨rfl, rfl⟩
set_option maxHeartbeats 400000 in
theorem xnext_nil (x : Int) (w : World) : Calls Try.prog 15 #[.pointer none, .int .u32 x] w fun e w' => e = .returned (.tuple #[.int .u64 0, .bool false]) ∧ w = w' := by
  go_enter Try.func15, Try.ntmps15
  go_wp2_with (go_at_call 25; refine (goes_nil _).mono ?_; rintro e w' ⟨rfl, rfl⟩)
  go_ret2
  exact ⟨rfl, rfl⟩

set_option maxHeartbeats 400000 in
theorem goes_is (b C top : Nat) (s : Bool) (w : World) (h : XIs w b C top s) (hC : Cir C) (h1 : 1 < C) : Calls Try.prog 25 #[ptr b] w (Says (.bool true) w) := by
  obtain ⟨c0, -, -⟩ := h.cells
  clear h
  go_enter Try.func25, Try.ntmps25
  go_wp2_with fail
  refine (may_is C _ hC).mono ?_
  rintro e w2 ⟨rfl, ho⟩
  have HO := Lib.hid ho
  clear ho c0
  go_wp2
  go_ret
  exact ⟨rfl, HO.out⟩
set_option maxHeartbeats 400000 in
theorem xtop_is (b C top : Nat) (s : Bool) (w : World) (h : XIs w b C top s) : Calls Try.prog 10 #[ptr b] w (Says (.tuple #[.int .u64 (top : Int), .bool s]) w) := by
  obtain ⟨-, c1, c2⟩ := h.cells
  clear h
  go_enter Try.func10, Try.ntmps10
  go_wp2
  go_quiet (fail)
  go_wp2
  go_ret2
  exact ⟨rfl, (Only.refl _ _).drewN _⟩
set_option maxHeartbeats 400000 in
theorem xcut_is (b C top x : Nat) (s : Bool) (w : World) (h : XIs w b C top s) (hC : Cir C) (hx : x < 18446744073709551616) : Calls Try.prog 13 #[ptr b, .int .u64 (x : Int)] w (Says (.int .u32 ((x % C : Nat) : Int)) w) := by
  obtain ⟨c0, -, -⟩ := h.cells
  have H1 := Lib.hid (fun w => cut_is C x w hC hx)
  clear h hx hC
  generalize x % C = r at *
  go_enter Try.func13, Try.ntmps13
  go_wp2_with fail
  refine (H1.out _).mono ?_
  rintro e w2 ⟨rfl, ho⟩
  have HO := Lib.hid ho
  clear ho c0
  go_wp2
  go_ret
  exact ⟨rfl, HO.out⟩

/-- The lowest wide number that may be told. -/
def lowest (C top : Nat) (s : Bool) : Nat := if s then top - C / 2 else C
/-- Which wide number n would be made. -/
def peekN (C top : Nat) (s : Bool) (n : Nat) : Nat := lowest C top s + stp C (lowest C top s) n
set_option maxRecDepth 100000 in
set_option maxHeartbeats 1000000 in
theorem xpeek_is (b C top n : Nat) (s : Bool) (w : World) (h : XIs w b C top s) (hC : Cir C) (h1 : 1 < C) (ht : top < 4611686018427387904) (hs : s = true → C / 2 ≤ top) (hn : n < 4294967296) :
    Calls Try.prog 11 #[ptr b, .int .u32 (n : Int)] w (Says (.int .u64 ((peekN C top s n : Nat) : Int)) w) := by
  have hle := hC.le
  have HC := Lib.hid hC
  have HX := Lib.hid h
  have hl : lowest C top s < 4611686018427387904 := by unfold lowest; split <;> omega
  have H3 := Lib.hid (fun w => steps_is C (lowest C top s) n w hC (by omega))
  have hst := stp_lt hC (lowest C top s) n
  have hpk : (peekN C top s n : Int) = (lowest C top s : Int) + (stp C (lowest C top s) n : Int) := by unfold peekN; omega
  rw [hpk]
  clear hpk h hC
  generalize hsp : stp C (lowest C top s) n = sp at *
  clear hsp
  obtain ⟨c0, c1, c2⟩ := HX.out.cells
  go_enter Try.func11, Try.ntmps11
  go_wp2_with fail
  refine (goes_is b C top s _ HX.out HC.out h1).mono ?_
  rintro e w1 ⟨rfl, ho⟩
  have HX1 := Lib.hid (HX.out.only ho (by simp))
  have HO1 := Lib.hid ho
  clear ho c0 c1 c2
  obtain ⟨c0, c1, c2⟩ := HX1.out.cells
  go_wp2_with fail
  refine (size_is C _ HC.out).mono ?_
  rintro e w2 ⟨rfl, ho⟩
  have HX2 := Lib.hid (HX1.out.only ho (by simp))
  have HO2 := Lib.hid (HO1.out.trans ho (fun _ _ e => e))
  clear ho c0 c1 c2
  obtain ⟨c0, c1, c2⟩ := HX2.out.cells
  go_upto_if 17 with (fail)
  clear c0 c1 c2
  go_cut [5] (fun u wx => u = .int .u64 (lowest C top s : Int) ∧ XIs wx b C top s ∧ Only (fun _ => False) w wx)
  case first =>
    cases s
    · obtain ⟨c0, c1, c2⟩ := HX2.out.cells
      go_wp2_with fail
      go_meet
      exact ⟨rfl, HX2.out, HO2.out⟩
    · have hs := hs rfl
      have hlo : ((lowest C top true : Nat) : Int) = (top : Int) - ((C / 2 : Nat) : Int) := by unfold lowest; simp only [if_true]; omega
      obtain ⟨c0, c1, c2⟩ := HX2.out.cells
      have hsub : IntKind.u64.wrap ((top : Int) - ((C / 2 : Nat) : Int)) = (top : Int) - ((C / 2 : Nat) : Int) := by rw [IntKind.wrap_u64]; omega
      go_upto_region 5 with (fail)
      clear c0 c1 c2
      refine wp_region_posts [[], [0], [1, 0], [2, 1, 0], [], [4], [5, 4], [6, 5, 4], [7, 6, 5, 4], [3, 8, 2, 1, 0, 7, 6, 5, 4], [9, 8, 0, 1, 2, 3, 4, 5, 6, 7]] [8] [] [[], [], [], [], [], [], [], [], [], [], []] [[], [], [], [], [], [], [], [], [], [], []] [] [] [] []
          [some ?v0, some ?v1, some ?v2, some ?v3, some ?v4, some ?v5, some ?v6, some ?v7, some (.int .u64 ((C / 2 : Nat) : Int)), some ?v9, some ?v10]
          ?T (fun wx => XIs wx b C top true ∧ Only (fun _ => False) w wx) ?W ?E (by kernel_rfl) (by kernel_rfl) (by kernel_rfl) (fun x => ?hT) ?hF ?hini (Reg.all_ops ?runs) ?pres ?fin
      case W => exact fun j x w' => True
      case E => exact fun _ w' w'' => True
      case hT =>
        simp only [Reg.fillV, Act.put, List.setIfInBounds_toArray, List.set_cons_zero, List.set_cons_succ]
        rfl
      case runs =>
        refine And.intro ?_ ?_
        · refine Reg.ob_pure (fun _ => rfl) rfl rfl rfl rfl (fun x w1 hF => ?_)
          obtain ⟨c0, c1, c2⟩ := hF.1.cells
          go_simp
          with_reducible rfl
        refine And.intro ?_ ?_
        · refine Reg.ob_pure (fun _ => rfl) rfl rfl rfl rfl (fun x w1 hF => ?_)
          obtain ⟨c0, c1, c2⟩ := hF.1.cells
          go_simp
          with_reducible rfl
        refine And.intro ?_ ?_
        · refine Reg.ob_pure (fun _ => rfl) rfl rfl rfl rfl (fun x w1 hF => ?_)
          obtain ⟨c0, c1, c2⟩ := hF.1.cells
          go_simp
          with_reducible rfl
        refine And.intro ?_ ?_
        · refine Reg.ob_pure (fun _ => rfl) rfl rfl rfl rfl (fun x w1 hF => ?_)
          obtain ⟨c0, c1, c2⟩ := hF.1.cells
          go_simp
          with_reducible rfl
        refine And.intro ?_ ?_
        · refine Reg.ob_pure (fun _ => rfl) rfl rfl rfl rfl (fun x w1 hF => ?_)
          obtain ⟨c0, c1, c2⟩ := hF.1.cells
          go_simp
          with_reducible rfl
        refine And.intro ?_ ?_
        · refine Reg.ob_pure (fun _ => rfl) rfl rfl rfl rfl (fun x w1 hF => ?_)
          obtain ⟨c0, c1, c2⟩ := hF.1.cells
          go_simp
          with_reducible rfl
        refine And.intro ?_ ?_
        · refine Reg.ob_pure (fun _ => rfl) rfl rfl rfl rfl (fun x w1 hF => ?_)
          obtain ⟨c0, c1, c2⟩ := hF.1.cells
          go_simp
          with_reducible rfl
        refine And.intro ?_ ?_
        · refine Reg.ob_pure (fun _ => rfl) rfl rfl rfl rfl (fun x w1 hF => ?_)
          obtain ⟨c0, c1, c2⟩ := hF.1.cells
          go_simp
          with_reducible rfl
        refine And.intro ?_ ?_
        · refine Reg.ob_known (fun _ => rfl) rfl rfl (fun x w1 hF hU K hK => ?_)
          obtain ⟨h1, h2⟩ := hF rfl
          obtain ⟨c0, c1, c2⟩ := h1.cells
          go_simp
          refine (half_is C w1 HC.out).mono ?_
          rintro e w3 ⟨rfl, ho⟩
          exact hK w3 (fun _ _ _ => ⟨h1.only ho (by simp), h2.trans ho (fun _ _ e => e)⟩) trivial
        refine And.intro ?_ ?_
        · refine Reg.ob_pure (fun _ => rfl) rfl rfl rfl rfl (fun x w1 hF => ?_)
          obtain ⟨c0, c1, c2⟩ := hF.1.cells
          go_simp
          with_reducible rfl
        refine And.intro ?_ ?_
        · refine Reg.ob_pure (fun _ => rfl) rfl rfl rfl rfl (fun x w1 hF => ?_)
          obtain ⟨c0, c1, c2⟩ := hF.1.cells
          go_simp
          with_reducible rfl
        exact trivial
      case hF =>
        exact ⟨HX2.out, HO2.out.drew⟩
      case hini =>
        exact trivial
      case pres =>
        intro i hi j hj hc x w1 w2 hF hE hW
        trivial
      case fin =>
        rintro x w9 hF -
        obtain ⟨h1, h2⟩ := hF rfl
        go_wp2_with fail
        go_meet
        exact ⟨int_congr (by rw [hlo, ← hsub]; congr 1), h1, h2⟩
  case rest =>
    obtain ⟨rfl, hx, ho⟩ := hcut
    have HX3 := Lib.hid hx
    have HO3 := Lib.hid ho
    clear hx ho hs
    obtain ⟨c0, c1, c2⟩ := HX3.out.cells
    go_wp2_with fail
    refine (H3.out _).mono ?_
    rintro e w4 ⟨rfl, ho⟩
    have HO4 := Lib.hid (HO3.out.trans ho (fun _ _ e => e))
    clear ho c0 c1 c2
    go_wp2
    go_ret
    exact ⟨rfl, HO4.out⟩

/-- A number has come. -/
def Nexted (b C top : Nat) (s : Bool) (n : Nat) (w : World) (e : Ending) (w' : World) : Prop :=
  e = .returned (.tuple #[.int .u64 ((peekN C top s n : Nat) : Int), .bool (!s)]) ∧ XIs w' b C (max top (peekN C top s n)) true ∧ Only (fun k => k = b) w w'
set_option maxRecDepth 100000 in
set_option maxHeartbeats 1000000 in
theorem xnext_is (b C top n : Nat) (s : Bool) (w : World) (h : XIs w b C top s) (hC : Cir C) (h1 : 1 < C) (ht : top < 4611686018427387904) (hs : s = true → C / 2 ≤ top) (hn : n < 4294967296) :
    Calls Try.prog 15 #[ptr b, .int .u32 (n : Int)] w (Nexted b C top s n w) := by
  have HP := Lib.hid (fun w (h : XIs w b C top s) => xpeek_is b C top n s w h hC h1 ht hs hn)
  have HG := Lib.hid (fun w (h : XIs w b C top s) => goes_is b C top s w h hC h1)
  have HX := Lib.hid h
  unfold Nexted
  clear h hs ht hC
  generalize peekN C top s n = pk at *
  obtain ⟨mx, hmx⟩ : ∃ m, max top pk = m := ⟨_, rfl⟩
  have HMX := Lib.hid hmx
  rw [hmx]
  clear hmx
  go_enter Try.func15, Try.ntmps15
  go_wp2_with fail
  refine (HG.out _ HX.out).mono ?_
  rintro e w1 ⟨rfl, ho⟩
  have HX1 := Lib.hid (HX.out.only ho (by simp))
  have HO1 := Lib.hid ho
  clear ho
  go_upto_region 3 with (fail)
  refine wp_region_posts [[], [], [0, 1], [], [3], [4, 3], [5, 4, 3], [6, 5, 4, 3], [2, 0, 1], [7, 8, 0, 1, 2, 3, 4, 5, 6]] [2] [] [[], [], [], [], [], [], [], [], [], []] [[], [], [], [], [], [], [], [], [], []] [] [] [] []
      [some ?v0, some ?v1, some (.int .u64 (pk : Int)), some ?v3, some ?v4, some ?v5, some ?v6, some ?v7, some ?v8, some ?v9]
      ?T (fun wx => XIs wx b C top s ∧ Only (fun _ => False) w wx) ?W ?E (by kernel_rfl) (by kernel_rfl) (by kernel_rfl) (fun x => ?hT) ?hF ?hini (Reg.all_ops ?runs) ?pres ?fin
  case W => exact fun j x w' => True
  case E => exact fun _ w' w'' => True
  case hT =>
    simp only [Reg.fillV, Act.put, List.setIfInBounds_toArray, List.set_cons_zero, List.set_cons_succ]
    rfl
  case runs =>
    refine And.intro ?_ ?_
    · refine Reg.ob_pure (fun _ => rfl) rfl rfl rfl rfl (fun x w1 hF => ?_)
      obtain ⟨c0, c1, c2⟩ := hF.1.cells
      go_simp
      with_reducible rfl
    refine And.intro ?_ ?_
    · refine Reg.ob_pure (fun _ => rfl) rfl rfl rfl rfl (fun x w1 hF => ?_)
      obtain ⟨c0, c1, c2⟩ := hF.1.cells
      go_simp
      with_reducible rfl
    refine And.intro ?_ ?_
    · refine Reg.ob_known (fun _ => rfl) rfl rfl (fun x w1 hF hU K hK => ?_)
      obtain ⟨h1, h2⟩ := hF rfl
      go_simp
      refine (HP.out w1 h1).mono ?_
      rintro e w3 ⟨rfl, ho⟩
      exact hK w3 (fun _ _ _ => ⟨h1.only ho (by simp), h2.trans ho (fun _ _ e => e)⟩) trivial
    refine And.intro ?_ ?_
    · refine Reg.ob_pure (fun _ => rfl) rfl rfl rfl rfl (fun x w1 hF => ?_)
      obtain ⟨c0, c1, c2⟩ := hF.1.cells
      go_simp
      with_reducible rfl
    refine And.intro ?_ ?_
    · refine Reg.ob_pure (fun _ => rfl) rfl rfl rfl rfl (fun x w1 hF => ?_)
      obtain ⟨c0, c1, c2⟩ := hF.1.cells
      go_simp
      with_reducible rfl
    refine And.intro ?_ ?_
    · refine Reg.ob_pure (fun _ => rfl) rfl rfl rfl rfl (fun x w1 hF => ?_)
      obtain ⟨c0, c1, c2⟩ := hF.1.cells
      go_simp
      with_reducible rfl
    refine And.intro ?_ ?_
    · refine Reg.ob_pure (fun _ => rfl) rfl rfl rfl rfl (fun x w1 hF => ?_)
      obtain ⟨c0, c1, c2⟩ := hF.1.cells
      go_simp
      with_reducible rfl
    refine And.intro ?_ ?_
    · refine Reg.ob_pure (fun _ => rfl) rfl rfl rfl rfl (fun x w1 hF => ?_)
      obtain ⟨c0, c1, c2⟩ := hF.1.cells
      go_simp
      with_reducible rfl
    refine And.intro ?_ ?_
    · refine Reg.ob_pure (fun _ => rfl) rfl rfl rfl rfl (fun x w1 hF => ?_)
      obtain ⟨c0, c1, c2⟩ := hF.1.cells
      go_simp
      with_reducible rfl
    refine And.intro ?_ ?_
    · refine Reg.ob_pure (fun _ => rfl) rfl rfl rfl rfl (fun x w1 hF => ?_)
      obtain ⟨c0, c1, c2⟩ := hF.1.cells
      go_simp
      with_reducible rfl
    exact trivial
  case hF =>
    exact ⟨HX1.out, HO1.out.drew⟩
  case hini =>
    exact trivial
  case pres =>
    intro i hi j hj hc x w1 w2 hF hE hW
    trivial
  case fin =>
    rintro x w9 hF -
    obtain ⟨h2, h3⟩ := hF rfl
    have HX2 := Lib.hid h2
    have HO2 := Lib.hid h3
    obtain ⟨c0, c1, c2⟩ := HX2.out.cells
    have f1 := Is.free HX2.out 1
    have f2 := Is.free HX2.out 2
    clear hF h2 h3
    by_cases hgt : top < pk
    · have hg : (pk : Int) > (top : Int) := by omega
      have HM2 := Lib.hid (show mx = pk from by rw [← HMX.out]; omega)
      clear hgt
      go_wp2
      go_ret2
      rw [HM2.out]
      exact ⟨rfl, (Is.put HX2.out 1 _).put 2 _, Only.set (S := fun k => k = b) (p := ⟨b, 2, none⟩) (Only.set (S := fun k => k = b) (p := ⟨b, 1, none⟩) (HO2.out.mono (fun _ _ h => h.elim)) (fun _ => rfl) _) (fun _ => rfl) _⟩
    · have hg : ¬ (pk : Int) > (top : Int) := by omega
      have HM2 := Lib.hid (show mx = top from by rw [← HMX.out]; omega)
      clear hgt
      go_wp2
      go_ret2
      rw [HM2.out]
      exact ⟨rfl, (Is.put HX2.out 1 _).put 2 _, Only.set (S := fun k => k = b) (p := ⟨b, 2, none⟩) (Only.set (S := fun k => k = b) (p := ⟨b, 1, none⟩) (HO2.out.mono (fun _ _ h => h.elim)) (fun _ => rfl) _) (fun _ => rfl) _⟩
end Go.Proofs.Ythnaekmceakdaaa
