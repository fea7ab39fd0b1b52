/- Ahead, Between; the chapter's examples (works); an extender that is not there (WideNone's walk). Conditions: as each says. -/
import Derived.Test.YthnaekmceakdaaaWdB
set_option linter.unusedVariables false
namespace Go.Proofs.Ythnaekmceakdaaa
open Go.RowKit

/-- Is the one ahead of the other one? -/
def aheadB (z : Int) (a b : Nat) : Bool := decide (0 < stp (cirOf z) b a ∧ stp (cirOf z) b a < cirOf z / 2)
set_option maxHeartbeats 1000000 in
theorem ahead_is (z : Int) (a b : Nat) (w : World) (ha : a < 4294967296) (hb : b < 4294967296) : Calls Try.prog 17 #[.int .i64 z, .int .u32 (a : Int), .int .u32 (b : Int)] w (Says (.bool (aheadB z a b)) w) := by
  have HC := Lib.hid (cirOf_cir z)
  have H1 := Lib.hid (circleOf_is z w)
  have hst := stp_lt HC.out b a
  have hle := HC.out.le
  have H3 := Lib.hid (fun w => steps_is (cirOf z) b a w HC.out (by omega))
  unfold aheadB
  generalize stp (cirOf z) b a = n at *
  generalize cirOf z = C at *
  obtain ⟨h, hh⟩ : ∃ h, C / 2 = h := ⟨_, rfl⟩
  have HH := Lib.hid (fun w => half_is C w HC.out)
  rw [hh] at HH ⊢
  have hle2 : h ≤ C := by omega
  obtain ⟨r, hr⟩ : ∃ r, decide (0 < n ∧ n < h) = r := ⟨_, rfl⟩
  have HR := Lib.hid hr
  rw [hr]
  clear hh hr
  go_enter Try.func17, Try.ntmps17
  go_wp2_with fail
  refine H1.out.mono ?_
  rintro e w1 ⟨rfl, ho⟩
  have HO := Lib.hid ho
  clear ho
  go_upto_region 2 with (fail)
  generalize hw2 : World.alloc w1 _ = w2
  have HC2 := Lib.hid (show w2.cell? ⟨w1.heap.size, 0, none⟩ = some (.int .u64 ((C - 1 : Nat) : Int)) from by rw [← hw2]; simp)
  have HO2 := Lib.hid (show Only (fun _ => False) w w2 from by rw [← hw2]; exact HO.out.alloc _)
  have hlt : w1.heap.size < w2.heap.size := by rw [← hw2]; simp
  clear hw2
  generalize w1.heap.size = g at *
  have c0 := HC2.out
  go_wp2_with fail
  refine (H3.out _).mono ?_
  rintro e w3 ⟨rfl, ho⟩
  have HC3 := Lib.hid ((ho.cell (p := ⟨g, 0, none⟩) hlt (by simp)).trans HC2.out)
  have HO3 := Lib.hid (HO2.out.trans ho (fun _ _ e => e))
  clear ho c0 HC2
  have c0 := HC3.out
  by_cases hn : 0 < n
  · go_wp2_with fail
    refine (HH.out _).mono ?_
    rintro e w4 ⟨rfl, ho⟩
    have HO4 := Lib.hid (HO3.out.trans ho (fun _ _ e => e))
    clear ho c0
    go_wp2
    go_ret
    exact ⟨by rw [← HR.out]; simp [hn], HO4.out⟩
  · obtain rfl : n = 0 := by omega
    clear hn
    go_wp2
    go_ret
    exact ⟨by rw [← HR.out]; rfl, HO3.out⟩
set_option maxHeartbeats 1000000 in
theorem between_is (z : Int) (a b : Nat) (w : World) (ha : a < 4294967296) (hb : b < 4294967296) : Calls Try.prog 19 #[.int .i64 z, .int .u32 (a : Int), .int .u32 (b : Int)] w (Says (.int .u32 ((stp (cirOf z) a b : Nat) : Int)) w) := by
  have HC := Lib.hid (cirOf_cir z)
  have H1 := Lib.hid (circleOf_is z w)
  have hst := stp_lt HC.out a b
  have hle := HC.out.le
  have H3 := Lib.hid (fun w => steps_is (cirOf z) a b w HC.out (by omega))
  generalize stp (cirOf z) a b = n at *
  generalize cirOf z = C at *
  have hn : n < 4294967296 := by omega
  go_enter Try.func19, Try.ntmps19
  go_wp2_with fail
  refine H1.out.mono ?_
  rintro e w1 ⟨rfl, ho⟩
  have HO := Lib.hid ho
  clear ho
  go_wp2_with fail
  refine (H3.out _).mono ?_
  rintro e w3 ⟨rfl, ho⟩
  have HO3 := Lib.hid (HO.out.trans ho (fun _ _ e => e))
  clear ho
  go_wp2
  go_ret
  exact ⟨rfl, HO3.out⟩

def wkIn : List Nat := [65534, 65535, 1, 0, 32769, 32768]
def wkOut : List Nat := [131070, 131071, 131073, 131072, 98305, 163840]
def wkTop : List Nat := [0, 131070, 131071, 131073, 131073, 131073, 163840]
/-- Before round k. -/
structure WkAt (b g h k : Nat) (w wr : World) : Prop where
  x : XIs wr b 65536 (wkTop.getD k 0) (decide (0 < k))
  i : Is wr g 23 #[.int .u32 65534, .int .u32 65535, .int .u32 1, .int .u32 0, .int .u32 32769, .int .u32 32768]
  o : Is wr h 24 #[.int .u64 131070, .int .u64 131071, .int .u64 131073, .int .u64 131072, .int .u64 98305, .int .u64 163840]
  only : Only (fun _ => False) w wr
theorem WkAt.next {b g h k : Nat} {w wr w1 : World} (H : WkAt b g h k w wr) (hk : k < 6) (hb : w.heap.size ≤ b) {e : Ending} (hn : Nexted b 65536 (wkTop.getD k 0) (decide (0 < k)) (wkIn.getD k 0) wr e w1) :
    e = .returned (.tuple #[.int .u64 ((wkOut.getD k 0 : Nat) : Int), .bool (decide (k = 0))]) ∧ WkAt b g h (k + 1) w w1 := by
  obtain ⟨he, hx, ho⟩ := hn
  have hg : g ≠ b := Is.apart (t := 23) (u := 55) H.i H.x (by decide)
  have hh : h ≠ b := Is.apart (t := 24) (u := 55) H.o H.x (by decide)
  have hO : Only (fun _ => False) w w1 := H.only.trans ho (fun i hi e => by omega)
  have hi := H.i.only ho hg
  have hoo := H.o.only ho hh
  have hk' : k = 0 ∨ k = 1 ∨ k = 2 ∨ k = 3 ∨ k = 4 ∨ k = 5 := by omega
  rcases hk' with rfl | rfl | rfl | rfl | rfl | rfl
  all_goals exact ⟨he, hx, hi, hoo, hO⟩

set_option maxRecDepth 100000 in
set_option maxHeartbeats 4000000 in
theorem wworks_is (w : World) : Calls Try.prog 8 #[] w (Says (.bool true) w) := by
  have hA : aheadB 16 1 65535 = true := by decide
  have hB : stp (cirOf 16) 65535 1 = 2 := by decide
  have HA := Lib.hid (fun w => ahead_is 16 1 65535 w (by decide) (by decide))
  have HB := Lib.hid (fun w => between_is 16 65535 1 w (by decide) (by decide))
  rw [hA] at HA
  rw [hB] at HB
  have hc : cirOf 16 = 65536 := rfl
  have HN := Lib.hid (xnew_is 16 w (by decide))
  rw [hc] at HN
  clear hA hB hc
  go_enter Try.func8, Try.ntmps8
  go_wp2_with fail
  refine HN.out.mono ?_
  rintro e w1 ⟨b, rfl, hb, hx, ho⟩
  have HX := Lib.hid hx
  have HO := Lib.hid ho
  clear hx ho
  go_upto_region 6 with (fail)
  obtain ⟨g, hg⟩ : ∃ g, w1.heap.size = g := ⟨_, rfl⟩
  obtain ⟨h, hh⟩ : ∃ h, w1.heap.size + 1 = h := ⟨_, rfl⟩
  generalize hw2 : World.alloc (World.alloc w1 _) _ = w2
  have W0 := Lib.hid (show WkAt b g h 0 w w2 from by
    rw [← hw2, ← hg, ← hh]
    refine ⟨(Is.alloc HX.out _).alloc _, (Is.made w1 _ _).alloc _, ?_, (HO.out.alloc _).alloc _⟩
    have := Is.made (w1.alloc (.cells #[.int .u32 65534, .int .u32 65535, .int .u32 1, .int .u32 0, .int .u32 32769, .int .u32 32768] 23)) 24 #[.int .u64 131070, .int .u64 131071, .int .u64 131073, .int .u64 131072, .int .u64 98305, .int .u64 163840]
    simpa using this)
  rw [hh, hg]
  clear hw2 hg hh
  go_wp2
  go_loopw [5] (fun i wr => ∃ k : Nat, k ≤ 6 ∧ i = .int .i64 k ∧ WkAt b g h k w wr) (fun i _ => 6 - (intOf i).toNat)
  case atStart => exact ⟨0, by omega, rfl, W0.out⟩
  case round =>
    obtain ⟨k, hk, rfl, hW⟩ := hrel
    have HW := Lib.hid hW
    clear hW W0
    by_cases hlt : k < 6
    · obtain ⟨n, hn, hnl⟩ : ∃ n, wkIn.getD k 0 = n ∧ n < 4294967296 := ⟨_, rfl, by
        have hk' : k = 0 ∨ k = 1 ∨ k = 2 ∨ k = 3 ∨ k = 4 ∨ k = 5 := by omega
        rcases hk' with rfl | rfl | rfl | rfl | rfl | rfl <;> decide⟩
      obtain ⟨o, hoo⟩ : ∃ n, wkOut.getD k 0 = n := ⟨_, rfl⟩
      have ci : wr.cell? ⟨g, k, none⟩ = some (.int .u32 (n : Int)) := by
        rw [HW.out.i.cell, ← hn]
        have hk' : k = 0 ∨ k = 1 ∨ k = 2 ∨ k = 3 ∨ k = 4 ∨ k = 5 := by omega
        rcases hk' with rfl | rfl | rfl | rfl | rfl | rfl <;> rfl
      have HN := Lib.hid (fun w1 e (q : Nexted b 65536 (wkTop.getD k 0) (decide (0 < k)) (wkIn.getD k 0) wr e w1) => HW.out.next hlt hb q)
      rw [hn, hoo] at HN
      have HNX := Lib.hid (xnext_is b 65536 (wkTop.getD k 0) n (decide (0 < k)) wr HW.out.x ⟨16, by decide, rfl⟩ (by decide)
        (by have hk' : k = 0 ∨ k = 1 ∨ k = 2 ∨ k = 3 ∨ k = 4 ∨ k = 5 := by omega
            rcases hk' with rfl | rfl | rfl | rfl | rfl | rfl <;> decide)
        (by have hk' : k = 0 ∨ k = 1 ∨ k = 2 ∨ k = 3 ∨ k = 4 ∨ k = 5 := by omega
            rcases hk' with rfl | rfl | rfl | rfl | rfl | rfl <;> decide) hnl)
      have HCO := Lib.hid (fun (w1 : World) (q : Is w1 h 24 #[.int .u64 131070, .int .u64 131071, .int .u64 131073, .int .u64 131072, .int .u64 98305, .int .u64 163840]) => show w1.cell? ⟨h, k, none⟩ = some (.int .u64 (o : Int)) from by
        rw [q.cell, ← hoo]
        have hk' : k = 0 ∨ k = 1 ∨ k = 2 ∨ k = 3 ∨ k = 4 ∨ k = 5 := by omega
        rcases hk' with rfl | rfl | rfl | rfl | rfl | rfl <;> rfl)
      clear hn hoo
      go_wp2_with fail
      refine HNX.out.mono ?_
      intro e w3 q
      obtain ⟨rfl, hw3⟩ := HN.out w3 e q
      have HW3 := Lib.hid hw3
      clear q hw3 ci
      have co := HCO.out w3 HW3.out.o
      by_cases hk0 : k = 0
      · subst hk0
        go_wp2
        go_roundw
        case rel => exact ⟨1, by omega, rfl, HW3.out⟩
        case measure => simp [intOf]
      · have hd : decide (k = 0) = false := by simp [hk0]
        rw [hd]
        have hd2 : ((k : Int) == 0) = false := by simp [hk0]
        clear hd
        go_wp2
        go_roundw
        case rel => exact ⟨k + 1, by omega, by go_num, HW3.out⟩
        case measure => simp [intOf]; omega
    · obtain rfl : k = 6 := by omega
      clear hlt hk
      go_wp2_with fail
      refine (HA.out _).mono ?_
      rintro e w4 ⟨rfl, ho⟩
      have HO4 := Lib.hid (HW.out.only.trans ho (fun _ _ e => e))
      clear ho
      go_wp2_with fail
      refine (HB.out _).mono ?_
      rintro e w5 ⟨rfl, ho⟩
      have HO5 := Lib.hid (HO4.out.trans ho (fun _ _ e => e))
      clear ho
      go_wp2
      go_ret
      exact ⟨rfl, HO5.out⟩

set_option maxHeartbeats 1000000 in
theorem wnone_walk (n x : Int) (w : World) : Calls Try.prog 6 #[.int .u32 n, .int .u64 x] w (Says (.bool true) w) := by
  go_enter Try.func6, Try.ntmps6
  go_wp2_with fail
  refine (xnext_nil _ _).mono ?_
  rintro e w' ⟨rfl, rfl⟩
  go_wp2_with fail
  refine (xtop_nil _).mono ?_
  rintro e w' ⟨rfl, rfl⟩
  go_wp2_with fail
  refine (xpeek_nil _ _).mono ?_
  rintro e w' ⟨rfl, rfl⟩
  go_wp2_with fail
  refine (xcut_nil _ _).mono ?_
  rintro e w' ⟨rfl, rfl⟩
  go_wp2_with fail
  refine (wworks_is _).mono ?_
  rintro e w1 ⟨rfl, ho⟩
  have HO := Lib.hid ho
  clear ho
  go_wp2
  go_ret
  exact ⟨rfl, HO.out⟩
end Go.Proofs.Ythnaekmceakdaaa
