/- slices.Sort of numbers of 32 digits: reverseRange, partialInsertionSort of short ones, order2, median, choosePivot. Conditions: as each says. -/
import Derived.Test.YtelfeedaadkhnaaSoRd
import Derived.Test.YtelfeedaadkhnaaSoB
set_option linter.unusedVariables false
set_option linter.unusedSimpArgs false
namespace Go.Proofs.Ytelfeedaadkhnaa
open Go Go.RowKit

set_option maxRecDepth 100000 in
set_option maxHeartbeats 4000000 in
theorem rev_is (B g c N a b : Nat) (f : Nat → Nat) (w : World) (hN : N ≤ 1000) (hab : a < b) (hb : b ≤ N) (hR : Rw B g c N f w w) :
    Calls Try.prog 70 #[.slice (some ⟨g, 0, none⟩) N c, .int .i64 (a : Int), .int .i64 (b : Int)] w (Sd B g c N a b f (fun _ => True) w) := by
  obtain ⟨j, hj⟩ : ∃ j, b = j + 1 := ⟨b - 1, by omega⟩
  have eJ : IntKind.i64.wrap ((b : Int) - 1) = (j : Int) := by rw [IntKind.wrap_i64]; omega
  have R0 := Lib.hid (show (a ≤ a ∧ j < b ∧ a ≤ j + 1) ∧ Mv a b f f ∧ Rw B g c N f w w from ⟨by omega, Mv.refl _ _ _, hR⟩)
  clear hR hj
  go_enter Try.func70, Try.ntmps70
  go_wp2
  go_loopw [6, 7] (fun s6 s7 wx => ∃ (i j : Nat) (f1 : Nat → Nat), s6 = .int .i64 (i : Int) ∧ s7 = .int .i64 (j : Int) ∧ Hid ((a ≤ i ∧ j < b ∧ i ≤ j + 1) ∧ Mv a b f f1 ∧ Rw B g c N f1 w wx)) (fun _ s7 _ => (intOf s7).toNat)
  case atStart => exact ⟨a, j, f, rfl, rfl, R0⟩
  case round =>
    clear R0 eJ
    obtain ⟨i, j, f1, rfl, rfl, H⟩ := hrel
    obtain ⟨⟨h1, h2, h3⟩, hmv, hr⟩ := H.out
    by_cases hlt : i < j
    · have hltI : (i : Int) < (j : Int) := by omega
      obtain ⟨q, rfl⟩ : ∃ q, j = q + 1 := ⟨j - 1, by omega⟩
      have HM := Lib.hid (hmv.trans (Mv.swap f1 (i := i) (j := q + 1) (by omega) (by omega)))
      clear H hmv
      go_upto_region 3 with (fail)
      refine rev3 B g c N f1 w i (q + 1) (by omega) (by omega) hN _ _ _ _ _ _ _ _ _ _ _ _ _ _ _ _ _ _ _ _ _ _ _ _ _ _ _ _ _ _ _ hr ?_
      rintro y14 y15 y16 y17 y18 y19 y20 y21 y22 y23 y24 y25 y26 y27 w2 h4
      have HH := Lib.hid (show (a ≤ i + 1 ∧ q < b ∧ i + 1 ≤ q + 1) ∧ Mv a b f (swp f1 i (q + 1)) ∧ Rw B g c N (swp f1 i (q + 1)) w w2 from ⟨by omega, HM.out, h4⟩)
      clear h4 hr
      go_wp2
      exact ⟨⟨i + 1, q, _, by go_num, by go_num, HH⟩, by simp [intOf]⟩
    · have hltI : ¬ (i : Int) < (j : Int) := by omega
      clear hmv hr
      go_wp2
      go_end0
      exact ⟨rfl, f1, H.out.2.2, H.out.2.1, trivial⟩
set_option maxRecDepth 100000 in
set_option maxHeartbeats 4000000 in
theorem pis_is (B g c N a b : Nat) (f : Nat → Nat) (w : World) (hN : N ≤ 1000) (hab : a < b) (hb : b ≤ N) (hs : b < a + 50) (hR : Rw B g c N f w w) :
    Calls Try.prog 71 #[.slice (some ⟨g, 0, none⟩) N c, .int .i64 (a : Int), .int .i64 (b : Int)] w fun e w' => ∃ v : Bool, e = .returned (.bool v) ∧ Rw B g c N f w w' ∧ (v = true → Srt a b f) := by
  have eD : IntKind.i64.wrap ((b : Int) - (a : Int)) = (b : Int) - (a : Int) := by rw [IntKind.wrap_i64]; omega
  have eS : (b : Int) - (a : Int) < 50 := by omega
  have R0 := Lib.hid (show a + 1 ≤ b ∧ Srt a (a + 1) f ∧ Rw B g c N f w w from ⟨by omega, fun x y _ _ _ => by omega, hR⟩)
  clear hR
  go_enter Try.func71, Try.ntmps71
  go_wp2
  go_loopw [7, 8] (fun s7 s8 wx => s7 = .int .i64 ((a : Int) + 1) ∧ s8 = .int .i64 0 ∧ Hid (Rw B g c N f w wx)) (fun _ _ _ => 0)
  case atStart => exact ⟨rfl, rfl, Lib.hid R0.out.2.2⟩
  case round =>
    obtain ⟨rfl, rfl, hrr⟩ := hrel
    replace R0 := Lib.hid (show a + 1 ≤ b ∧ Srt a (a + 1) f ∧ Rw B g c N f w wr from ⟨R0.out.1, R0.out.2.1, hrr.out⟩)
    clear hrr
    go_wp2
    go_loopw [7] (fun s7 wx => ∃ q : Nat, s7 = .int .i64 ((q : Int) + 1) ∧ a ≤ q ∧ Hid (q + 1 ≤ b ∧ Srt a (q + 1) f ∧ Rw B g c N f w wx)) (fun s7 _ => N + 1 - (intOf s7).toNat)
    case atStart => exact ⟨a, rfl, Nat.le_refl _, R0⟩
    case round =>
      clear R0
      obtain ⟨q, rfl, haq, H⟩ := hrel
      obtain ⟨hqb, hsr, hr⟩ := H.out
      go_upto_region 5 with (fail)
      refine pis5c B g c N f w b q (by omega) (by omega) hN _ _ _ _ _ _ _ _ _ _ _ _ _ _ _ _ _ _ _ _ _ _ _ _ _ _ _ _ _ _ _ _ _ _ _ _ _ _ _ _ _ _ _ _ _ _ _ _ _ _ _ _ _ _ _ _ _ _ _ _ _ _ _ _ _ _ _ _ _ _ _ _ _ _ _ _ _ _ _ _ _ _ _ _ _ _ _ _ _ _ _ _ _ _ _ _ _ _ _ _ _ _ _ _ _ _ _ _ _ _ _ _ _ _ _ _ _ _ _ _ _ _ _ _ _ _ _ _ _ _ _ _ hr ?_
      rintro y17 y18 y19 y20 y21 y22 y23 y24 y25 y26 y27 y28 y29 y30 y31 w2 h2
      cases hv : (decide (q + 1 < b) && !(decide (f (q + 1) < f q))) with
      | true =>
        simp only [Bool.and_eq_true, decide_eq_true_eq, Bool.not_eq_true', decide_eq_false_iff_not] at hv
        have HH := Lib.hid (show q + 1 + 1 ≤ b ∧ Srt a (q + 1 + 1) f ∧ Rw B g c N f w w2 from ⟨by omega, fun x y h1 h2 h3 => by
          by_cases e1 : y = q + 1
          · subst e1
            by_cases e2 : x = q
            · subst e2; have := hv.2; omega
            · have h4 := hsr x q h1 (by omega) (by omega)
              have := hv.2
              omega
          · exact hsr x y h1 h2 (by omega), h2⟩)
        clear hv hsr hr h2 H
        go_wp2
        exact ⟨⟨q + 1, by go_num, by omega, HH⟩, by simp [intOf]; omega⟩
      | false =>
        clear hv hr H
        have H2 := Lib.hid h2
        clear h2
        by_cases he : q + 1 = b
        · subst he
          have HS := Lib.hid hsr
          clear hsr eS eD
          go_wp2
          go_ret
          exact ⟨true, rfl, H2.out, fun _ => HS.out⟩
        · have heI : ¬ (q : Int) + 1 = (b : Int) := by omega
          clear hsr
          go_wp2
          go_ret
          exact ⟨false, rfl, H2.out, fun h => by cases h⟩
theorem Rw.other {B g c N sb : Nat} {f : Nat → Nat} {w0 wx : World} {cs : Array Value} (h : Rw B g c N f w0 wx) (hI : Is wx sb 3 cs) (hsb : w0.heap.size ≤ sb) (u : Value) : Rw B g c N f w0 (wx.setCell ⟨sb, 0, none⟩ u) := by
  have ho : Only (fun k => k = sb) wx (wx.setCell ⟨sb, 0, none⟩ u) := Only.set (S := fun k => k = sb) (p := ⟨sb, 0, none⟩) (Only.refl _ wx) (fun _ => rfl) u
  exact ⟨OwnS.only h.own ho (fun j hj e => owned_off h.own.1 hI (by decide) (by rw [hj, e])), h.only.trans ho (fun i hi e => by omega)⟩
theorem Rw.keeps {B g c N sb : Nat} {f : Nat → Nat} {w0 wx wy : World} {cs : Array Value} (h : Rw B g c N f w0 wx) (k : Rw B g c N f wx wy) (hI : Is wx sb 3 cs) : Is wy sb 3 cs :=
  hI.only k.only (fun e => owned_off h.own.1 hI (by decide) (by rw [e]; rfl))
/-- Amid choosePivot: the row, and how many exchanges. -/
structure Cv (B g c N : Nat) (f : Nat → Nat) (sb : Nat) (w0 : World) (z : Nat) (wx : World) : Prop where
  rw_ : Rw B g c N f w0 wx
  is : Is wx sb 3 #[.int .i64 (z : Int)]
  hsb : w0.heap.size ≤ sb
set_option maxRecDepth 100000 in
set_option maxHeartbeats 4000000 in
theorem order2_is (B g c N i j sb z : Nat) (f : Nat → Nat) (w0 w : World) (hN : N ≤ 1000) (hi : i < N) (hj : j < N) (hz : z ≤ 100) (h : Cv B g c N f sb w0 z w) :
    Calls Try.prog 83 #[.slice (some ⟨g, 0, none⟩) N c, .int .i64 (i : Int), .int .i64 (j : Int), ptr sb] w fun e w' => ∃ x y z' : Nat, e = .returned (.tuple #[.int .i64 (x : Int), .int .i64 (y : Int)]) ∧ ((x = i ∧ y = j) ∨ (x = j ∧ y = i)) ∧ z' ≤ z + 1 ∧ Cv B g c N f sb w0 z' w' := by
  have H := Lib.hid h
  clear h
  go_enter Try.func83, Try.ntmps83
  go_upto_region 1 with (fail)
  refine ord1 B g c N f w i j hj hi hN _ _ _ _ _ _ _ _ _ _ _ _ _ _ _ _ _ _ _ _ _ _ _ _ _ _ _ H.out.rw_.re ?_
  rintro y10 y11 y12 y13 y14 y15 y16 y17 w2 h2
  have HI := Lib.hid (H.out.rw_.keeps h2 H.out.is)
  have H2 := Lib.hid (H.out.rw_.from_ h2)
  clear h2
  by_cases hl : f j < f i
  · rw [decide_eq_true hl]
    have c0 : w2.cell? ⟨sb, 0, none⟩ = some (.int .i64 (z : Int)) := HI.out.cell 0
    have f0 := HI.out.free 0
    have HF := Lib.hid (show Cv B g c N f sb w0 (z + 1) (w2.setCell ⟨sb, 0, none⟩ (.int .i64 ((z : Int) + 1))) from ⟨H2.out.other HI.out H.out.hsb _, HI.out.put 0 _, H.out.hsb⟩)
    clear hl
    go_wp2
    go_ret2
    exact ⟨j, i, z + 1, rfl, .inr ⟨rfl, rfl⟩, by omega, HF.out⟩
  · rw [decide_eq_false hl]
    clear hl
    go_wp2
    go_ret2
    exact ⟨i, j, z, rfl, .inl ⟨rfl, rfl⟩, by omega, H2.out, HI.out, H.out.hsb⟩
set_option maxRecDepth 100000 in
set_option maxHeartbeats 4000000 in
theorem median_is (B g c N i j k sb z : Nat) (f : Nat → Nat) (w0 w : World) (hN : N ≤ 1000) (hi : i < N) (hj : j < N) (hk : k < N) (hz : z ≤ 50) (h : Cv B g c N f sb w0 z w) :
    Calls Try.prog 81 #[.slice (some ⟨g, 0, none⟩) N c, .int .i64 (i : Int), .int .i64 (j : Int), .int .i64 (k : Int), ptr sb] w fun e w' => ∃ x z' : Nat, e = .returned (.int .i64 (x : Int)) ∧ (x = i ∨ x = j ∨ x = k) ∧ z' ≤ z + 3 ∧ Cv B g c N f sb w0 z' w' := by
  have H := Lib.hid h
  clear h
  go_enter Try.func81, Try.ntmps81
  go_wp2_with fail
  refine (order2_is B g c N i j sb z f w0 _ hN hi hj (by omega) H.out).mono ?_
  rintro e w1 ⟨a1, b1, z1, rfl, hab1, hz1, h1⟩
  have H1 := Lib.hid h1
  have HAB := Lib.hid hab1
  clear h1 hab1
  go_wp2_with fail
  refine (order2_is B g c N b1 k sb z1 f w0 _ hN (by rcases HAB.out with h | h <;> omega) hk (by omega) H1.out).mono ?_
  rintro e w2 ⟨b2, c2, z2, rfl, hbc, hz2, h2⟩
  have H2 := Lib.hid h2
  have HBC := Lib.hid hbc
  clear h2 hbc
  go_wp2_with fail
  refine (order2_is B g c N a1 b2 sb z2 f w0 _ hN (by rcases HAB.out with h | h <;> omega) (by rcases HAB.out with h | h <;> rcases HBC.out with h' | h' <;> omega) (by omega) H2.out).mono ?_
  rintro e w3 ⟨a3, b3, z3, rfl, hab3, hz3, h3⟩
  have H3 := Lib.hid h3
  have HA3 := Lib.hid hab3
  clear h3 hab3
  go_wp2
  go_ret
  exact ⟨b3, z3, rfl, by rcases HAB.out with h | h <;> rcases HBC.out with h' | h' <;> rcases HA3.out with h'' | h'' <;> omega, by omega, H3.out⟩
end Go.Proofs.Ytelfeedaadkhnaa
