/- slices.Sort of numbers of 32 digits: heapSort. Conditions: as each says. -/
import Derived.Test.YtelfeedaadkhnaaSoC
set_option linter.unusedVariables false
set_option linter.unusedSimpArgs false
namespace Go.Proofs.Ytelfeedaadkhnaa
open Go Go.RowKit

/-- The first q are a heap, the others are sorted, and no less. -/
structure Hp (a n q : Nat) (f : Nat → Nat) : Prop where
  le : q ≤ n
  heap : ∀ p, HeapAt a q p f
  tail : ∀ x y, a + q ≤ x → x < y → y < a + n → f x ≤ f y
  cross : ∀ x y, a ≤ x → x < a + q → a + q ≤ y → y < a + n → f x ≤ f y
section
variable {a n q : Nat} {f f' : Nat → Nat}
theorem Hp.start (h : ∀ p, 0 ≤ p → HeapAt a n p f) : Hp a n n f := ⟨Nat.le_refl _, fun p => h p (by omega), fun x y h1 h2 h3 => by omega, fun x y h1 h2 h3 h4 => by omega⟩
theorem Hp.pre (h : Hp a n (q + 1) f) : ∀ p, 0 < p → HeapAt a q p (swp f a (a + q)) := fun p hp k hk hkq => by
  rw [swp_o f (by omega) (by omega), swp_o f (by omega) (by omega)]
  exact h.heap p k hk (by omega)
theorem Hp.max (h : Hp a n (q + 1) f) (x : Nat) (h1 : a ≤ x) (h2 : x < a + (q + 1)) : f x ≤ f a := by
  have := heap_max h.heap (x - a) (by omega)
  rwa [show a + (x - a) = x by omega] at this
theorem Hp.step (h : Hp a n (q + 1) f) (hm : Mv a (a + q) (swp f a (a + q)) f') (hh : ∀ p, 0 ≤ p → HeapAt a q p f') : Hp a n q f' := by
  have hq := h.le
  have eq : f' (a + q) = f a := by rw [hm.out _ (.inr (Nat.le_refl _)), swp_r]
  have eo : ∀ y, a + q < y → f' y = f y := fun y hy => by rw [hm.out _ (.inr (by omega)), swp_o f (by omega) (by omega)]
  have ei : ∀ x, a ≤ x → x < a + q → ∃ j, a ≤ j ∧ j < a + (q + 1) ∧ f' x = f j := fun x h1 h2 => by
    obtain ⟨j, h3, h4, e⟩ := hm.in_ x ⟨h1, h2⟩
    by_cases e1 : j = a
    · subst e1
      exact ⟨j + q, by omega, by omega, by rw [e, swp_l]⟩
    · exact ⟨j, h3, by omega, by rw [e, swp_o f e1 (by omega)]⟩
  refine ⟨by omega, fun p => hh p (by omega), fun x y h1 h2 h3 => ?_, fun x y h1 h2 h3 h4 => ?_⟩
  · by_cases e : x = a + q
    · rw [e, eq, eo y (by omega)]
      exact h.cross a y (Nat.le_refl _) (by omega) (by omega) h3
    · rw [eo x (by omega), eo y (by omega)]
      exact h.tail x y (by omega) h2 h3
  · obtain ⟨j, h5, h6, e⟩ := ei x h1 h2
    rw [e]
    by_cases e1 : y = a + q
    · rw [e1, eq]
      exact h.max j h5 h6
    · rw [eo y (by omega)]
      exact h.cross j y h5 h6 (by omega) h4
theorem Hp.fin (h : Hp a n 0 f) : Srt a (a + n) f := fun x y h1 h2 h3 => h.tail x y (by omega) h2 h3
end
set_option maxRecDepth 100000 in
set_option maxHeartbeats 4000000 in
theorem heap_is (B g c N a b : Nat) (f : Nat → Nat) (w : World) (hN : N ≤ 1000) (hab : a < b) (hb : b ≤ N) (hR : Rw B g c N f w w) :
    Calls Try.prog 67 #[.slice (some ⟨g, 0, none⟩) N c, .int .i64 (a : Int), .int .i64 (b : Int)] w (Sd B g c N a b f (fun f' => Srt a b f') w) := by
  obtain ⟨n1, hn1⟩ : ∃ n1, b = a + (n1 + 1) := ⟨b - a - 1, by omega⟩
  obtain ⟨q0, hq0⟩ : ∃ q0, n1 / 2 = q0 := ⟨_, rfl⟩
  have eA : (n1 : Int).tdiv 2 = (q0 : Int) := by rw [Int.tdiv_eq_ediv_of_nonneg (by omega)]; omega
  have eB : (n1 : Int) / 2 = (q0 : Int) := by omega
  have eC : IntKind.i64.wrap (q0 : Int) = (q0 : Int) := by rw [IntKind.wrap_i64]; omega
  have eD : IntKind.i64.wrap ((b : Int) - (a : Int)) = ((n1 : Int) + 1) := by rw [IntKind.wrap_i64]; omega
  have eE : IntKind.i64.wrap (n1 : Int) = (n1 : Int) := by rw [IntKind.wrap_i64]; omega
  have HB := Lib.hid hn1
  have hq : q0 ≤ n1 := by omega
  have R0 := Lib.hid (show q0 + 1 ≤ n1 + 1 ∧ Mv a b f f ∧ (∀ p, q0 + 1 ≤ p → HeapAt a (n1 + 1) p f) ∧ Rw B g c N f w w from ⟨by omega, Mv.refl _ _ _, fun p hp k hk hkn => by omega, hR⟩)
  have hs : a + (n1 + 1) ≤ N := by omega
  clear hR hn1 hq0
  go_enter Try.func67, Try.ntmps67
  go_wp2
  go_loopw [9] (fun s9 wr => ∃ (q : Nat) (f1 : Nat → Nat), s9 = .int .i64 ((q : Int) - 1) ∧ Hid (q ≤ n1 + 1 ∧ Mv a b f f1 ∧ (∀ p, q ≤ p → HeapAt a (n1 + 1) p f1) ∧ Rw B g c N f1 w wr)) (fun s9 _ => (intOf s9 + 1).toNat)
  case atStart => exact ⟨q0 + 1, f, int_congr (by omega), R0⟩
  case round =>
    obtain ⟨q, f1, rfl, H⟩ := hrel
    clear eA eB eC R0
    rcases q with _ | q
    · have R1 := Lib.hid (show Mv a b f f1 ∧ Hp a (n1 + 1) (n1 + 1) f1 ∧ Rw B g c N f1 w wr from ⟨H.out.2.1, Hp.start (fun p _ => H.out.2.2.1 p (by omega)), H.out.2.2.2⟩)
      clear H
      rw [show ((0 : Nat) : Int) - 1 = -1 from rfl]
      go_wp2
      go_loopw [10] (fun s10 wx => ∃ (q : Nat) (f2 : Nat → Nat), s10 = .int .i64 ((q : Int) - 1) ∧ Hid (Mv a b f f2 ∧ Hp a (n1 + 1) q f2 ∧ Rw B g c N f2 w wx)) (fun s10 _ => (intOf s10 + 1).toNat)
      case atStart => exact ⟨n1 + 1, f1, int_congr (by omega), R1⟩
      case round =>
        obtain ⟨q, f2, rfl, H⟩ := hrel
        clear R1 eD eE
        rcases q with _ | q
        · go_wp2
          go_end0
          exact ⟨rfl, f2, H.out.2.2, H.out.1, by rw [HB.out]; exact H.out.2.1.fin⟩
        · obtain ⟨hmv, hp, hr⟩ := H.out
          have hqn := hp.le
          have HP := Lib.hid hp
          have HM := Lib.hid hmv
          rw [show ((q + 1 : Nat) : Int) - 1 = (q : Int) from by omega]
          have hqI : (q : Int) ≥ 0 := by omega
          clear H hmv hp
          go_upto_region 10 with (fail)
          refine hps10 B g c N f2 w a q (by omega) (by omega) hN _ _ _ _ _ _ _ _ _ _ _ _ _ _ _ _ _ _ _ _ _ _ _ _ _ _ _ _ _ _ _ _ _ _ _ _ _ _ _ _ _ _ _ _ _ _ _ _ _ _ _ _ _ _ _ hr ?_
          rintro y33 y34 y35 y36 y37 y38 y39 y40 y41 y42 y43 y44 y45 y46 y47 y48 y49 y50 w2 h2
          have H2 := Lib.hid h2
          clear h2 hr
          go_wp2_with fail
          refine (show Calls Try.prog 77 #[.slice (some ⟨g, 0, none⟩) N c, .int .i64 0, .int .i64 (q : Int), .int .i64 (a : Int)] w2 _ from sift_is B g c N 0 q a (swp f2 a (a + q)) w2 hN (by omega) (by omega) H2.out.re HP.out.pre).mono ?_
          rintro e w3 ⟨rfl, f3, h3, h4, h5⟩
          have H3 := Lib.hid (show Mv a b f f3 ∧ Hp a (n1 + 1) q f3 ∧ Rw B g c N f3 w w3 from ⟨(HM.out.trans (Mv.swap f2 (by have := HB.out; omega) (by have := HB.out; omega))).trans (h4.mono (Nat.le_refl _) (by have := HB.out; omega)), HP.out.step h4 h5, H2.out.from_ h3⟩)
          clear h3 h4 h5
          go_wp2
          exact ⟨⟨q, f3, rfl, H3⟩, by simp [intOf]⟩
    · obtain ⟨hq1, hmv, hp, hr⟩ := H.out
      have HP := Lib.hid hp
      have HM := Lib.hid hmv
      have HR := Lib.hid hr
      rw [show ((q + 1 : Nat) : Int) - 1 = (q : Int) from by omega]
      have hqI : (q : Int) ≥ 0 := by omega
      clear H hmv hp hr
      go_wp2_with fail
      refine (show Calls Try.prog 77 #[.slice (some ⟨g, 0, none⟩) N c, .int .i64 (q : Int), .int .i64 ((n1 : Int) + 1), .int .i64 (a : Int)] wr _ from sift_is B g c N q (n1 + 1) a f1 wr hN hs (by omega) HR.out.re (fun p hp => HP.out p (by omega))).mono ?_
      rintro e w3 ⟨rfl, f3, h3, h4, h5⟩
      have H3 := Lib.hid (show q ≤ n1 + 1 ∧ Mv a b f f3 ∧ (∀ p, q ≤ p → HeapAt a (n1 + 1) p f3) ∧ Rw B g c N f3 w w3 from ⟨by omega, HM.out.trans (by rw [HB.out]; exact h4), h5, HR.out.from_ h3⟩)
      clear h3 h4 h5
      go_wp2
      exact ⟨⟨q, f3, rfl, H3⟩, by simp [intOf]⟩
end Go.Proofs.Ytelfeedaadkhnaa
