/- slices.Sort of numbers of 32 digits: partitionEqual; reverseRange; partialInsertionSort. Conditions: as each says. -/
import Derived.Test.YtelfeedaadkhnaaSoRb
import Derived.Test.YtelfeedaadkhnaaSoRd
import Derived.Test.YtelfeedaadkhnaaSoB
set_option linter.unusedVariables false
set_option linter.unusedSimpArgs false
namespace Go.Proofs.Ytelfeedaadkhnaa
open Go Go.RowKit

/-- Amid a partition into what is no greater than the first, and what is. -/
structure PqP (a b i j : Nat) (f : Nat → Nat) : Prop where
  ai : a < i
  jb : j < b
  ij : i ≤ j + 1
  lo : ∀ k, a < k → k < i → f k ≤ f a
  hi : ∀ k, j < k → k < b → f a < f k
section
variable {a b i j : Nat} {f : Nat → Nat}
theorem PqP.start (h : a < b) (f : Nat → Nat) : PqP a b (a + 1) (b - 1) f := ⟨by omega, by omega, by omega, fun k h1 h2 => by omega, fun k h1 h2 => by omega⟩
theorem PqP.up (h : PqP a b i j f) (hij : i ≤ j) (hl : f i ≤ f a) : PqP a b (i + 1) j f := ⟨by have := h.ai; omega, h.jb, by omega, fun k h1 h2 => by
  by_cases e : k = i
  · rw [e]; exact hl
  · exact h.lo k h1 (by omega), h.hi⟩
theorem PqP.down (h : PqP a b i (j + 1) f) (hij : i ≤ j + 1) (hl : f a < f (j + 1)) : PqP a b i j f := ⟨h.ai, by have := h.jb; omega, hij, h.lo, fun k h1 h2 => by
  by_cases e : k = j + 1
  · rw [e]; exact hl
  · exact h.hi k (by omega) h2⟩
theorem PqP.swap (h : PqP a b i (j + 1) f) (hij : i < j + 1) (h1 : f (j + 1) ≤ f a) (h2 : f a < f i) : PqP a b (i + 1) j (swp f i (j + 1)) := by
  have h3 := h.ai
  have h4 := h.jb
  refine ⟨by omega, by omega, by omega, fun k k1 k2 => ?_, fun k k1 k2 => ?_⟩
  · rw [swp_o f (k := a) (by omega) (by omega)]
    by_cases e : k = i
    · rw [e, swp_l]; exact h1
    · rw [swp_o f e (by omega)]; exact h.lo k k1 (by omega)
  · rw [swp_o f (k := a) (by omega) (by omega)]
    by_cases e : k = j + 1
    · rw [e, swp_r]; exact h2
    · rw [swp_o f (by omega) e]; exact h.hi k (by omega) k2
end
/-- PartitionEqual's answer: what stands first is the pivot. -/
def Pq (B g c N a b : Nat) (f : Nat → Nat) (v : Nat) (w : World) (e : Ending) (w' : World) : Prop := ∃ m : Nat, e = .returned (.int .i64 (m : Int)) ∧ a < m ∧ m ≤ b ∧ ∃ f', Rw B g c N f' w w' ∧ Mv a b f f' ∧ (∀ k, a ≤ k → k < m → f' k ≤ v) ∧ ∀ k, m ≤ k → k < b → v < f' k
set_option maxRecDepth 100000 in
set_option maxHeartbeats 8000000 in
theorem peq_is (B g c N a b p : Nat) (f : Nat → Nat) (w : World) (hN : N ≤ 1000) (hap : a ≤ p ∧ p < b) (hb : b ≤ N) (hR : Rw B g c N f w w) :
    Calls Try.prog 73 #[.slice (some ⟨g, 0, none⟩) N c, .int .i64 (a : Int), .int .i64 (b : Int), .int .i64 (p : Int)] w (Pq B g c N a b f (f p) w) := by
  obtain ⟨j, hj⟩ : ∃ j, b = j + 1 := ⟨b - 1, by omega⟩
  have eJ : IntKind.i64.wrap ((b : Int) - 1) = (j : Int) := by rw [IntKind.wrap_i64]; omega
  go_enter Try.func73, Try.ntmps73
  go_upto_region 1 with (fail)
  refine peq1 B g c N f w a p (by omega) (by omega) hN _ _ _ _ _ _ _ _ _ _ _ _ _ _ _ _ _ _ _ _ _ _ _ _ _ _ _ _ _ _ _ _ _ _ _ _ _ _ _ _ _ _ _ _ _ _ _ _ _ _ _ _ _ _ _ _ _ _ _ _ _ _ _ _ _ _ _ _ _ _ _ _ _ _ _ _ _ _ _ _ _ _ _ hR ?_
  rintro y11 y12 y13 y14 y15 y16 y17 y18 y19 y20 y21 y22 y23 y24 w1 h1
  obtain ⟨f1, hf1⟩ : ∃ f1, f1 = swp f a p := ⟨_, rfl⟩
  have RQ := Lib.hid (show PqP a b (a + 1) j f1 ∧ Mv a b f f1 ∧ f1 a = f p ∧ Rw B g c N f1 w w1 from ⟨by have := PqP.start (a := a) (b := b) (by omega) f1; rwa [show b - 1 = j by omega] at this, by rw [hf1]; exact Mv.swap f (by omega) (by omega), by rw [hf1, swp_l], by rw [hf1]; exact h1⟩)
  have hjN : j < N := by omega
  clear h1 hR hf1 hj
  go_wp2
  go_loopw [9, 10] (fun s9 s10 wx => ∃ (i j : Nat) (f1 : Nat → Nat), s9 = .int .i64 (i : Int) ∧ s10 = .int .i64 (j : Int) ∧ Hid (PqP a b i j f1 ∧ Mv a b f f1 ∧ f1 a = f p ∧ Rw B g c N f1 w wx)) (fun s9 s10 _ => (intOf s10 + 1 - intOf s9).toNat)
  case atStart => exact ⟨a + 1, j, f1, by go_num, by first | rfl | go_num, RQ⟩
  case round =>
    clear RQ hjN
    obtain ⟨i, j, f1, rfl, rfl, RQ⟩ := hrel
    have hij0 := RQ.out.1.ij
    have hai := RQ.out.1.ai
    have RI := Lib.hid (And.intro RQ.out.1 (And.intro RQ.out.2.1 RQ.out.2.2.2))
    have HV0 := Lib.hid RQ.out.2.2.1
    clear RQ eJ
    go_wp2
    go_loopw [9] (fun sI wx => ∃ i2 : Nat, sI = .int .i64 (i2 : Int) ∧ i ≤ i2 ∧ Hid (PqP a b i2 j f1 ∧ Mv a b f f1 ∧ Rw B g c N f1 w wx)) (fun sI _ => j + 1 - (intOf sI).toNat)
    case atStart => exact ⟨i, by first | rfl | go_num, Nat.le_refl _, RI⟩
    case round =>
      obtain ⟨i, rfl, hge0, H⟩ := hrel
      obtain ⟨hp, hmv, hr⟩ := H.out
      have hai := hp.ai
      have hij := hp.ij
      have hjb := hp.jb
      go_upto_region 3 with (fail)
      refine peq3c B g c N f1 w a i j (by omega) (by omega) hN _ _ _ _ _ _ _ _ _ _ _ _ _ _ _ _ _ _ _ _ _ _ _ _ _ _ _ _ _ _ _ _ _ _ _ _ _ _ _ _ _ _ _ _ _ _ _ _ _ _ _ _ _ _ _ _ _ _ _ _ _ _ _ _ _ _ _ _ _ _ _ _ _ _ _ _ _ _ _ _ _ _ hr ?_
      rintro y29 y30 y31 y32 y33 y34 y35 y36 y37 y38 y39 y40 y41 y42 w2 h2
      cases hv : (decide (i ≤ j) && !(decide (f1 a < f1 i))) with
      | true =>
        simp only [Bool.and_eq_true, decide_eq_true_eq, Bool.not_eq_true', decide_eq_false_iff_not] at hv
        have HH := Lib.hid (show PqP a b (i + 1) j f1 ∧ Mv a b f f1 ∧ Rw B g c N f1 w w2 from ⟨hp.up hv.1 (by have := hv.2; omega), hmv, h2⟩)
        have hvi := hv.1
        clear hv hp hmv hr h2 H RI
        go_wp2
        exact ⟨⟨i + 1, by go_num, by omega, HH⟩, by simp [intOf]; omega⟩
      | false =>
        have hv1 : i ≤ j → ¬ (¬ f1 a < f1 i) := fun hle => by
          simp only [decide_eq_true hle, Bool.true_and, Bool.not_eq_false', decide_eq_true_eq] at hv
          omega
        have HV1 := Lib.hid hv1
        have RJ := Lib.hid (show i ≤ j + 1 ∧ PqP a b i j f1 ∧ Mv a b f f1 ∧ (i ≤ j → ¬ (¬ f1 a < f1 i)) ∧ Rw B g c N f1 w w2 from ⟨hij, hp, hmv, hv1, h2⟩)
        clear hv hv1 hp hmv hr h2 H RI HV1 hij hjb
        go_wp2
        go_loopw [10] (fun sJ wx => ∃ j2 : Nat, sJ = .int .i64 (j2 : Int) ∧ j2 ≤ j ∧ Hid (i ≤ j2 + 1 ∧ PqP a b i j2 f1 ∧ Mv a b f f1 ∧ (i ≤ j2 → ¬ (¬ f1 a < f1 i)) ∧ Rw B g c N f1 w wx)) (fun sJ _ => (intOf sJ).toNat)
        case atStart => exact ⟨j, rfl, Nat.le_refl _, RJ⟩
        case round =>
          clear RJ
          obtain ⟨j, rfl, hle0, H⟩ := hrel
          obtain ⟨hij, hp, hmv, hv1, hr⟩ := H.out
          have hjb := hp.jb
          go_upto_region 5 with (fail)
          refine peq5c B g c N f1 w a i j (by omega) (by omega) hN _ _ _ _ _ _ _ _ _ _ _ _ _ _ _ _ _ _ _ _ _ _ _ _ _ _ _ _ _ _ _ _ _ _ _ _ _ _ _ _ _ _ _ _ _ _ _ _ _ _ _ _ _ _ _ _ _ _ _ _ _ _ _ _ _ _ _ _ _ _ _ _ _ _ _ _ _ _ _ _ _ _ hr ?_
          rintro y46 y47 y48 y49 y50 y51 y52 y53 y54 y55 y56 y57 y58 w3 h3
          cases hv : (decide (i ≤ j) && decide (f1 a < f1 j)) with
          | true =>
            simp only [Bool.and_eq_true, decide_eq_true_eq] at hv
            obtain ⟨q, rfl⟩ : ∃ q, j = q + 1 := ⟨j - 1, by omega⟩
            have HH := Lib.hid (show i ≤ q + 1 ∧ PqP a b i q f1 ∧ Mv a b f f1 ∧ (i ≤ q → ¬ (¬ f1 a < f1 i)) ∧ Rw B g c N f1 w w3 from ⟨by omega, hp.down hv.1 (by have := hv.2; omega), hmv, fun h => hv1 (by omega), h3⟩)
            clear hv hp hmv hr h3 H hv1 hij
            go_wp2
            exact ⟨⟨q, by go_num, by omega, HH⟩, by simp [intOf]⟩
          | false =>
            have hv2 : i ≤ j → ¬ (f1 a < f1 j) := fun hle => by
              simp only [decide_eq_true hle, Bool.true_and, decide_eq_false_iff_not] at hv
              omega
            clear hv H hr
            by_cases hle : i ≤ j
            · have hne : i ≠ j := fun e => hv1 hle (fun hh => hv2 hle (by subst e; exact hh))
              obtain ⟨q, rfl⟩ : ∃ q, j = q + 1 := ⟨j - 1, by omega⟩
              have HS := Lib.hid (show PqP a b (i + 1) q (swp f1 i (q + 1)) ∧ Mv a b f (swp f1 i (q + 1)) ∧ swp f1 i (q + 1) a = f1 a from ⟨hp.swap (by omega) (by have := hv2 hle; omega) (by have := hv1 hle; omega), hmv.trans (Mv.swap f1 (by omega) (by omega)), swp_o f1 (by omega) (by omega)⟩)
              have hgI : ¬ (i : Int) > (q : Int) + 1 := by omega
              have hl3 := hp.jb
              clear hv1 hv2 hp hmv hij
              go_upto_region 8 with (fail)
              refine peq8 B g c N f1 w i (q + 1) (by omega) (by omega) hN _ _ _ _ _ _ _ _ _ _ _ _ _ _ _ _ _ _ _ _ _ _ _ _ _ _ _ _ _ _ _ _ _ _ _ _ _ _ _ _ _ _ _ _ _ _ _ _ _ _ _ _ _ _ _ _ _ _ _ _ _ _ _ _ _ _ _ _ _ _ _ _ _ _ _ _ _ _ _ _ _ _ _ h3 ?_
              rintro y65 y66 y67 y68 y69 y70 y71 y72 y73 y74 y75 y76 y77 y78 w4 h4
              have HQ := Lib.hid (And.intro HS.out.1 (And.intro HS.out.2.1 (And.intro (HS.out.2.2.trans HV0.out) h4)))
              clear h4 h3 HS
              go_wp2
              exact ⟨⟨i + 1, q, swp f1 i (q + 1), by go_num, by go_num, HQ⟩, by simp [intOf]; omega⟩
            · have HS := Lib.hid (show a < i ∧ i ≤ b ∧ (∀ k, a ≤ k → k < i → f1 k ≤ f1 a) ∧ (∀ k, i ≤ k → k < b → f1 a < f1 k) from ⟨hai, by omega, fun k h1 h2 => by
                by_cases e : k = a
                · rw [e]; exact Nat.le_refl _
                · exact hp.lo k (by omega) h2, fun k h1 h2 => hp.hi k (by omega) h2⟩)
              have HM := Lib.hid hmv
              have hgI : (i : Int) > (j : Int) := by omega
              have H3 := Lib.hid h3
              clear hv1 hv2 hp hmv h3
              go_wp2
              go_ret
              rw [HV0.out] at HS
              exact ⟨i, rfl, HS.out.1, HS.out.2.1, f1, H3.out, HM.out, HS.out.2.2.1, HS.out.2.2.2⟩
end Go.Proofs.Ytelfeedaadkhnaa
