/- slices.Sort of numbers of 32 digits: partition. Conditions: as each says. -/
import Derived.Test.YtelfeedaadkhnaaSoRc
import Derived.Test.YtelfeedaadkhnaaSoB
set_option linter.unusedVariables false
set_option linter.unusedSimpArgs false
namespace Go.Proofs.Ytelfeedaadkhnaa
open Go Go.RowKit

/-- Amid a partition about what stands first. -/
structure PaP (a b i j : Nat) (f : Nat → Nat) : Prop where
  ai : a < i
  jb : j < b
  ij : i ≤ j + 1
  lo : ∀ k, a < k → k < i → f k ≤ f a
  hi : ∀ k, j < k → k < b → f a ≤ f k
section
variable {a b i j : Nat} {f : Nat → Nat}
theorem PaP.start (h : a < b) (f : Nat → Nat) : PaP a b (a + 1) (b - 1) f := ⟨by omega, by omega, by omega, fun k h1 h2 => by omega, fun k h1 h2 => by omega⟩
theorem PaP.up (h : PaP a b i j f) (hij : i ≤ j) (hl : f i ≤ f a) : PaP a b (i + 1) j f := ⟨by have := h.ai; omega, h.jb, by omega, fun k h1 h2 => by
  by_cases e : k = i
  · rw [e]; exact hl
  · exact h.lo k h1 (by omega), h.hi⟩
theorem PaP.down (h : PaP a b i (j + 1) f) (hij : i ≤ j + 1) (hl : f a ≤ f (j + 1)) : PaP a b i j f := ⟨h.ai, by have := h.jb; omega, hij, h.lo, fun k h1 h2 => by
  by_cases e : k = j + 1
  · rw [e]; exact hl
  · exact h.hi k (by omega) h2⟩
theorem PaP.swap (h : PaP a b i (j + 1) f) (hij : i < j + 1) (h1 : f (j + 1) ≤ f a) (h2 : f a ≤ f i) : PaP a b (i + 1) j (swp f i (j + 1)) := by
  have h3 := h.ai
  have h4 := h.jb
  refine ⟨by omega, by omega, by omega, fun k k1 k2 => ?_, fun k k1 k2 => ?_⟩
  · rw [swp_o f (k := a) (by omega) (by omega)]
    by_cases e : k = i
    · rw [e, swp_l]; exact h1
    · rw [swp_o f e (by omega)]; exact h.lo k k1 (by omega)
  · rw [swp_o f (k := a) (by omega) (by omega)]
    by_cases e : k = j + 1
    · rw [e, swp_r]; exact h2
    · rw [swp_o f (by omega) e]; exact h.hi k (by omega) k2
/-- What a partition leaves. -/
structure Part (a b m : Nat) (f : Nat → Nat) : Prop where
  am : a ≤ m
  mb : m < b
  lo : ∀ k, a ≤ k → k < m → f k ≤ f m
  hi : ∀ k, m < k → k < b → f m ≤ f k
theorem PaP.fin (h : PaP a b i j f) (hij : ¬ i ≤ j) : Part a b j (swp f j a) := by
  have h1 := h.ai
  have h2 := h.ij
  have h3 := h.jb
  refine ⟨by omega, h3, fun k k1 k2 => ?_, fun k k1 k2 => ?_⟩
  · rw [swp_l]
    by_cases e : k = a
    · rw [e, swp_r]; exact h.lo j (by omega) (by omega)
    · rw [swp_o f (by omega) e]; exact h.lo k (by omega) (by omega)
  · rw [swp_l, swp_o f (by omega) (by omega)]
    exact h.hi k k1 k2
end
/-- Partition's answer. -/
def Pd (B g c N a b : Nat) (f : Nat → Nat) (w : World) (e : Ending) (w' : World) : Prop := ∃ (m : Nat) (al : Bool), e = .returned (.tuple #[.int .i64 (m : Int), .bool al]) ∧ ∃ f', Rw B g c N f' w w' ∧ Mv a b f f' ∧ Part a b m f'
set_option maxRecDepth 100000 in
set_option maxHeartbeats 8000000 in
theorem part_is (B g c N a b p : Nat) (f : Nat → Nat) (w : World) (hN : N ≤ 1000) (hap : a ≤ p ∧ p < b) (hb : b ≤ N) (hR : Rw B g c N f w w) :
    Calls Try.prog 74 #[.slice (some ⟨g, 0, none⟩) N c, .int .i64 (a : Int), .int .i64 (b : Int), .int .i64 (p : Int)] w (Pd B g c N a b f w) := by
  obtain ⟨j, hj⟩ : ∃ j, b = j + 1 := ⟨b - 1, by omega⟩
  have eJ : IntKind.i64.wrap ((b : Int) - 1) = (j : Int) := by rw [IntKind.wrap_i64]; omega
  go_enter Try.func74, Try.ntmps74
  go_upto_region 1 with (fail)
  refine par1 B g c N f w a p (by omega) (by omega) hN _ _ _ _ _ _ _ _ _ _ _ _ _ _ _ _ _ _ _ _ _ _ _ _ _ _ _ _ _ _ _ _ _ _ _ _ _ _ _ _ _ _ _ _ _ _ _ _ _ _ _ _ _ _ _ _ _ _ _ _ _ _ _ _ _ _ _ _ _ _ _ _ _ _ _ _ _ _ _ _ _ _ _ _ _ _ _ _ _ _ _ _ _ _ _ _ _ _ _ _ _ _ _ _ _ _ _ _ _ _ _ _ _ _ _ _ _ _ _ _ _ _ _ _ _ _ _ _ _ _ _ _ _ _ _ _ _ _ _ _ _ _ _ _ _ _ _ _ _ _ _ _ _ _ _ _ _ _ _ _ _ _ _ _ _ _ _ hR ?_
  rintro y12 y13 y14 y15 y16 y17 y18 y19 y20 y21 y22 y23 y24 y25 w1 h1
  obtain ⟨f1, hf1⟩ : ∃ f1, f1 = swp f a p := ⟨_, rfl⟩
  have RI := Lib.hid (show PaP a b (a + 1) j f1 ∧ Mv a b f f1 ∧ Rw B g c N f1 w w1 from ⟨by have := PaP.start (a := a) (b := b) (by omega) f1; rwa [show b - 1 = j by omega] at this, by rw [hf1]; exact Mv.swap f (by omega) (by omega), by rw [hf1]; exact h1⟩)
  have HB := Lib.hid hj
  have hjN : j < N := by omega
  clear h1 hR hf1 hj
  go_wp2
  go_loopw [10] (fun sI wx => ∃ i2 : Nat, sI = .int .i64 (i2 : Int) ∧ (a + 1) ≤ i2 ∧ Hid (PaP a b i2 j f1 ∧ Mv a b f f1 ∧ Rw B g c N f1 w wx)) (fun sI _ => j + 1 - (intOf sI).toNat)
  case atStart => exact ⟨(a + 1), by first | rfl | go_num, Nat.le_refl _, RI⟩
  case round =>
    obtain ⟨i, rfl, hge0, H⟩ := hrel
    obtain ⟨hp, hmv, hr⟩ := H.out
    have hai := hp.ai
    have hij := hp.ij
    have hjb := hp.jb
    go_upto_region 3 with (fail)
    refine par3c B g c N f1 w a i j (by omega) (by omega) hN _ _ _ _ _ _ _ _ _ _ _ _ _ _ _ _ _ _ _ _ _ _ _ _ _ _ _ _ _ _ _ _ _ _ _ _ _ _ _ _ _ _ _ _ _ _ _ _ _ _ _ _ _ _ _ _ _ _ _ _ _ _ _ _ _ _ _ _ _ _ _ _ _ _ _ _ _ _ _ _ _ _ _ _ _ _ _ _ _ _ _ _ _ _ _ _ _ _ _ _ _ _ _ _ _ _ _ _ _ _ _ _ _ _ _ _ _ _ _ _ _ _ _ _ _ _ _ _ _ _ _ _ _ _ _ _ _ _ _ _ _ _ _ _ _ _ _ _ _ _ _ _ _ _ _ _ _ _ _ _ _ _ _ _ _ _ hr ?_
    rintro y30 y31 y32 y33 y34 y35 y36 y37 y38 y39 y40 y41 y42 w2 h2
    cases hv : (decide (i ≤ j) && decide (f1 i < f1 a)) with
    | true =>
      simp only [Bool.and_eq_true, decide_eq_true_eq] at hv
      have HH := Lib.hid (show PaP a b (i + 1) j f1 ∧ Mv a b f f1 ∧ Rw B g c N f1 w w2 from ⟨hp.up hv.1 (by have := hv.2; omega), hmv, h2⟩)
      have hvi := hv.1
      clear hv hp hmv hr h2 H RI
      go_wp2
      exact ⟨⟨i + 1, by go_num, by omega, HH⟩, by simp [intOf]; omega⟩
    | false =>
      have hv1 : i ≤ j → ¬ (f1 i < f1 a) := fun hle => by
        simp only [decide_eq_true hle, Bool.true_and, decide_eq_false_iff_not] at hv
        omega
      have HV1 := Lib.hid hv1
      have RJ := Lib.hid (show i ≤ j + 1 ∧ PaP a b i j f1 ∧ Mv a b f f1 ∧ (i ≤ j → ¬ (f1 i < f1 a)) ∧ Rw B g c N f1 w w2 from ⟨hij, hp, hmv, hv1, h2⟩)
      clear hv hv1 hp hmv hr h2 H RI HV1 hij hjb
      go_wp2
      go_loopw [11] (fun sJ wx => ∃ j2 : Nat, sJ = .int .i64 (j2 : Int) ∧ j2 ≤ j ∧ Hid (i ≤ j2 + 1 ∧ PaP a b i j2 f1 ∧ Mv a b f f1 ∧ (i ≤ j2 → ¬ (f1 i < f1 a)) ∧ Rw B g c N f1 w wx)) (fun sJ _ => (intOf sJ).toNat)
      case atStart => exact ⟨j, rfl, Nat.le_refl _, RJ⟩
      case round =>
        clear RJ
        obtain ⟨j, rfl, hle0, H⟩ := hrel
        obtain ⟨hij, hp, hmv, hv1, hr⟩ := H.out
        have hjb := hp.jb
        go_upto_region 5 with (fail)
        refine par5c B g c N f1 w a i j (by omega) (by omega) hN _ _ _ _ _ _ _ _ _ _ _ _ _ _ _ _ _ _ _ _ _ _ _ _ _ _ _ _ _ _ _ _ _ _ _ _ _ _ _ _ _ _ _ _ _ _ _ _ _ _ _ _ _ _ _ _ _ _ _ _ _ _ _ _ _ _ _ _ _ _ _ _ _ _ _ _ _ _ _ _ _ _ _ _ _ _ _ _ _ _ _ _ _ _ _ _ _ _ _ _ _ _ _ _ _ _ _ _ _ _ _ _ _ _ _ _ _ _ _ _ _ _ _ _ _ _ _ _ _ _ _ _ _ _ _ _ _ _ _ _ _ _ _ _ _ _ _ _ _ _ _ _ _ _ _ _ _ _ _ _ _ _ _ _ _ _ hr ?_
        rintro y46 y47 y48 y49 y50 y51 y52 y53 y54 y55 y56 y57 y58 y59 w3 h3
        cases hv : (decide (i ≤ j) && !(decide (f1 j < f1 a))) with
        | true =>
          simp only [Bool.and_eq_true, decide_eq_true_eq, Bool.not_eq_true', decide_eq_false_iff_not] at hv
          obtain ⟨q, rfl⟩ : ∃ q, j = q + 1 := ⟨j - 1, by omega⟩
          have HH := Lib.hid (show i ≤ q + 1 ∧ PaP a b i q f1 ∧ Mv a b f f1 ∧ (i ≤ q → ¬ (f1 i < f1 a)) ∧ Rw B g c N f1 w w3 from ⟨by omega, hp.down hv.1 (by have := hv.2; omega), hmv, fun h => hv1 (by omega), h3⟩)
          clear hv hp hmv hr h3 H hv1 hij
          go_wp2
          exact ⟨⟨q, by go_num, by omega, HH⟩, by simp [intOf]⟩
        | false =>
          have hv2 : i ≤ j → ¬ (¬ f1 j < f1 a) := fun hle => by
            simp only [decide_eq_true hle, Bool.true_and, Bool.not_eq_false', decide_eq_true_eq] at hv
            omega
          clear hv H hr
          by_cases hle : i ≤ j
          · have hne : i ≠ j := fun e => hv2 hle (by have := hv1 hle; subst e; omega)
            obtain ⟨q, rfl⟩ : ∃ q, j = q + 1 := ⟨j - 1, by omega⟩
            have HS := Lib.hid (show PaP a b (i + 1) q (swp f1 i (q + 1)) ∧ Mv a b f (swp f1 i (q + 1)) from ⟨hp.swap (by omega) (by have := hv2 hle; omega) (by have := hv1 hle; omega), hmv.trans (Mv.swap f1 (by omega) (by omega))⟩)
            have hgI : ¬ (i : Int) > (q : Int) + 1 := by omega
            have hl3 := hp.jb
            clear hv1 hv2 hp hmv hij
            go_upto_region 10 with (fail)
            refine par10 B g c N f1 w i (q + 1) (by omega) (by omega) hN _ _ _ _ _ _ _ _ _ _ _ _ _ _ _ _ _ _ _ _ _ _ _ _ _ _ _ _ _ _ _ _ _ _ _ _ _ _ _ _ _ _ _ _ _ _ _ _ _ _ _ _ _ _ _ _ _ _ _ _ _ _ _ _ _ _ _ _ _ _ _ _ _ _ _ _ _ _ _ _ _ _ _ _ _ _ _ _ _ _ _ _ _ _ _ _ _ _ _ _ _ _ _ _ _ _ _ _ _ _ _ _ _ _ _ _ _ _ _ _ _ _ _ _ _ _ _ _ _ _ _ _ _ _ _ _ _ _ _ _ _ _ _ _ _ _ _ _ _ _ _ _ _ _ _ _ _ _ _ _ _ _ _ _ _ _ _ h3 ?_
            rintro y81 y82 y83 y84 y85 y86 y87 y88 y89 y90 y91 y92 y93 y94 w4 h4
            have HQ := Lib.hid (And.intro HS.out.1 (And.intro HS.out.2 h4))
            clear h4 h3 HS
            go_wp2
            go_loopw [10, 11] (fun s10 s11 wx => ∃ (i j : Nat) (f1 : Nat → Nat), s10 = .int .i64 (i : Int) ∧ s11 = .int .i64 (j : Int) ∧ Hid (PaP a b i j f1 ∧ Mv a b f f1 ∧ Rw B g c N f1 w wx)) (fun s10 s11 _ => (intOf s11 + 1 - intOf s10).toNat)
            case atStart => exact ⟨i + 1, q, _, by go_num, by first | rfl | go_num, HQ⟩
            case round =>
              clear HQ hgI hl3 hle hne hai
              clear hjb
              obtain ⟨i, j, f1, rfl, rfl, RI⟩ := hrel
              have hij0 := RI.out.1.ij
              have hai := RI.out.1.ai
              go_wp2
              go_loopw [10] (fun sI wx => ∃ i2 : Nat, sI = .int .i64 (i2 : Int) ∧ i ≤ i2 ∧ Hid (PaP a b i2 j f1 ∧ Mv a b f f1 ∧ Rw B g c N f1 w wx)) (fun sI _ => j + 1 - (intOf sI).toNat)
              case atStart => exact ⟨i, by first | rfl | go_num, Nat.le_refl _, RI⟩
              case round =>
                obtain ⟨i, rfl, hge0, H⟩ := hrel
                obtain ⟨hp, hmv, hr⟩ := H.out
                have hai := hp.ai
                have hij := hp.ij
                have hjb := hp.jb
                go_upto_region 13 with (fail)
                refine par13c B g c N f1 w a i j (by omega) (by omega) hN _ _ _ _ _ _ _ _ _ _ _ _ _ _ _ _ _ _ _ _ _ _ _ _ _ _ _ _ _ _ _ _ _ _ _ _ _ _ _ _ _ _ _ _ _ _ _ _ _ _ _ _ _ _ _ _ _ _ _ _ _ _ _ _ _ _ _ _ _ _ _ _ _ _ _ _ _ _ _ _ _ _ _ _ _ _ _ _ _ _ _ _ _ _ _ _ _ _ _ _ _ _ _ _ _ _ _ _ _ _ _ _ _ _ _ _ _ _ _ _ _ _ _ _ _ _ _ _ _ _ _ _ _ _ _ _ _ _ _ _ _ _ _ _ _ _ _ _ _ _ _ _ _ _ _ _ _ _ _ _ _ _ _ _ _ _ hr ?_
                rintro y99 y100 y101 y102 y103 y104 y105 y106 y107 y108 y109 y110 y111 w2 h2
                cases hv : (decide (i ≤ j) && decide (f1 i < f1 a)) with
                | true =>
                  simp only [Bool.and_eq_true, decide_eq_true_eq] at hv
                  have HH := Lib.hid (show PaP a b (i + 1) j f1 ∧ Mv a b f f1 ∧ Rw B g c N f1 w w2 from ⟨hp.up hv.1 (by have := hv.2; omega), hmv, h2⟩)
                  have hvi := hv.1
                  clear hv hp hmv hr h2 H RI
                  go_wp2
                  exact ⟨⟨i + 1, by go_num, by omega, HH⟩, by simp [intOf]; omega⟩
                | false =>
                  have hv1 : i ≤ j → ¬ (f1 i < f1 a) := fun hle => by
                    simp only [decide_eq_true hle, Bool.true_and, decide_eq_false_iff_not] at hv
                    omega
                  have HV1 := Lib.hid hv1
                  have RJ := Lib.hid (show i ≤ j + 1 ∧ PaP a b i j f1 ∧ Mv a b f f1 ∧ (i ≤ j → ¬ (f1 i < f1 a)) ∧ Rw B g c N f1 w w2 from ⟨hij, hp, hmv, hv1, h2⟩)
                  clear hv hv1 hp hmv hr h2 H RI HV1 hij hjb
                  go_wp2
                  go_loopw [11] (fun sJ wx => ∃ j2 : Nat, sJ = .int .i64 (j2 : Int) ∧ j2 ≤ j ∧ Hid (i ≤ j2 + 1 ∧ PaP a b i j2 f1 ∧ Mv a b f f1 ∧ (i ≤ j2 → ¬ (f1 i < f1 a)) ∧ Rw B g c N f1 w wx)) (fun sJ _ => (intOf sJ).toNat)
                  case atStart => exact ⟨j, rfl, Nat.le_refl _, RJ⟩
                  case round =>
                    clear RJ
                    obtain ⟨j, rfl, hle0, H⟩ := hrel
                    obtain ⟨hij, hp, hmv, hv1, hr⟩ := H.out
                    have hjb := hp.jb
                    go_upto_region 15 with (fail)
                    refine par15c B g c N f1 w a i j (by omega) (by omega) hN _ _ _ _ _ _ _ _ _ _ _ _ _ _ _ _ _ _ _ _ _ _ _ _ _ _ _ _ _ _ _ _ _ _ _ _ _ _ _ _ _ _ _ _ _ _ _ _ _ _ _ _ _ _ _ _ _ _ _ _ _ _ _ _ _ _ _ _ _ _ _ _ _ _ _ _ _ _ _ _ _ _ _ _ _ _ _ _ _ _ _ _ _ _ _ _ _ _ _ _ _ _ _ _ _ _ _ _ _ _ _ _ _ _ _ _ _ _ _ _ _ _ _ _ _ _ _ _ _ _ _ _ _ _ _ _ _ _ _ _ _ _ _ _ _ _ _ _ _ _ _ _ _ _ _ _ _ _ _ _ _ _ _ _ _ _ hr ?_
                    rintro y115 y116 y117 y118 y119 y120 y121 y122 y123 y124 y125 y126 y127 y128 w3 h3
                    cases hv : (decide (i ≤ j) && !(decide (f1 j < f1 a))) with
                    | true =>
                      simp only [Bool.and_eq_true, decide_eq_true_eq, Bool.not_eq_true', decide_eq_false_iff_not] at hv
                      obtain ⟨q, rfl⟩ : ∃ q, j = q + 1 := ⟨j - 1, by omega⟩
                      have HH := Lib.hid (show i ≤ q + 1 ∧ PaP a b i q f1 ∧ Mv a b f f1 ∧ (i ≤ q → ¬ (f1 i < f1 a)) ∧ Rw B g c N f1 w w3 from ⟨by omega, hp.down hv.1 (by have := hv.2; omega), hmv, fun h => hv1 (by omega), h3⟩)
                      clear hv hp hmv hr h3 H hv1 hij
                      go_wp2
                      exact ⟨⟨q, by go_num, by omega, HH⟩, by simp [intOf]⟩
                    | false =>
                      have hv2 : i ≤ j → ¬ (¬ f1 j < f1 a) := fun hle => by
                        simp only [decide_eq_true hle, Bool.true_and, Bool.not_eq_false', decide_eq_true_eq] at hv
                        omega
                      clear hv H hr
                      by_cases hle : i ≤ j
                      · have hne : i ≠ j := fun e => hv2 hle (by have := hv1 hle; subst e; omega)
                        obtain ⟨q, rfl⟩ : ∃ q, j = q + 1 := ⟨j - 1, by omega⟩
                        have HS := Lib.hid (show PaP a b (i + 1) q (swp f1 i (q + 1)) ∧ Mv a b f (swp f1 i (q + 1)) from ⟨hp.swap (by omega) (by have := hv2 hle; omega) (by have := hv1 hle; omega), hmv.trans (Mv.swap f1 (by omega) (by omega))⟩)
                        have hgI : ¬ (i : Int) > (q : Int) + 1 := by omega
                        have hl3 := hp.jb
                        clear hv1 hv2 hp hmv hij
                        go_upto_region 18 with (fail)
                        refine par18 B g c N f1 w i (q + 1) (by omega) (by omega) hN _ _ _ _ _ _ _ _ _ _ _ _ _ _ _ _ _ _ _ _ _ _ _ _ _ _ _ _ _ _ _ _ _ _ _ _ _ _ _ _ _ _ _ _ _ _ _ _ _ _ _ _ _ _ _ _ _ _ _ _ _ _ _ _ _ _ _ _ _ _ _ _ _ _ _ _ _ _ _ _ _ _ _ _ _ _ _ _ _ _ _ _ _ _ _ _ _ _ _ _ _ _ _ _ _ _ _ _ _ _ _ _ _ _ _ _ _ _ _ _ _ _ _ _ _ _ _ _ _ _ _ _ _ _ _ _ _ _ _ _ _ _ _ _ _ _ _ _ _ _ _ _ _ _ _ _ _ _ _ _ _ _ _ _ _ _ _ h3 ?_
                        rintro y135 y136 y137 y138 y139 y140 y141 y142 y143 y144 y145 y146 y147 y148 w4 h4
                        have HQ := Lib.hid (And.intro HS.out.1 (And.intro HS.out.2 h4))
                        clear h4 h3 HS
                        go_wp2
                        exact ⟨⟨i + 1, q, swp f1 i (q + 1), by go_num, by go_num, HQ⟩, by simp [intOf]; omega⟩
                      · have HS := Lib.hid (show Part a b j (swp f1 j a) ∧ Mv a b f (swp f1 j a) from ⟨hp.fin hle, hmv.trans (Mv.swap f1 (by omega) (by omega))⟩)
                        have hgI : (i : Int) > (j : Int) := by omega
                        clear hv1 hv2 hp hmv
                        go_upto_region 21 with (fail)
                        refine par21 B g c N f1 w j a (by omega) (by omega) hN _ _ _ _ _ _ _ _ _ _ _ _ _ _ _ _ _ _ _ _ _ _ _ _ _ _ _ _ _ _ _ _ _ _ _ _ _ _ _ _ _ _ _ _ _ _ _ _ _ _ _ _ _ _ _ _ _ _ _ _ _ _ _ _ _ _ _ _ _ _ _ _ _ _ _ _ _ _ _ _ _ _ _ _ _ _ _ _ _ _ _ _ _ _ _ _ _ _ _ _ _ _ _ _ _ _ _ _ _ _ _ _ _ _ _ _ _ _ _ _ _ _ _ _ _ _ _ _ _ _ _ _ _ _ _ _ _ _ _ _ _ _ _ _ _ _ _ _ _ _ _ _ _ _ _ _ _ _ _ _ _ _ _ _ _ _ _ h3 ?_
                        rintro y153 y154 y155 y156 y157 y158 y159 y160 y161 y162 y163 y164 y165 y166 w4 h4
                        have H4 := Lib.hid h4
                        clear h4 h3
                        go_wp2
                        go_ret2
                        exact ⟨j, false, rfl, _, H4.out, HS.out.2, HS.out.1⟩
          · have HS := Lib.hid (show Part a b j (swp f1 j a) ∧ Mv a b f (swp f1 j a) from ⟨hp.fin hle, hmv.trans (Mv.swap f1 (by omega) (by omega))⟩)
            have hgI : (i : Int) > (j : Int) := by omega
            clear hv1 hv2 hp hmv
            go_upto_region 8 with (fail)
            refine par8 B g c N f1 w j a (by omega) (by omega) hN _ _ _ _ _ _ _ _ _ _ _ _ _ _ _ _ _ _ _ _ _ _ _ _ _ _ _ _ _ _ _ _ _ _ _ _ _ _ _ _ _ _ _ _ _ _ _ _ _ _ _ _ _ _ _ _ _ _ _ _ _ _ _ _ _ _ _ _ _ _ _ _ _ _ _ _ _ _ _ _ _ _ _ _ _ _ _ _ _ _ _ _ _ _ _ _ _ _ _ _ _ _ _ _ _ _ _ _ _ _ _ _ _ _ _ _ _ _ _ _ _ _ _ _ _ _ _ _ _ _ _ _ _ _ _ _ _ _ _ _ _ _ _ _ _ _ _ _ _ _ _ _ _ _ _ _ _ _ _ _ _ _ _ _ _ _ _ h3 ?_
            rintro y66 y67 y68 y69 y70 y71 y72 y73 y74 y75 y76 y77 y78 y79 w4 h4
            have H4 := Lib.hid h4
            clear h4 h3
            go_wp2
            go_ret2
            exact ⟨j, true, rfl, _, H4.out, HS.out.2, HS.out.1⟩
end Go.Proofs.Ytelfeedaadkhnaa
