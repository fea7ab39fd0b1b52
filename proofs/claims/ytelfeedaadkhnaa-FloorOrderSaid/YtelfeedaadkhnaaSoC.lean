/- slices.Sort of numbers of 32 digits: siftDown, heapSort. Conditions: as each says. -/
import Derived.Test.YtelfeedaadkhnaaSoB
set_option linter.unusedVariables false
set_option linter.unusedSimpArgs false
namespace Go.Proofs.Ytelfeedaadkhnaa
open Go Go.RowKit

/-- No child of a node is greater. -/
def HeapAt (a n p : Nat) (f : Nat → Nat) : Prop := ∀ k, (k = 2 * p + 1 ∨ k = 2 * p + 2) → k < n → f (a + k) ≤ f (a + p)
/-- A heap but for one node. -/
def SiP (a n lo r : Nat) (f : Nat → Nat) : Prop := (∀ p, lo ≤ p → p ≠ r → HeapAt a n p f) ∧ (∀ p k, lo ≤ p → (r = 2 * p + 1 ∨ r = 2 * p + 2) → (k = 2 * r + 1 ∨ k = 2 * r + 2) → k < n → f (a + k) ≤ f (a + p))
/-- The greater child of a node. -/
def MaxCh (a n r k : Nat) (f : Nat → Nat) : Prop := (k = 2 * r + 1 ∨ k = 2 * r + 2) ∧ k < n ∧ ∀ m, (m = 2 * r + 1 ∨ m = 2 * r + 2) → m < n → f (a + m) ≤ f (a + k)
section
variable {a n lo r k : Nat} {f : Nat → Nat}
theorem SiP.start (h : ∀ p, lo < p → HeapAt a n p f) : SiP a n lo lo f := ⟨fun p h1 h2 => h p (by omega), fun p k h1 h2 => by omega⟩
theorem SiP.fin0 (h : SiP a n lo r f) (hn : n ≤ 2 * r + 1) : ∀ p, lo ≤ p → HeapAt a n p f := fun p hp => by
  by_cases e : p = r
  · subst e
    intro k hk hkn
    omega
  · exact h.1 p hp e
theorem SiP.fin1 (h : SiP a n lo r f) (hm : MaxCh a n r k f) (hl : ¬ f (a + r) < f (a + k)) : ∀ p, lo ≤ p → HeapAt a n p f := fun p hp => by
  by_cases e : p = r
  · subst e
    intro m hm1 hm2
    have := hm.2.2 m hm1 hm2
    omega
  · exact h.1 p hp e
theorem SiP.step (h : SiP a n lo r f) (hr : lo ≤ r) (hm : MaxCh a n r k f) (hl : f (a + r) < f (a + k)) : SiP a n lo k (swp f (a + r) (a + k)) := by
  obtain ⟨hk, hkn, hmx⟩ := hm
  refine ⟨fun p hp hpk m hm hmn => ?_, fun p m hp hkp hm hmn => ?_⟩
  · by_cases e1 : p = r
    · subst e1
      rw [swp_l]
      by_cases e2 : m = k
      · rw [e2, swp_r]; omega
      · rw [swp_o f (by omega) (by omega)]
        exact hmx m hm hmn
    · rw [swp_o f (i := a + r) (j := a + k) (k := a + p) (by omega) (by omega)]
      by_cases e2 : m = r
      · subst e2
        rw [swp_l]
        exact h.2 p k hp hm hk hkn
      · rw [swp_o f (by omega) (by omega)]
        exact h.1 p hp e1 m hm hmn
  · have e : p = r := by omega
    subst e
    rw [swp_l, swp_o f (by omega) (by omega)]
    exact h.1 k (by omega) (by omega) m hm hmn
theorem heap_max (h : ∀ p, HeapAt a n p f) : ∀ k, k < n → f (a + k) ≤ f a := by
  intro k
  induction k using Nat.strongRecOn with
  | _ k ih =>
    intro hk
    rcases Nat.eq_zero_or_pos k with e | e
    · subst e; exact Nat.le_refl _
    · have h1 := h ((k - 1) / 2) k (by omega) hk
      exact Nat.le_trans h1 (ih ((k - 1) / 2) (by omega) (by omega))
end
set_option maxRecDepth 100000 in
set_option maxHeartbeats 4000000 in
theorem sift_is (B g c N lo n a : Nat) (f : Nat → Nat) (w : World) (hN : N ≤ 1000) (hn : a + n ≤ N) (hlo : lo ≤ N) (hR : Rw B g c N f w w) (hpre : ∀ p, lo < p → HeapAt a n p f) :
    Calls Try.prog 77 #[.slice (some ⟨g, 0, none⟩) N c, .int .i64 (lo : Int), .int .i64 (n : Int), .int .i64 (a : Int)] w (Sd B g c N a (a + n) f (fun f' => ∀ p, lo ≤ p → HeapAt a n p f') w) := by
  have R0 := Lib.hid (show (lo ≤ lo ∧ lo ≤ 1000) ∧ Mv a (a + n) f f ∧ SiP a n lo lo f ∧ Rw B g c N f w w from ⟨by omega, Mv.refl _ _ _, SiP.start hpre, hR⟩)
  clear hR hpre
  go_enter Try.func77, Try.ntmps77
  go_wp2
  go_loopw [8] (fun s8 wr => ∃ (r : Nat) (f1 : Nat → Nat), s8 = .int .i64 (r : Int) ∧ Hid ((lo ≤ r ∧ r ≤ 1000) ∧ Mv a (a + n) f f1 ∧ SiP a n lo r f1 ∧ Rw B g c N f1 w wr)) (fun s8 _ => n - (intOf s8).toNat)
  case atStart => exact ⟨lo, f, rfl, Lib.hid ⟨⟨Nat.le_refl _, by omega⟩, R0.out.2⟩⟩
  case round =>
    obtain ⟨r, f1, rfl, H⟩ := hrel
    obtain ⟨⟨hlr, hr1⟩, hmv, hp, hr⟩ := H.out
    clear H R0
    by_cases hch : n ≤ 2 * r + 1
    · have HS := Lib.hid (show Rw B g c N f1 w wr ∧ Mv a (a + n) f f1 ∧ ∀ p, lo ≤ p → HeapAt a n p f1 from ⟨hr, hmv, hp.fin0 hch⟩)
      clear hr hmv hp
      have hI : (2 : Int) * (r : Int) + 1 ≥ (n : Int) := by omega
      have hw1 : IntKind.i64.wrap (2 * (r : Int)) = 2 * (r : Int) := by rw [IntKind.wrap_i64]; omega
      have hw2 : IntKind.i64.wrap (2 * (r : Int) + 1) = 2 * (r : Int) + 1 := by rw [IntKind.wrap_i64]; omega
      go_wp2
      go_end0
      exact ⟨rfl, f1, HS.out.1, HS.out.2.1, HS.out.2.2⟩
    · obtain ⟨k, hk⟩ : ∃ k, k = 2 * r + 1 := ⟨_, rfl⟩
      have e : (2 : Int) * (r : Int) + 1 = (k : Int) := by omega
      have hw1 : IntKind.i64.wrap (2 * (r : Int)) = 2 * (r : Int) := by rw [IntKind.wrap_i64]; omega
      have hw2 : IntKind.i64.wrap (2 * (r : Int) + 1) = 2 * (r : Int) + 1 := by rw [IntKind.wrap_i64]; omega
      have hkn : k < n := by omega
      have hkI : ¬ (k : Int) ≥ (n : Int) := by omega
      have HK := Lib.hid hk
      clear hk
      have HR := Lib.hid hr
      clear hr
      have hw3 : IntKind.i64.wrap (k : Int) = (k : Int) := by rw [IntKind.wrap_i64]; omega
      go_upto_region 3 with (fail)
      clear e hw1 hw2 hw3
      by_cases hg : k + 1 < n
      · refine sft3 B g c N f1 w a n k (by omega) (by omega) hN hg _ _ _ _ _ _ _ _ _ _ _ _ _ _ _ _ _ _ _ _ _ _ _ _ _ _ _ _ _ _ _ _ _ _ _ _ _ _ _ _ _ _ _ _ _ _ _ _ _ _ _ _ _ _ _ _ _ _ _ _ _ _ _ _ _ _ _ _ _ _ _ _ _ _ HR.out ?_
        rintro y17 y18 y19 y20 y21 y22 y23 y24 y25 y26 y27 y28 y29 y30 y31 y32 y33 y34 y35 w2 h2
        by_cases hl0 : f1 (a + k) < f1 (a + k + 1)
        · rw [decide_eq_true hl0]
          have hm : MaxCh a n r (k + 1) f1 := ⟨by have := HK.out; omega, hg, fun m hm hmn => by
            have : m = k ∨ m = k + 1 := by have := HK.out; omega
            rcases this with e | e
            · rw [e]; exact Nat.le_of_lt hl0
            · rw [e]; exact Nat.le_refl _⟩
          clear hl0
          have HM := Lib.hid hm
          clear hm
          go_upto_region 5 with (fail)
          refine sft5 B g c N f1 w a r (k + 1) (by have := HK.out; omega) (by have := HM.out.2.1; omega) hN _ _ _ _ _ _ _ _ _ _ _ _ _ _ _ _ _ _ _ _ _ _ _ _ _ _ _ _ _ _ _ _ _ _ _ _ _ _ _ _ _ _ _ _ _ _ _ _ _ _ _ _ _ _ _ _ _ _ _ _ _ _ _ _ _ _ _ _ _ _ _ _ _ _ h2 ?_
          rintro y39 y40 y41 y42 y43 y44 y45 y46 y47 y48 y49 y50 y51 w3 h3
          by_cases hl : f1 (a + r) < f1 (a + (k + 1))
          · rw [decide_eq_true hl]
            have hsz := HM.out.2.1
            have hck := HM.out.1
            have HS := Lib.hid (show (lo ≤ (k + 1) ∧ (k + 1) ≤ 1000) ∧ Mv a (a + n) f (swp f1 (a + r) (a + (k + 1))) ∧ SiP a n lo (k + 1) (swp f1 (a + r) (a + (k + 1))) from ⟨by omega, hmv.trans (Mv.swap f1 (by omega) (by omega)), hp.step hlr HM.out hl⟩)
            have hrk : r < (k + 1) := by omega
            have H3 := Lib.hid h3
            clear h3 h2 hmv hp hl
            go_upto_region 6 with (fail)
            refine sft6 B g c N f1 w a r (k + 1) (by omega) (by omega) hN _ _ _ _ _ _ _ _ _ _ _ _ _ _ _ _ _ _ _ _ _ _ _ _ _ _ _ _ _ _ _ _ _ _ _ _ _ _ _ _ _ _ _ _ _ _ _ _ _ _ _ _ _ _ _ _ _ _ _ _ _ _ _ _ _ _ _ _ _ _ _ _ _ _ H3.out ?_
            rintro y53 y54 y55 y56 y57 y58 y59 y60 y61 y62 y63 y64 y65 y66 y67 y68 y69 y70 y71 y72 y73 y74 w4 h4
            have H4 := Lib.hid h4
            clear h4 H3
            go_wp2
            exact ⟨⟨(k + 1), _, rfl, Lib.hid ⟨HS.out.1, HS.out.2.1, HS.out.2.2, H4.out⟩⟩, by simp [intOf]; omega⟩
          · rw [decide_eq_false hl]
            have HS := Lib.hid (show Rw B g c N f1 w w3 ∧ Mv a (a + n) f f1 ∧ ∀ p, lo ≤ p → HeapAt a n p f1 from ⟨h3, hmv, hp.fin1 HM.out hl⟩)
            clear h3 h2 hmv hp hl
            go_wp2
            go_end0
            exact ⟨rfl, f1, HS.out.1, HS.out.2.1, HS.out.2.2⟩
        · rw [decide_eq_false hl0]
          have hm : MaxCh a n r k f1 := ⟨by have := HK.out; omega, hkn, fun m hm hmn => by
            have : m = k ∨ m = k + 1 := by have := HK.out; omega
            rcases this with e | e
            · rw [e]; exact Nat.le_refl _
            · rw [e]; simp only [Nat.not_lt] at hl0; exact hl0⟩
          clear hl0
          have HM := Lib.hid hm
          clear hm
          go_upto_region 5 with (fail)
          refine sft5 B g c N f1 w a r k (by have := HK.out; omega) (by have := HM.out.2.1; omega) hN _ _ _ _ _ _ _ _ _ _ _ _ _ _ _ _ _ _ _ _ _ _ _ _ _ _ _ _ _ _ _ _ _ _ _ _ _ _ _ _ _ _ _ _ _ _ _ _ _ _ _ _ _ _ _ _ _ _ _ _ _ _ _ _ _ _ _ _ _ _ _ _ _ _ h2 ?_
          rintro y39 y40 y41 y42 y43 y44 y45 y46 y47 y48 y49 y50 y51 w3 h3
          by_cases hl : f1 (a + r) < f1 (a + k)
          · rw [decide_eq_true hl]
            have hsz := HM.out.2.1
            have hck := HM.out.1
            have HS := Lib.hid (show (lo ≤ k ∧ k ≤ 1000) ∧ Mv a (a + n) f (swp f1 (a + r) (a + k)) ∧ SiP a n lo k (swp f1 (a + r) (a + k)) from ⟨by omega, hmv.trans (Mv.swap f1 (by omega) (by omega)), hp.step hlr HM.out hl⟩)
            have hrk : r < k := by omega
            have H3 := Lib.hid h3
            clear h3 h2 hmv hp hl
            go_upto_region 6 with (fail)
            refine sft6 B g c N f1 w a r k (by omega) (by omega) hN _ _ _ _ _ _ _ _ _ _ _ _ _ _ _ _ _ _ _ _ _ _ _ _ _ _ _ _ _ _ _ _ _ _ _ _ _ _ _ _ _ _ _ _ _ _ _ _ _ _ _ _ _ _ _ _ _ _ _ _ _ _ _ _ _ _ _ _ _ _ _ _ _ _ H3.out ?_
            rintro y53 y54 y55 y56 y57 y58 y59 y60 y61 y62 y63 y64 y65 y66 y67 y68 y69 y70 y71 y72 y73 y74 w4 h4
            have H4 := Lib.hid h4
            clear h4 H3
            go_wp2
            exact ⟨⟨k, _, rfl, Lib.hid ⟨HS.out.1, HS.out.2.1, HS.out.2.2, H4.out⟩⟩, by simp [intOf]; omega⟩
          · rw [decide_eq_false hl]
            have HS := Lib.hid (show Rw B g c N f1 w w3 ∧ Mv a (a + n) f f1 ∧ ∀ p, lo ≤ p → HeapAt a n p f1 from ⟨h3, hmv, hp.fin1 HM.out hl⟩)
            clear h3 h2 hmv hp hl
            go_wp2
            go_end0
            exact ⟨rfl, f1, HS.out.1, HS.out.2.1, HS.out.2.2⟩
      · refine sft3f B g c N f1 w n k hg (by omega) _ _ _ _ _ _ _ _ _ _ _ _ _ _ _ _ _ _ _ _ _ _ _ _ _ _ _ _ _ _ _ _ _ _ _ _ _ _ _ _ _ _ _ _ _ _ _ _ _ _ _ _ _ _ _ _ _ _ _ _ _ _ _ _ _ _ _ _ _ _ _ _ _ _ _ HR.out ?_
        rintro y17 y18 y19 y20 y21 y22 y23 y24 y25 y26 y27 y28 y29 y30 y31 y32 y33 y34 y35 w2 h2
        have hm : MaxCh a n r k f1 := ⟨by have := HK.out; omega, hkn, fun m hm hmn => by
          have e : m = k := by have := HK.out; omega
          rw [e]; exact Nat.le_refl _⟩
        have HM := Lib.hid hm
        clear hm
        go_upto_region 5 with (fail)
        refine sft5 B g c N f1 w a r k (by have := HK.out; omega) (by have := HM.out.2.1; omega) hN _ _ _ _ _ _ _ _ _ _ _ _ _ _ _ _ _ _ _ _ _ _ _ _ _ _ _ _ _ _ _ _ _ _ _ _ _ _ _ _ _ _ _ _ _ _ _ _ _ _ _ _ _ _ _ _ _ _ _ _ _ _ _ _ _ _ _ _ _ _ _ _ _ _ h2 ?_
        rintro y39 y40 y41 y42 y43 y44 y45 y46 y47 y48 y49 y50 y51 w3 h3
        by_cases hl : f1 (a + r) < f1 (a + k)
        · rw [decide_eq_true hl]
          have hsz := HM.out.2.1
          have hck := HM.out.1
          have HS := Lib.hid (show (lo ≤ k ∧ k ≤ 1000) ∧ Mv a (a + n) f (swp f1 (a + r) (a + k)) ∧ SiP a n lo k (swp f1 (a + r) (a + k)) from ⟨by omega, hmv.trans (Mv.swap f1 (by omega) (by omega)), hp.step hlr HM.out hl⟩)
          have hrk : r < k := by omega
          have H3 := Lib.hid h3
          clear h3 h2 hmv hp hl
          go_upto_region 6 with (fail)
          refine sft6 B g c N f1 w a r k (by omega) (by omega) hN _ _ _ _ _ _ _ _ _ _ _ _ _ _ _ _ _ _ _ _ _ _ _ _ _ _ _ _ _ _ _ _ _ _ _ _ _ _ _ _ _ _ _ _ _ _ _ _ _ _ _ _ _ _ _ _ _ _ _ _ _ _ _ _ _ _ _ _ _ _ _ _ _ _ H3.out ?_
          rintro y53 y54 y55 y56 y57 y58 y59 y60 y61 y62 y63 y64 y65 y66 y67 y68 y69 y70 y71 y72 y73 y74 w4 h4
          have H4 := Lib.hid h4
          clear h4 H3
          go_wp2
          exact ⟨⟨k, _, rfl, Lib.hid ⟨HS.out.1, HS.out.2.1, HS.out.2.2, H4.out⟩⟩, by simp [intOf]; omega⟩
        · rw [decide_eq_false hl]
          have HS := Lib.hid (show Rw B g c N f1 w w3 ∧ Mv a (a + n) f f1 ∧ ∀ p, lo ≤ p → HeapAt a n p f1 from ⟨h3, hmv, hp.fin1 HM.out hl⟩)
          clear h3 h2 hmv hp hl
          go_wp2
          go_end0
          exact ⟨rfl, f1, HS.out.1, HS.out.2.1, HS.out.2.2⟩
end Go.Proofs.Ytelfeedaadkhnaa
