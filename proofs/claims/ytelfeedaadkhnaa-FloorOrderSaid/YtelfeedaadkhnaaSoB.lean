/- slices.Sort of numbers of 32 digits: insertion. Conditions: as each says. -/
import Derived.Test.YtelfeedaadkhnaaSoRa
import Derived.Deep.DeepCutAuto
set_option linter.unusedVariables false
set_option linter.unusedSimpArgs false
namespace Go.Proofs.Ytelfeedaadkhnaa
open Go Go.RowKit

/-- A part is moved about, and then as told. -/
def Sd (B g c N a b : Nat) (f : Nat → Nat) (P : (Nat → Nat) → Prop) (w : World) (e : Ending) (w' : World) : Prop := e = .returned (.tuple #[]) ∧ ∃ f', Rw B g c N f' w w' ∧ Mv a b f f' ∧ P f'
def InsP (a i j : Nat) (f : Nat → Nat) : Prop := (∀ x y, a ≤ x → x < y → y ≤ i → x ≠ j → y ≠ j → f x ≤ f y) ∧ (∀ y, j < y → y ≤ i → f j ≤ f y)
section
variable {a b i j : Nat} {f : Nat → Nat}
theorem InsP.start (h : Srt a i f) : InsP a i i f := ⟨fun x y h1 h2 h3 h4 h5 => h x y h1 h2 (by omega), fun y h1 h2 => by omega⟩
theorem InsP.fin (h : InsP a i j f) (h1 : a ≤ j) (h2 : j ≤ i) (h3 : j = a ∨ f (j - 1) ≤ f j) : Srt a (i + 1) f := by
  intro x y hx hxy hy
  by_cases e1 : y = j
  · subst e1
    rcases h3 with h3 | h3
    · omega
    · by_cases e2 : x = y - 1
      · rw [e2]; exact h3
      · exact Nat.le_trans (h.1 x (y - 1) hx (by omega) (by omega) (by omega) (by omega)) h3
  · by_cases e2 : x = j
    · subst e2
      exact h.2 y hxy (by omega)
    · exact h.1 x y hx hxy (by omega) e2 e1
theorem swp_l (f : Nat → Nat) (i j : Nat) : swp f i j i = f j := by simp [swp]
theorem swp_r (f : Nat → Nat) (i j : Nat) : swp f i j j = f i := by
  unfold swp
  split
  · rename_i e; rw [e]
  · simp
theorem swp_o (f : Nat → Nat) {i j k : Nat} (h1 : k ≠ i) (h2 : k ≠ j) : swp f i j k = f k := by simp [swp, h1, h2]
theorem InsP.step (h : InsP a i (j + 1) f) (h1 : a ≤ j) (h2 : j + 1 ≤ i) (h3 : f (j + 1) < f j) : InsP a i j (swp f (j + 1) j) := by
  refine ⟨fun x y hx hxy hy n1 n2 => ?_, fun y hy1 hy2 => ?_⟩
  · by_cases e1 : y = j + 1
    · rw [e1, swp_l, swp_o f (by omega) n1]
      exact h.1 x j hx (by omega) (by omega) (by omega) (by omega)
    · rw [swp_o f e1 n2]
      by_cases e2 : x = j + 1
      · rw [e2, swp_l]
        exact h.1 j y h1 (by omega) hy (by omega) e1
      · rw [swp_o f e2 n1]
        exact h.1 x y hx hxy hy e2 e1
  · rw [swp_r]
    by_cases e1 : y = j + 1
    · rw [e1, swp_l]; omega
    · rw [swp_o f e1 (by omega)]
      exact h.2 y (by omega) hy2
end
set_option maxRecDepth 100000 in
set_option maxHeartbeats 4000000 in
theorem ins_is (B g c N a b : Nat) (f : Nat → Nat) (w : World) (hN : N ≤ 1000) (hab : a ≤ b) (hb : b ≤ N) (hR : Rw B g c N f w w) :
    Calls Try.prog 66 #[.slice (some ⟨g, 0, none⟩) N c, .int .i64 (a : Int), .int .i64 (b : Int)] w (Sd B g c N a b f (fun f' => Srt a b f') w) := by
  have R0 := Lib.hid (show (a < a + 1 ∧ a + 1 ≤ max b (a + 1)) ∧ Mv a b f f ∧ Srt a (a + 1) f ∧ Rw B g c N f w w from ⟨by omega, Mv.refl _ _ _, fun x y _ _ _ => by omega, hR⟩)
  clear hR
  go_enter Try.func66, Try.ntmps66
  go_wp2
  go_loopw [6] (fun s6 wr => ∃ (i : Nat) (f1 : Nat → Nat), s6 = .int .i64 (i : Int) ∧ Hid ((a < i ∧ i ≤ max b (a + 1)) ∧ Mv a b f f1 ∧ Srt a i f1 ∧ Rw B g c N f1 w wr)) (fun s6 _ => N + 1 - (intOf s6).toNat)
  case atStart => exact ⟨a + 1, f, by go_num, R0⟩
  case round =>
    obtain ⟨i, f1, rfl, H⟩ := hrel
    obtain ⟨⟨hai, hib⟩, hmv, hs, hr⟩ := H.out
    by_cases hlt : i < b
    · have hltI : (i : Int) < (b : Int) := by omega
      have R1 := Lib.hid (show (a ≤ i ∧ i ≤ i) ∧ Mv a b f f1 ∧ InsP a i i f1 ∧ Rw B g c N f1 w wr from ⟨by omega, hmv, InsP.start hs, hr⟩)
      clear hmv hs hr H hib R0
      go_wp2
      go_loopw [7] (fun s7 wx => ∃ (j : Nat) (f2 : Nat → Nat), s7 = .int .i64 (j : Int) ∧ Hid ((a ≤ j ∧ j ≤ i) ∧ Mv a b f f2 ∧ InsP a i j f2 ∧ Rw B g c N f2 w wx)) (fun s7 _ => (intOf s7).toNat)
      case atStart => exact ⟨i, f1, rfl, R1⟩
      case round =>
        obtain ⟨j, f2, rfl, H⟩ := hrel
        obtain ⟨⟨haj, hji⟩, hmv, hp, hr⟩ := H.out
        clear H R1
        by_cases hja : j = a
        · have HS := Lib.hid (show (a < i + 1 ∧ i + 1 ≤ max b (a + 1)) ∧ Mv a b f f2 ∧ Srt a (i + 1) f2 from ⟨by omega, hmv, hp.fin haj hji (.inl hja)⟩)
          go_upto_region 4 with (fail)
          refine ins4f B g c N f2 w a j (by omega) _ _ _ _ _ _ _ _ _ _ _ _ _ _ _ _ _ _ _ _ _ _ _ _ _ _ _ _ _ _ _ _ _ _ _ _ _ _ _ _ _ _ _ _ _ _ _ _ hr ?_
          rintro y16 y17 y18 y19 y20 y21 y22 y23 y24 y25 y26 y27 y28 y29 w2 h2
          have H2 := Lib.hid h2
          clear h2 hmv hp hr
          go_wp2
          exact ⟨⟨i + 1, f2, by go_num, Lib.hid ⟨HS.out.1, HS.out.2.1, HS.out.2.2, H2.out⟩⟩, by simp [intOf]; omega⟩
        · obtain ⟨q, rfl⟩ : ∃ q, j = q + 1 := ⟨j - 1, by omega⟩
          rw [show ((q + 1 : Nat) : Int) = (q : Int) + 1 from rfl]
          go_upto_region 4 with (fail)
          refine ins4 B g c N f2 w a q (by omega) (by omega) hN (by omega) _ _ _ _ _ _ _ _ _ _ _ _ _ _ _ _ _ _ _ _ _ _ _ _ _ _ _ _ _ _ _ _ _ _ _ _ _ _ _ _ _ _ _ _ _ _ _ _ hr ?_
          rintro y16 y17 y18 y19 y20 y21 y22 y23 y24 y25 y26 y27 y28 y29 w2 h2
          by_cases hlq : f2 (q + 1) < f2 q
          · rw [decide_eq_true hlq]
            have HS := Lib.hid (show (a ≤ q ∧ q ≤ i) ∧ Mv a b f (swp f2 (q + 1) q) ∧ InsP a i q (swp f2 (q + 1) q) from ⟨by omega, hmv.trans (Mv.swap f2 (by omega) (by omega)), hp.step (by omega) hji hlq⟩)
            have H2 := Lib.hid h2
            clear h2 hmv hp hr hlq
            go_upto_region 6 with (fail)
            refine ins6 B g c N f2 w q (by omega) (by omega) hN _ _ _ _ _ _ _ _ _ _ _ _ _ _ _ _ _ _ _ _ _ _ _ _ _ _ _ _ _ _ _ _ _ _ _ _ _ _ _ _ _ _ _ _ _ _ _ _ _ H2.out ?_
            rintro y33 y34 y35 y36 y37 y38 y39 y40 y41 y42 y43 y44 y45 y46 y47 y48 w3 h3
            have H3 := Lib.hid h3
            clear h3 H2
            go_wp2
            exact ⟨⟨q, _, by go_num, Lib.hid ⟨HS.out.1, HS.out.2.1, HS.out.2.2, H3.out⟩⟩, by simp [intOf]⟩
          · rw [decide_eq_false hlq]
            have HS := Lib.hid (show (a < i + 1 ∧ i + 1 ≤ max b (a + 1)) ∧ Mv a b f f2 ∧ Srt a (i + 1) f2 from ⟨by omega, hmv, hp.fin haj hji (.inr (by simpa using hlq))⟩)
            have H2 := Lib.hid h2
            clear h2 hmv hp hr hlq
            go_wp2
            exact ⟨⟨i + 1, f2, by go_num, Lib.hid ⟨HS.out.1, HS.out.2.1, HS.out.2.2, H2.out⟩⟩, by simp [intOf]; omega⟩
    · have hltI : ¬ (i : Int) < (b : Int) := by omega
      clear hmv hs hr R0
      go_wp2
      go_end0
      obtain ⟨_, hmv, hs, hr⟩ := H.out
      exact ⟨rfl, f1, hr, hmv, fun x y h1 h2 h3 => hs x y h1 h2 (by omega)⟩
end Go.Proofs.Ytelfeedaadkhnaa
