/- rtcp: padding, begins. Conditions: as each says. -/
import Derived.Test.YtdhkcffjhcoloaaCut
import Derived.Test.YtdhkcffjhcoloaaBt
set_option linter.unusedVariables false
namespace Go.Proofs.Ytdhkcffjhcoloaa
open Go.RowKit

set_option maxHeartbeats 400000 in
theorem begins_is (k : Nat) (w : World) : Calls Try.prog 48 #[.int .u8 k] w fun e w' => e = .returned (.bool (k == 200 || k == 201)) ∧ w = w' := by
  have e1 : (((k : Nat) : Int) == 200) = (k == 200) := by rw [Bool.eq_iff_iff]; simp; omega
  have e2 : (((k : Nat) : Int) == 201) = (k == 201) := by rw [Bool.eq_iff_iff]; simp; omega
  cases h1 : (k == 200) <;> cases h2 : (k == 201)
  all_goals
    rw [h1] at e1
    rw [h2] at e2
    go_enter Try.func48, Try.ntmps48
    go_wp2
    go_ret
    exact ⟨rfl, rfl⟩

/-- The last byte, or 0. -/
def padOk (bs : List Nat) : Bool := decide (1 ≤ bs.length) && decide (0 < bt bs (bs.length - 1)) && (bt bs (bs.length - 1) % 4 == 0) && decide (bt bs (bs.length - 1) ≤ bs.length)
set_option maxRecDepth 100000 in
set_option maxHeartbeats 1000000 in
theorem padding_is (v : Value) (bs : List Nat) (w : World) (hs : Src w v bs) (hb : ∀ x ∈ bs, x < 256) (hl : bs.length ≤ 1000000) :
    Calls Try.prog 77 #[v] w fun e w' => e = .returned (.tuple #[.int .u8 (bt bs (bs.length - 1) : Nat), .bool (padOk bs)]) ∧ w = w' := by
  obtain ⟨A, c, rfl⟩ := hs.slice
  obtain ⟨ok, hok⟩ : ∃ b, padOk bs = b := ⟨_, rfl⟩
  rw [hok]
  by_cases h0 : bs.length = 0
  · have hn : bs = [] := List.eq_nil_of_length_eq_zero h0
    subst hn
    have : ok = false := by rw [← hok]; rfl
    subst this
    clear hs hok
    go_enter Try.func77, Try.ntmps77
    go_wp2
    go_ret2
    exact ⟨rfl, rfl⟩
  · obtain ⟨g, o, c', e1, hlc, hc⟩ := hs.cap (by omega)
    injection e1 with e1 _ e3
    subst e1 e3
    have cl := hc (bs.length - 1) (by omega)
    rw [← bt_get (bs := bs) (i := bs.length - 1) (by omega)] at cl
    have hp := bt_lt hb (bs.length - 1)
    unfold padOk at hok
    generalize bt bs (bs.length - 1) = p at *
    obtain ⟨L, hL⟩ : ∃ L, bs.length = L := ⟨_, rfl⟩
    rw [hL] at hok cl h0 hl ⊢
    have z0 : ((L : Int) == 0) = false := by rw [beq_eq_false_iff_ne]; omega
    have a1 : IntKind.i64.wrap ((L : Int) - 1) = ((L - 1 : Nat) : Int) := (IntWalk.i64_in _ (by omega)).trans (by omega)
    have x1 : L - 1 < L := by omega
    have x2 : ((L - 1 : Nat) : Int) < (L : Int) := by omega
    have HOK := Lib.hid hok
    clear hs hc hok hL hb
    by_cases h1 : p = 0
    · subst h1
      have hk : ok = false := by rw [← HOK.out]; simp
      subst hk
      go_enter Try.func77, Try.ntmps77
      go_wp2
      go_ret2
      exact ⟨rfl, rfl⟩
    · have z1 : decide ((0 : Int) < (p : Int)) = true := decide_eq_true (by omega)
      have z1' : 0 < p := by omega
      by_cases h2 : p % 4 = 0
      · have z2 : ((p : Int) % 4 == 0) = true := by rw [beq_iff_eq]; omega
        by_cases h3 : p ≤ L
        · have hk : ok = true := by rw [← HOK.out]; simp [h2, h3]; omega
          subst hk
          have z3 : decide ((p : Int) ≤ (L : Int)) = true := decide_eq_true (by omega)
          go_enter Try.func77, Try.ntmps77
          go_wp2
          go_ret2
          exact ⟨rfl, rfl⟩
        · have hk : ok = false := by rw [← HOK.out]; simp [h3]
          subst hk
          have z3 : decide ((p : Int) ≤ (L : Int)) = false := decide_eq_false (by omega)
          go_enter Try.func77, Try.ntmps77
          go_wp2
          go_ret2
          exact ⟨rfl, rfl⟩
      · have z2 : ((p : Int) % 4 == 0) = false := by rw [beq_eq_false_iff_ne]; omega
        have hk : ok = false := by rw [← HOK.out]; simp [h2]
        subst hk
        go_enter Try.func77, Try.ntmps77
        go_wp2
        go_ret2
        exact ⟨rfl, rfl⟩
end Go.Proofs.Ytdhkcffjhcoloaa
