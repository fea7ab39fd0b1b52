/- How many bytes are wanted, as the reference reckons it. Conditions: as it says. -/
import Derived.Test.YtneogagainllnaaRvA
set_option linter.unusedVariables false
namespace Go.Proofs.Ytneogagainllnaa
open Go.RowKit

set_option maxRecDepth 100000 in
set_option maxHeartbeats 2000000 in
theorem need_is (v : Value) (bs : List Nat) (w : World) (hs : Src w v bs) (hb : ∀ x ∈ bs, x < 256) (hl : bs.length ≤ 1000000) :
    Calls Try.prog 23 #[v] w fun e w' => e = .returned (.int .i64 (needN bs : Nat)) ∧ w = w' := by
  obtain ⟨A, c, rfl⟩ := hs.slice
  obtain ⟨N, hN⟩ : ∃ N, needN bs = N := ⟨_, rfl⟩
  rw [hN]
  have HN := Lib.hid hN
  clear hN
  by_cases h1 : bs.length < 1
  · have z1 : decide ((bs.length : Int) < 1) = true := decide_eq_true (by omega)
    obtain rfl : N = 1 := by rw [← HN.out]; unfold needN; rw [if_pos (.inl h1)]
    clear hs h1
    go_enter Try.func23, Try.ntmps23
    go_wp2
    go_ret
    exact ⟨rfl, rfl⟩
  · obtain ⟨g, o, c', e1, hc⟩ := hs.at_ (by omega)
    injection e1 with e1 _ e3
    subst e1 e3
    have z1 : decide ((bs.length : Int) < 1) = false := decide_eq_false (by omega)
    have hc' : ∀ j, j < bs.length → w.cell? ⟨g, o + j, none⟩ = some (.int .u8 (bt bs j : Nat)) := fun j hj => by rw [hc j hj, bt_get hj]
    have c0 := hc' 0 (by omega)
    rw [Nat.add_zero] at c0
    have x0 : (0 : Int) < (bs.length : Int) := by omega
    have B0 := Lib.hid (bt_lt hb 0)
    have B1 := Lib.hid (bt_lt hb 1)
    have B2 := Lib.hid (bt_lt hb 2)
    have HC := Lib.hid hc'
    clear hc hc' hs
    cases hx : hasb (bt bs 0) 128
    · obtain rfl : N = 1 := by rw [← HN.out]; unfold needN; rw [if_pos (.inr hx)]
      go_enter Try.func23, Try.ntmps23
      go_wp2_with (go_at_call 24; refine (has_is (bt bs 0) 128 _ rfl _ B0.out (by decide)).mono ?_; rw [hx]; rintro e w1 ⟨rfl, rfl⟩)
      go_ret
      exact ⟨rfl, rfl⟩
    · by_cases h2 : bs.length < 2
      · obtain rfl : N = 2 := by rw [← HN.out]; unfold needN; rw [if_neg (by rw [hx]; exact fun h => h.elim (fun h => by omega) (fun h => by cases h)), if_pos h2]
        have z2 : decide ((bs.length : Int) < 2) = true := decide_eq_true (by omega)
        go_enter Try.func23, Try.ntmps23
        go_wp2_with (go_at_call 24; refine (has_is (bt bs 0) 128 _ rfl _ B0.out (by decide)).mono ?_; rw [hx]; rintro e w1 ⟨rfl, rfl⟩)
        go_ret
        exact ⟨rfl, rfl⟩
      · have en : N = 2 + (if hasb (bt bs 1) 128 then (if 2 < bs.length ∧ hasb (bt bs 2) 128 = true then 2 else 1) else 0) + (if hasb (bt bs 1) 64 then 1 else 0) + (if hasb (bt bs 1) 32 = true ∨ hasb (bt bs 1) 16 = true then 1 else 0) := by
          rw [← HN.out]
          unfold needN
          rw [if_neg (by rw [hx]; exact fun h => h.elim (fun h => by omega) (fun h => by cases h)), if_neg h2]
        have z2 : decide ((bs.length : Int) < 2) = false := decide_eq_false (by omega)
        have x1 : (1 : Int) < (bs.length : Int) := by omega
        have c1 := HC.out 1 (by omega)
        have EN := Lib.hid en
        clear en HN
        go_enter Try.func23, Try.ntmps23
        go_upto_region 6 with (go_at_call 24; refine (has_is (bt bs 0) 128 _ rfl _ B0.out (by decide)).mono ?_; rw [hx]; rintro e w1 ⟨rfl, rfl⟩)
        go_upto_if 20 with (go_at_call 24; refine (has_is (bt bs 1) 128 _ rfl _ B1.out (by decide)).mono ?_; rintro e w1 ⟨rfl, rfl⟩)
        go_cut [3] (fun s3 wx => s3 = .int .i64 (2 + (if hasb (bt bs 1) 128 then (if 2 < bs.length ∧ hasb (bt bs 2) 128 = true then 2 else 1) else 0) : Nat) ∧ wx = w)
        case first =>
          cases hy : hasb (bt bs 1) 128
          · go_wp2_with fail
            go_meet
            exact ⟨by simp [hy], rfl⟩
          · by_cases h3 : 2 < bs.length
            · have z3 : decide ((2 : Int) < (bs.length : Int)) = true := decide_eq_true (by omega)
              have x2 : (2 : Int) < (bs.length : Int) := by omega
              have c2 := HC.out 2 (by omega)
              cases hz : hasb (bt bs 2) 128
              · go_wp2_with (go_at_call 24; refine (has_is (bt bs 2) 128 _ rfl _ B2.out (by decide)).mono ?_; rw [hz]; rintro e w1 ⟨rfl, rfl⟩)
                go_meet
                exact ⟨by simp [hy, hz], rfl⟩
              · go_wp2_with (go_at_call 24; refine (has_is (bt bs 2) 128 _ rfl _ B2.out (by decide)).mono ?_; rw [hz]; rintro e w1 ⟨rfl, rfl⟩)
                go_meet
                exact ⟨by simp [hy, hz, h3], rfl⟩
            · have z3 : decide ((2 : Int) < (bs.length : Int)) = false := decide_eq_false (by omega)
              go_wp2_with fail
              go_meet
              exact ⟨by simp [hy, h3], rfl⟩
        case rest =>
          obtain ⟨rfl, rfl⟩ := hcut
          generalize hn2 : (2 + (if hasb (bt bs 1) 128 then (if 2 < bs.length ∧ hasb (bt bs 2) 128 = true then 2 else 1) else 0) : Nat) = n2 at *
          have n2l : n2 ≤ 4 := by
            rw [← hn2]
            split
            · split <;> omega
            · omega
          have HN2 := Lib.hid hn2
          clear hn2
          go_upto_if 37 with (go_at_call 24; refine (has_is (bt bs 1) 64 _ rfl _ B1.out (by decide)).mono ?_; rintro e w1 ⟨rfl, rfl⟩)
          go_cut [3] (fun s3 wx => s3 = .int .i64 (n2 + (if hasb (bt bs 1) 64 then 1 else 0) : Nat) ∧ wx = wc)
          case first =>
            have a1 : IntKind.i64.wrap ((n2 : Int) + 1) = (n2 : Int) + 1 := IntWalk.i64_in _ (by omega)
            cases hy : hasb (bt bs 1) 64
            · go_wp2_with fail
              go_meet
              exact ⟨by simp [hy], rfl⟩
            · go_wp2_with fail
              go_meet
              exact ⟨by simp [hy], rfl⟩
          case rest =>
            obtain ⟨rfl, rfl⟩ := hcut
            have en : N = n2 + (if hasb (bt bs 1) 64 then 1 else 0) + (if hasb (bt bs 1) 32 = true ∨ hasb (bt bs 1) 16 = true then 1 else 0) := by rw [EN.out]
            generalize hn3 : (n2 + (if hasb (bt bs 1) 64 then 1 else 0) : Nat) = n3 at *
            have n3l : n3 ≤ 5 := by rw [← hn3]; split <;> omega
            have a1 : IntKind.i64.wrap ((n3 : Int) + 1) = (n3 : Int) + 1 := IntWalk.i64_in _ (by omega)
            clear hn3 EN HN2 n2l
            cases hy : hasb (bt bs 1) 32
            · cases hz : hasb (bt bs 1) 16
              · rw [hy, hz] at en
                go_wp2_with (go_at_call 24; first | (refine (has_is (bt bs 1) 32 _ rfl _ B1.out (by decide)).mono ?_; rw [hy]; rintro e w1 ⟨rfl, rfl⟩) | (refine (has_is (bt bs 1) 16 _ rfl _ B1.out (by decide)).mono ?_; rw [hz]; rintro e w1 ⟨rfl, rfl⟩))
                go_ret
                exact ⟨by rw [en]; simp, rfl⟩
              · rw [hy, hz] at en
                go_wp2_with (go_at_call 24; first | (refine (has_is (bt bs 1) 32 _ rfl _ B1.out (by decide)).mono ?_; rw [hy]; rintro e w1 ⟨rfl, rfl⟩) | (refine (has_is (bt bs 1) 16 _ rfl _ B1.out (by decide)).mono ?_; rw [hz]; rintro e w1 ⟨rfl, rfl⟩))
                go_ret
                exact ⟨by rw [en]; simp, rfl⟩
            · rw [hy] at en
              go_wp2_with (go_at_call 24; refine (has_is (bt bs 1) 32 _ rfl _ B1.out (by decide)).mono ?_; rw [hy]; rintro e w1 ⟨rfl, rfl⟩)
              go_ret
              exact ⟨by rw [en]; simp, rfl⟩
end Go.Proofs.Ytneogagainllnaa
