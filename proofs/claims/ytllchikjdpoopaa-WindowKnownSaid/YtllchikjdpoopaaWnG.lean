/- same of the same; the chapter's examples; a window that is not there (WindowNone's walk). Conditions: as each says. -/
import Derived.Test.YtllchikjdpoopaaWnF
import Derived.Test.YtllchikjdpoopaaLaw
set_option linter.unusedVariables false
namespace Go.Proofs.Ytllchikjdpoopaa
open Go Go.RowKit

theorem own_rd64 {B : Nat} {v : Value} {l : List Nat} {w : World} (h : w.ownsRow B 23 1 v l.length (cells64 l)) : Rd .u64 w v (nats l) := by
  have hn := nats_length l
  rcases h.2 with ⟨rfl, h0⟩ | ⟨g, cap, cur, rfl, hb, hg, hc, hlc, hcl, h7⟩
  · have : l = [] := List.eq_nil_of_length_eq_zero h0
    subst this
    exact Rd.nil _ _
  · refine ⟨_, cap, by rw [hn], by rw [hn]; exact hc, fun hp => ⟨g, 0, rfl, fun j hj => ?_⟩⟩
    rw [hn] at hj
    rw [Nat.zero_add, cell_of_row w g j cur _ (0, 0) hg]
    have h8 : (cur.toList.take (l.length * 1))[j]? = (cells64 l)[j]? := by rw [h7]
    rw [List.getElem?_take, if_pos (by omega)] at h8
    rw [← Array.getElem?_toList, h8]
    simp [cells64, nats, hj]
set_option maxHeartbeats 1000000 in
theorem same64 (va vb : Value) (l : List Nat) (w : World) (ha : Rd .u64 w va (nats l)) (hb : Rd .u64 w vb (nats l)) (hl : l.length ≤ 9223372036854775807) :
    Calls Try.prog 16 #[va, vb] w (Says (.bool true) w) := by
  obtain ⟨A1, c1, rfl, hlc1, hh1⟩ := ha
  obtain ⟨A2, c2, rfl, hlc2, hh2⟩ := hb
  rw [nats_length] at *
  have H1 := Lib.hid hh1
  have H2 := Lib.hid hh2
  obtain ⟨L, hL⟩ : ∃ L, l.length = L := ⟨_, rfl⟩
  have HL := Lib.hid hL
  rw [hL] at hl hlc1 hlc2 ⊢
  clear hL hh1 hh2
  go_enter Try.func16, Try.ntmps16
  go_wp2
  go_loopw [5] (fun s5 wr => ∃ k : Nat, k ≤ L ∧ s5 = .int .i64 k ∧ ∃ n, wr = w.drewN n) (fun s5 _ => L - (intOf s5).toNat)
  case atStart => exact ⟨0, by omega, rfl, 0, by simp [World.drewN]⟩
  case round =>
    obtain ⟨k, hk, rfl, n, rfl⟩ := hrel
    by_cases hkl : k < L
    · have hkI : (k : Int) < (L : Int) := by omega
      obtain ⟨g1, o1, rfl, hc1⟩ := H1.out (by rw [nats_length, HL.out]; omega)
      obtain ⟨g2, o2, rfl, hc2⟩ := H2.out (by rw [nats_length, HL.out]; omega)
      have hkn : k < (nats l).length := by rw [nats_length, HL.out]; exact hkl
      have r1 := hc1 k hkn
      have r2 := hc2 k hkn
      generalize (nats l)[k] = z at r1 r2
      clear hc1 hc2 hkn
      go_wp2
      go_quiet (fail)
      go_wp2
      exact ⟨⟨k + 1, by omega, by go_num, _, rfl⟩, by simp [intOf]; omega⟩
    · obtain rfl : k = L := by omega
      go_wp2
      go_ret
      exact ⟨rfl, onlyN w n⟩

def wkRow : List Nat := [10, 12, 10, 11, 8, 9, 20, 17, 16]
def wkAns : List Nat := [0, 0, 1, 0, 2, 0, 0, 0, 2]
def wk (k : Nat) : Wm := (wkRow.take k).foldl Wm.inn (Wm.new 4)
theorem foldl_fit : ∀ (l : List Nat) (m : Wm), m.Fit → (∀ x ∈ l, x < 18446744073709551616) → (l.foldl Wm.inn m).Fit
  | [], _, h, _ => h
  | x :: l, m, h, hx => foldl_fit l (m.inn x) (h.inn (hx x (by simp))) (fun y hy => hx y (by simp [hy]))
theorem wk_fit (k : Nat) : (wk k).Fit := foldl_fit _ _ (Wm.Fit.new (by decide) (by decide)) (fun x hx => by
  have h := List.mem_of_mem_take hx
  have : ∀ y ∈ wkRow, y < 18446744073709551616 := by decide
  exact this x h)
theorem wk_facts : ∀ k : Fin 9, (wk k.val).look (wkRow.getD k.val 0) = wkAns.getD k.val 0 ∧ (wk k.val).c ((wk k.val).look (wkRow.getD k.val 0)) + 1 < 18446744073709551616 := by decide +kernel
theorem wk_succ (k : Nat) (hk : k < 9) : (wk k).inn (wkRow.getD k 0) = wk (k + 1) := by
  have : k = 0 ∨ k = 1 ∨ k = 2 ∨ k = 3 ∨ k = 4 ∨ k = 5 ∨ k = 6 ∨ k = 7 ∨ k = 8 := by omega
  rcases this with rfl | rfl | rfl | rfl | rfl | rfl | rfl | rfl | rfl <;> rfl
theorem wk_miss : (wk 9).miss = [18, 19] := by decide +kernel
/-- The call number k of the examples, wherever else. -/
theorem wk_in (k b : Nat) (x y : Int) (w : World) (hk : k < 9) (hx : ((wkRow.getD k 0 : Nat) : Int) = x) (hy : ((wkAns.getD k 0 : Nat) : Int) = y) (h : Wnd w b (wk k)) :
    Calls Try.prog 12 #[ptr b, .int .u64 x] w fun e w' => e = .returned (.int .i64 y) ∧ Wnd w' b (wk (k + 1)) ∧ Only (fun j => j = b) w w' := by
  obtain ⟨h1, h2⟩ := wk_facts ⟨k, hk⟩
  have hl : wkRow.getD k 0 < 18446744073709551616 := by
    have : ∀ k : Fin 9, wkRow.getD k.val 0 < 18446744073709551616 := by decide
    exact this ⟨k, hk⟩
  subst hx hy
  refine (in_is b _ (wk k) w h (wk_fit k) hl h2).mono ?_
  rintro e w' ⟨rfl, h3, h4⟩
  rw [wk_succ k hk] at h3
  exact ⟨by rw [h1], h3, h4⟩

set_option maxRecDepth 100000 in
set_option maxHeartbeats 4000000 in
theorem nworks_is (w : World) : Calls Try.prog 7 #[] w (Says (.bool true) w) := by
  have HN := Lib.hid (of_is 4 w (by decide) (by decide))
  go_enter Try.func7, Try.ntmps7
  go_wp2_with fail
  refine HN.out.mono ?_
  rintro e w1 ⟨b, rfl, hb, hw, ho⟩
  have W0 := Lib.hid (show Wnd w1 b (wk 0) from hw)
  have O0 := Lib.hid ho
  clear hw ho HN
  go_wp2_with fail
  refine (wk_in 0 b 10 0 _ (by decide) rfl rfl W0.out).mono ?_
  rintro e w2 ⟨rfl, hw, ho⟩
  have W1 := Lib.hid hw
  have O1 := Lib.hid (O0.out.trans ho (fun i hi e => by omega))
  clear hw ho W0 O0
  go_wp2_with fail
  refine (wk_in 1 b 12 0 _ (by decide) rfl rfl W1.out).mono ?_
  rintro e w3 ⟨rfl, hw, ho⟩
  have W2 := Lib.hid hw
  have O2 := Lib.hid (O1.out.trans ho (fun i hi e => by omega))
  clear hw ho W1 O1
  go_wp2_with fail
  refine (wk_in 2 b 10 1 _ (by decide) rfl rfl W2.out).mono ?_
  rintro e w4 ⟨rfl, hw, ho⟩
  have W3 := Lib.hid hw
  have O3 := Lib.hid (O2.out.trans ho (fun i hi e => by omega))
  clear hw ho W2 O2
  go_wp2_with fail
  refine (wk_in 3 b 11 0 _ (by decide) rfl rfl W3.out).mono ?_
  rintro e w5 ⟨rfl, hw, ho⟩
  have W4 := Lib.hid hw
  have O4 := Lib.hid (O3.out.trans ho (fun i hi e => by omega))
  clear hw ho W3 O3
  go_wp2_with fail
  refine (wk_in 4 b 8 2 _ (by decide) rfl rfl W4.out).mono ?_
  rintro e w6 ⟨rfl, hw, ho⟩
  have W5 := Lib.hid hw
  have O5 := Lib.hid (O4.out.trans ho (fun i hi e => by omega))
  clear hw ho W4 O4
  go_wp2_with fail
  refine (wk_in 5 b 9 0 _ (by decide) rfl rfl W5.out).mono ?_
  rintro e w7 ⟨rfl, hw, ho⟩
  have W6 := Lib.hid hw
  have O6 := Lib.hid (O5.out.trans ho (fun i hi e => by omega))
  clear hw ho W5 O5
  go_wp2_with fail
  refine (wk_in 6 b 20 0 _ (by decide) rfl rfl W6.out).mono ?_
  rintro e w8 ⟨rfl, hw, ho⟩
  have W7 := Lib.hid hw
  have O7 := Lib.hid (O6.out.trans ho (fun i hi e => by omega))
  clear hw ho W6 O6
  go_wp2_with fail
  refine (wk_in 7 b 17 0 _ (by decide) rfl rfl W7.out).mono ?_
  rintro e w9 ⟨rfl, hw, ho⟩
  have W8 := Lib.hid hw
  have O8 := Lib.hid (O7.out.trans ho (fun i hi e => by omega))
  clear hw ho W7 O7
  go_wp2_with fail
  refine (wk_in 8 b 16 2 _ (by decide) rfl rfl W8.out).mono ?_
  rintro e w10 ⟨rfl, hw, ho⟩
  have W9 := Lib.hid hw
  have O9 := Lib.hid (O8.out.trans ho (fun i hi e => by omega))
  clear hw ho W8 O8
  obtain ⟨D, hD⟩ := W9.out
  go_wp2_with fail
  refine (missing_is b (wk 9) D _ hD (wk_fit 9)).mono ?_
  rintro e w11 ⟨v, rfl, hv, hbl⟩
  rw [wk_miss] at hv
  have R := Lib.hid (own_rd64 hv)
  have O10 := Lib.hid (O9.out.trans (Only.of_below hbl) (fun _ _ e => e))
  clear hv hbl W9 O9 hD
  have hv := R.out
  obtain ⟨A, c, rfl, -⟩ := hv
  go_wp2_with fail
  have hlit : ∀ w : World, Rd .u64 (w.alloc (.cells #[.int .u64 18, .int .u64 19] 23)) (.slice (some ⟨w.heap.size, 0, none⟩) 2 2) (nats [18, 19]) := fun w =>
    ⟨_, 2, rfl, by decide, fun _ => ⟨w.heap.size, 0, rfl, fun j hj => by
      have hj2 : j < 2 := hj
      rw [(Is.made w _ _).cell]
      have : j = 0 ∨ j = 1 := by omega
      rcases this with rfl | rfl <;> rfl⟩⟩
  refine (same64 _ _ [18, 19] _ (R.out.only ((Only.refl (fun _ => False) _).alloc _) (by simp)) (hlit _) (by decide)).mono ?_
  rintro e w12 ⟨rfl, ho⟩
  have O11 := Lib.hid ((O10.out.alloc _).trans ho (fun _ _ e => e))
  clear ho
  go_wp2
  go_ret
  exact ⟨rfl, O11.out⟩
set_option maxHeartbeats 1000000 in
theorem nnone_walk (n : Nat) (w : World) : Calls Try.prog 5 #[.int .u64 (n : Int)] w (Says (.bool true) w) := by
  go_enter Try.func5, Try.ntmps5
  go_wp2_with fail
  refine (top_nil _).mono ?_
  rintro e w1 ⟨rfl, rfl⟩
  go_wp2_with fail
  refine (in_nil _ _).mono ?_
  rintro e w1 ⟨rfl, rfl⟩
  go_wp2_with fail
  refine (look_nil _ _).mono ?_
  rintro e w1 ⟨rfl, rfl⟩
  go_wp2_with fail
  refine (missing_nil _).mono ?_
  rintro e w1 ⟨rfl, rfl⟩
  go_wp2_with fail
  refine (count_nil _ _).mono ?_
  rintro e w1 ⟨rfl, rfl⟩
  go_wp2_with fail
  refine (nworks_is _).mono ?_
  rintro e w1 ⟨rfl, ho⟩
  have HO := Lib.hid ho
  clear ho
  go_wp2
  go_ret
  exact ⟨rfl, HO.out⟩
end Go.Proofs.Ytllchikjdpoopaa
