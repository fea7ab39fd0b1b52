/- RosterKnown: rows of calls in the making. Conditions: as each says. -/
import Derived.Test.YtglgmhdajmncjaaRyT
import Derived.Test.YtglgmhdajmncjaaRyV
set_option linter.unusedVariables false
set_option linter.unusedSimpArgs false
namespace Go.Proofs.Ytglgmhdajmncjaa
open Go Go.RowKit

def zeroA14 : Array Value := #[.bool false, .int .i64 0, .int .u32 0, .int .u32 0, .bool false]
theorem Try.infoA14 : (Try.prog.info? 60).map (fun i => (i.zero, i.size, i.bytes)) = some (some (.agg zeroA14), 5, 32) := by kernel_rfl
theorem sty_a14 : Sty 48 60 5 32 := by
  obtain ⟨i0, hi, hz0, hz1, hz2⟩ := info_parts Try.infoA14
  exact ⟨Try.underlying48, ⟨i0, _, hi, hz0, hz1, hz2, rfl⟩, by decide⟩
def aRows (l : List A14) : List (List Value) := l.map A14.cells
theorem aRows_length (l : List A14) : (aRows l).length = l.length := by simp [aRows]
theorem aRows_snoc (l : List A14) (a : A14) : aRows (l ++ [a]) = aRows l ++ [a.cells] := by simp [aRows]
theorem aRows_rd {w : World} {B : Nat} {v : Value} {l : List A14} (h : OwnS w B 60 5 v (aRows l)) : RdC w v l := by
  obtain ⟨A, c, rfl, hc⟩ := h.slice
  rw [aRows_length] at h hc ⊢
  refine ⟨A, c, rfl, hc, fun hp => ?_⟩
  obtain ⟨g, c', e, -⟩ := h.place (by rw [aRows_length]; exact hp)
  obtain ⟨hA, -, -⟩ := Value.slice.inj e
  subst hA
  refine ⟨g, 0, rfl, fun i x hx => ?_⟩
  rw [Nat.zero_add]
  exact h.range (g := g) rfl (by simp [aRows, hx])
/-- The next call of a number. -/
def actN (k : Nat) : A14 := ⟨decide (k % 4 = 3), ⟨(k : Int) % 5 - (k : Int) % 31 / 30, k / 2 % 9, k / 3 % 11, decide (k % 2 = 0)⟩⟩
theorem actN_fits (k : Nat) : (actN k).m.Fits := ⟨by show _ ≤ (k : Int) % 5 - (k : Int) % 31 / 30; omega, by show (k : Int) % 5 - (k : Int) % 31 / 30 ≤ _; omega, by show k / 2 % 9 < _; omega, by show k / 3 % 11 < _; omega⟩
theorem actN_cells (k : Nat) : (actN k).cells = [.bool ((k : Int) % 4 == 3), .int .i64 ((k : Int) % 5 - (k : Int) % 31 / 30), .int .u32 ((k : Int) / 2 % 9), .int .u32 ((k : Int) / 3 % 11), .bool ((k : Int) % 2 == 0)] := by
  have e1 : decide (k % 4 = 3) = ((k : Int) % 4 == 3) := by rw [Bool.eq_iff_iff]; simp; omega
  have e2 : decide (k % 2 = 0) = ((k : Int) % 2 == 0) := by rw [Bool.eq_iff_iff]; simp; omega
  have e3 : ((k / 2 % 9 : Nat) : Int) = (k : Int) / 2 % 9 := by omega
  have e4 : ((k / 3 % 11 : Nat) : Int) = (k : Int) / 3 % 11 := by omega
  show [Value.bool (decide (k % 4 = 3)), .int .i64 ((k : Int) % 5 - (k : Int) % 31 / 30), .int .u32 ((k / 2 % 9 : Nat) : Int), .int .u32 ((k / 3 % 11 : Nat) : Int), .bool (decide (k % 2 = 0))] = _
  rw [e1, e2, e3, e4]
/-- The many calls. -/
def actM (i : Nat) : A14 := ⟨false, ⟨(i : Int), 2 * i + 1, 2 * i + 2, false⟩⟩
theorem fits_snoc {l : List A14} {a : A14} (h : ∀ x ∈ l, x.m.Fits) (ha : a.m.Fits) : ∀ x ∈ l ++ [a], x.m.Fits := fun x hx => by
  rcases List.mem_append.1 hx with h1 | h1
  · exact h x h1
  · rw [List.mem_singleton.1 h1]; exact ha
theorem Try.sizeMb' : (Try.prog.info? 58).map (·.size) = some 4 := Try.sizeMb
set_option maxRecDepth 100000 in
set_option maxHeartbeats 32000000 in
theorem rknown14_walk (w : World) : Calls Try.prog 8 #[] w (SaysR (.bool true) w) := by
  go_enter Try.func8, Try.ntmps8
  go_wp2
  go_loopw [1] (fun s1 wr => ∃ n : Nat, n ≤ 200 ∧ s1 = .int .i64 (n : Int) ∧ Hid (Only (fun _ => False) w wr)) (fun s1 _ => 200 - (intOf s1).toNat)
  case atStart => exact ⟨0, by omega, rfl, Lib.hid (Only.refl _ w)⟩
  case round =>
    obtain ⟨n, hn, rfl, ho⟩ := hrel
    obtain ⟨wn, hwn⟩ : ∃ x, x = wr := ⟨_, rfl⟩
    rw [← hwn] at ho
    subst hwn
    by_cases hlt : n < 200
    · have hltI : (n : Int) < 200 := by omega
      go_wp2
      go_loopw [2, 3, 4] (fun s2 s3 s4 wr => ∃ (i k : Nat) (l : List A14), i ≤ 16 ∧ s4 = .int .i64 (i : Int) ∧ s3 = .int .i64 (k : Int) ∧ k < 10007 ∧ (∃ A m c, s2 = .slice A m c) ∧ Hid (OwnS wr wn.heap.size 60 5 s2 (aRows l) ∧ l.length = i ∧ (∀ x ∈ l, x.m.Fits) ∧ Only (fun _ => False) wn wr)) (fun _ _ s4 _ => 16 - (intOf s4).toNat)
      case atStart => exact ⟨0, n, [], by omega, rfl, rfl, by omega, ⟨_, _, _, rfl⟩, Lib.hid ⟨OwnS.nil _ _ _ _, rfl, by simp, Only.refl _ _⟩⟩
      case round =>
        obtain ⟨i, k, l, hi, rfl, rfl, hk, ⟨A2, m2, c2, rfl⟩, hS⟩ := hrel
        by_cases hi16 : i < 16
        · have hi16I : (i : Int) < 16 := by omega
          have HLEN := Lib.hid (show (aRows l).length ≤ 100000 by rw [aRows_length, hS.out.2.1]; omega)
          obtain ⟨X, hX⟩ : ∃ X, aRows l = X := ⟨_, rfl⟩
          have HX := Lib.hid hX
          rw [hX] at HLEN hS
          clear hX
          go_upto_region 10 with (at_builtin; refine wpList_append_structN _ rfl _ _ sty_a14 rfl wn.heap.size (.slice A2 m2 c2) _ rfl (OwnS.only hS.out.1 ((Only.refl (fun _ => False) wr).alloc _) (by simp)) wr.heap.size _ rfl (Is.made wr _ _) rfl (by simp [Value.oneCell']) HLEN.out (by decide) (by have := hS.out.2.2.2.size; simp; omega) ?_; intro A5 c5 w5 hown5 ho5 hn5; replace hown5 := Lib.hid hown5; replace ho5 := Lib.hid ho5; clear hn5)
          have KO := Lib.hid (show Only (fun _ => False) wn w5 from (hS.out.2.2.2.alloc _).trans ho5.out (fun i hi e => by have := (hS.out.1.lt i e).1; omega))
          have KV := Lib.hid (show OwnS w5 wn.heap.size 60 5 (.slice A5 (X.length + 1) c5) (aRows (l ++ [actN k])) from by rw [aRows_snoc, actN_cells, HX.out]; exact hown5.out)
          have KL := Lib.hid (show (l ++ [actN k]).length = i + 1 from by rw [List.length_append, hS.out.2.1]; rfl)
          have KF := Lib.hid (fits_snoc hS.out.2.2.1 (actN_fits k))
          obtain ⟨k2, hk2⟩ : ∃ k2 : Nat, ((k : Int) * 7 + 5 * (i : Int) + 3) % 10007 = (k2 : Int) := ⟨(k * 7 + 5 * i + 3) % 10007, by omega⟩
          have HK2 := Lib.hid (show k2 < 10007 from by omega)
          clear ho5 hown5
          go_upto_region 8 with (fail)
          rw [hk2]
          clear hk2
          go_wp2
          exact ⟨⟨i + 1, k2, l ++ [actN k], by omega, by go_num, rfl, HK2.out, ⟨_, _, _, rfl⟩, Lib.hid ⟨KV.out, KL.out, KF.out, KO.out⟩⟩, by simp [intOf]; omega⟩
        · obtain rfl : i = 16 := by omega
          have e9 : ((n % 9 : Nat) : Int) = (n : Int) % 9 := by omega
          have HP := Lib.hid (fun (wx : World) (h : Only (fun _ => False) wr wx) => e9 ▸ rplays14_walk ((n : Int) % 6 - 1) ((n : Int) % 5) (n % 9) (.slice A2 m2 c2) l wx (by omega) (aRows_rd (hS.out.1.only h (by simp))) hS.out.2.2.1)
          have HQ := Lib.hid (fun (wx : World) (h : Only (fun _ => False) wr wx) => rsources_walk ((n : Int) % 6) (.slice A2 m2 c2) l wx (aRows_rd (hS.out.1.only h (by simp))) hS.out.2.2.1)
          have HO := Lib.hid (ho.out.trans hS.out.2.2.2 (fun _ _ e => e))
          clear e9 hS
          go_wp2_with fail
          refine (HP.out wr (Only.refl _ _)).mono ?_
          rintro e w2 ⟨rfl, ho2⟩
          have O2 := Lib.hid ho2
          clear ho2 HP
          go_wp2_with fail
          refine (HQ.out w2 O2.out).mono ?_
          rintro e w3 ⟨rfl, ho3⟩
          have O3 := Lib.hid (HO.out.trans (O2.out.trans ho3 (fun _ _ e => e)) (fun _ _ e => e))
          clear ho3 HQ O2 HO
          go_wp2
          exact ⟨⟨n + 1, by omega, by go_num, O3⟩, by simp [intOf]; omega⟩
    · obtain rfl : n = 200 := by omega
      go_wp2
      go_loopw [5, 6] (fun s5 s6 wr => ∃ (i : Nat) (l : List A14), i ≤ 34 ∧ s6 = .int .i64 (i : Int) ∧ (∃ A m c, s5 = .slice A m c) ∧ Hid (OwnS wr wn.heap.size 60 5 s5 (aRows l) ∧ l.length = i ∧ (∀ x ∈ l, x.m.Fits) ∧ Only (fun _ => False) wn wr)) (fun _ s6 _ => 34 - (intOf s6).toNat)
      case atStart => exact ⟨0, [], by omega, rfl, ⟨_, _, _, rfl⟩, Lib.hid ⟨OwnS.nil _ _ _ _, rfl, by simp, Only.refl _ _⟩⟩
      case round =>
        obtain ⟨i, l, hi, rfl, ⟨A2, m2, c2, rfl⟩, hS⟩ := hrel
        by_cases hi34 : i < 34
        · have hi34I : (i : Int) < 34 := by omega
          have HLEN := Lib.hid (show (aRows l).length ≤ 100000 by rw [aRows_length, hS.out.2.1]; omega)
          obtain ⟨X, hX⟩ : ∃ X, aRows l = X := ⟨_, rfl⟩
          have HX := Lib.hid hX
          rw [hX] at HLEN hS
          clear hX
          have w1 : IntKind.u32.wrap (2 * (i : Int) + 1) = 2 * (i : Int) + 1 := by rw [IntKind.wrap_u32]; omega
          have w2 : IntKind.u32.wrap (2 * (i : Int) + 2) = 2 * (i : Int) + 2 := by rw [IntKind.wrap_u32]; omega
          go_upto_region 16 with (at_builtin; refine wpList_append_structN _ rfl _ _ sty_a14 rfl wn.heap.size (.slice A2 m2 c2) _ rfl (OwnS.only hS.out.1 ((Only.refl (fun _ => False) wr).alloc _) (by simp)) wr.heap.size _ rfl (Is.made wr _ _) rfl (by simp [Value.oneCell']) HLEN.out (by decide) (by have := hS.out.2.2.2.size; simp; omega) ?_; intro A5 c5 w5 hown5 ho5 hn5; replace hown5 := Lib.hid hown5; replace ho5 := Lib.hid ho5; clear hn5)
          have KO := Lib.hid (show Only (fun _ => False) wn w5 from (hS.out.2.2.2.alloc _).trans ho5.out (fun i hi e => by have := (hS.out.1.lt i e).1; omega))
          have KV := Lib.hid (show OwnS w5 wn.heap.size 60 5 (.slice A5 (X.length + 1) c5) (aRows (l ++ [actM i])) from by rw [aRows_snoc, HX.out]; exact hown5.out)
          have KL := Lib.hid (show (l ++ [actM i]).length = i + 1 from by rw [List.length_append, hS.out.2.1]; rfl)
          have KF := Lib.hid (fits_snoc hS.out.2.2.1 (show (actM i).m.Fits from ⟨by show _ ≤ (i : Int); omega, by show (i : Int) ≤ _; omega, by show 2 * i + 1 < _; omega, by show 2 * i + 2 < _; omega⟩))
          clear ho5 hown5 w1 w2
          go_wp2
          refine ⟨?_, by simp [intOf]; omega⟩
          repeat apply Exists.intro
          refine ⟨?_, rfl⟩
          exact ⟨i + 1, l ++ [actM i], by omega, by go_num, ⟨_, _, _, rfl⟩, Lib.hid ⟨KV.out, KL.out, KF.out, KO.out⟩⟩
        · obtain rfl : i = 34 := by omega
          have HP := Lib.hid (fun (wx : World) (h : Only (fun _ => False) wr wx) => rplays14_walk 32 31 64 (.slice A2 m2 c2) l wx (by omega) (aRows_rd (hS.out.1.only h (by simp))) hS.out.2.2.1)
          have HP2 := Lib.hid (fun (wx : World) (h : Only (fun _ => False) wr wx) => rplays14_walk 33 0 1 (.slice A2 m2 c2) l wx (by omega) (aRows_rd (hS.out.1.only h (by simp))) hS.out.2.2.1)
          have HQ := Lib.hid (fun (wx : World) (h : Only (fun _ => False) wr wx) => rsources_walk 32 (.slice A2 m2 c2) l wx (aRows_rd (hS.out.1.only h (by simp))) hS.out.2.2.1)
          have HO := Lib.hid (ho.out.trans hS.out.2.2.2 (fun _ _ e => e))
          obtain ⟨g, c', e1, -⟩ := hS.out.1.place (by rw [aRows_length, hS.out.2.1]; decide)
          obtain ⟨hA, hm2, -⟩ := Value.slice.inj e1
          rw [aRows_length, hS.out.2.1] at hm2
          subst hA hm2
          clear e1
          obtain ⟨x, hx⟩ : ∃ x, l[0]? = some x := ⟨_, List.getElem?_eq_getElem (by rw [hS.out.2.1]; decide)⟩
          have HT := Lib.hid (fun (wx : World) (h : Only (fun _ => False) wr wx) => act_tail (x := x) (range_only (hS.out.1.range (g := g) (i := 0) rfl (by simp [aRows, hx])) (hS.out.1.lt g rfl).2 h (by simp)))
          clear hS hx
          go_wp2_with fail
          refine (show Calls Try.prog 5 #[.int .i64 32, .slice (some ⟨g, 0, none⟩) 34 c2, .int .i64 31, .int .u32 64] wr (SaysR (.bool true) wr) from HP.out wr (Only.refl _ _)).mono ?_
          rintro e w2 ⟨rfl, ho2⟩
          have O2 := Lib.hid ho2
          clear ho2 HP
          go_wp2_with fail
          refine (show Calls Try.prog 5 #[.int .i64 33, .slice (some ⟨g, 0, none⟩) 34 c2, .int .i64 0, .int .u32 1] w2 (SaysR (.bool true) w2) from HP2.out w2 O2.out).mono ?_
          rintro e w3 ⟨rfl, ho3⟩
          have O3 := Lib.hid (O2.out.trans ho3 (fun _ _ e => e))
          clear ho3 HP2 O2
          go_wp2_with fail
          refine (HQ.out w3 O3.out).mono ?_
          rintro e w4 ⟨rfl, ho4⟩
          have O4 := Lib.hid (O3.out.trans ho4 (fun _ _ e => e))
          clear ho4 HQ O3
          have HT4 := Lib.hid (HT.out w4 O4.out)
          go_wp2_with (refine wpList_load_midW rfl 58 _ rfl g 1 rfl (mbA x.m).toList _ HT4.out Try.underlying58 rfl Try.sizeMb ?_)
          refine (rnone_walk x.m w4).mono ?_
          rintro e w5 ⟨rfl, ho5⟩
          have O5 := Lib.hid (O4.out.trans ho5 (fun _ _ e => e))
          clear ho5 O4
          go_wp2_with fail
          refine (rworks_is w5).mono ?_
          rintro e w6 ⟨rfl, ho6⟩
          have O6 := Lib.hid (HO.out.trans (O5.out.trans ho6 (fun _ _ e => e)) (fun _ _ e => e))
          clear ho6
          go_wp2
          go_ret
          exact ⟨rfl, O6.out⟩
theorem rknown14_args {w : World} : Calls Try.prog 8 #[] w fun e w' => e = .returned (.bool true) ∧ Below w.heap.size w w' := (rknown14_walk w).mono fun _ _ h => ⟨h.1, h.2.below (by simp) (Nat.le_refl _)⟩
end Go.Proofs.Ytglgmhdajmncjaa
