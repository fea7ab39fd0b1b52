/- WindowKnown's walk. Conditions: none. -/
import Derived.Test.YtllchikjdpoopaaWnT
set_option linter.unusedVariables false
namespace Go.Proofs.Ytllchikjdpoopaa
open Go Go.RowKit

theorem plays_any (z n sz : Int) (v : Value) (xs : List Nat) (w : World) (hr : Rd .u64 w v (nats xs)) (hx : ∀ x ∈ xs, x < 18446744073709551616) (hl : xs.length ≤ 9223372036854775807) (hn : 0 ≤ n) :
    Calls Try.prog 3 #[.int .i64 z, v, .int .u64 n, .int .i64 sz] w (Says (.bool true) w) := by
  obtain ⟨l, rfl⟩ : ∃ l : Nat, n = (l : Int) := ⟨n.toNat, by omega⟩
  exact plays_walk z v xs l sz w hr hx hl
theorem once_any (z n : Int) (v : Value) (xs : List Nat) (w : World) (hz : -9223372036854775808 ≤ z ∧ z ≤ 9223372036854775807) (hr : Rd .u64 w v (nats xs)) (hx : ∀ x ∈ xs, x < 18446744073709551616) (hl : xs.length ≤ 9223372036854775807) (hn : 0 ≤ n ∧ n < 18446744073709551616) :
    Calls Try.prog 4 #[.int .i64 z, v, .int .u64 n] w (Says (.bool true) w) := by
  obtain ⟨l, rfl⟩ : ∃ l : Nat, n = (l : Int) := ⟨n.toNat, by omega⟩
  exact once_walk z v xs l w hz (by omega) hr hx hl
/-- A row of numbers that a literal laid. -/
theorem rd_lit64 {w : World} {g n : Nat} (xs : List Nat) (h : Is w g 23 (xs.map fun (x : Nat) => Value.int .u64 (x : Int)).toArray) (hn : n = xs.length) : Rd .u64 w (.slice (some ⟨g, 0, none⟩) n n) (nats xs) := by
  subst hn
  refine ⟨_, xs.length, by rw [nats_length], by rw [nats_length]; exact Nat.le_refl _, fun _ => ⟨g, 0, rfl, fun j hj => ?_⟩⟩
  have hj' : j < xs.length := by rwa [nats_length] at hj
  rw [Nat.zero_add, h.cell]
  simp [nats, hj']
theorem Only.and {w w1 w2 : World} (h : Only (fun _ => False) w w1) (k : Only (fun _ => False) w1 w2) : Only (fun _ => False) w w2 := h.trans k (fun _ _ e => e)
theorem u64_nat (z : Int) : ∃ n : Nat, IntKind.u64.wrap z = (n : Int) ∧ n < 18446744073709551616 := by
  rw [IntKind.wrap_u64]
  exact ⟨(z % 18446744073709551616).toNat, by omega, by omega⟩
def kBases : Array Value := #[.int .u64 0, .int .u64 1, .int .u64 1020, .int .u64 18446744073709551607, .int .u64 4294967296]
theorem kBases_at (i : Nat) (h : i < 5) : ∃ p : Nat, p < 18446744073709551616 ∧ kBases[i]? = some (.int .u64 (p : Int)) := by
  have : i = 0 ∨ i = 1 ∨ i = 2 ∨ i = 3 ∨ i = 4 := by omega
  rcases this with rfl | rfl | rfl | rfl | rfl
  · exact ⟨0, by decide, rfl⟩
  · exact ⟨1, by decide, rfl⟩
  · exact ⟨1020, by decide, rfl⟩
  · exact ⟨18446744073709551607, by decide, rfl⟩
  · exact ⟨4294967296, by decide, rfl⟩
def kFar : List Nat := [5, 1028, 5, 6, 1029, 5, 4000, 2977, 18446744073709551615, 18446744073709550592, 18446744073709550591, 0, 18446744073709551615]
def kSizes : Array Value := #[.int .i64 (-1), .int .i64 0, .int .i64 1, .int .i64 2, .int .i64 63, .int .i64 64, .int .i64 65, .int .i64 1023, .int .i64 1024, .int .i64 1025]
theorem kSizes_at (i : Nat) (h : i < 10) : ∃ p : Int, (-9223372036854775808 ≤ p ∧ p ≤ 9223372036854775807) ∧ kSizes[i]? = some (.int .i64 p) := by
  have : i = 0 ∨ i = 1 ∨ i = 2 ∨ i = 3 ∨ i = 4 ∨ i = 5 ∨ i = 6 ∨ i = 7 ∨ i = 8 ∨ i = 9 := by omega
  rcases this with rfl | rfl | rfl | rfl | rfl | rfl | rfl | rfl | rfl | rfl <;> exact ⟨_, by decide, rfl⟩

set_option maxRecDepth 100000 in
set_option maxHeartbeats 8000000 in
theorem nknown_walk (w : World) : Calls Try.prog 6 #[] w (Says (.bool true) w) := by
  go_enter Try.func6, Try.ntmps6
  go_upto_region 2 with (fail)
  obtain ⟨gb, hgb⟩ : ∃ g, w.heap.size = g := ⟨_, rfl⟩
  generalize hw2 : World.alloc w _ = w2
  have IB := Lib.hid (show Is w2 gb 23 kBases from by rw [← hw2, ← hgb]; exact Is.made w _ _)
  have O2 := Lib.hid (show Only (fun _ => False) w w2 from by rw [← hw2]; exact (Only.refl _ w).alloc _)
  rw [hgb]
  clear hw2 hgb
  go_wp2
  go_loopw [2] (fun i wr => ∃ n : Nat, n ≤ 800 ∧ i = .int .i64 (n : Int) ∧ Only (fun _ => False) w2 wr) (fun i _ => 800 - (intOf i).toNat)
  case atStart => exact ⟨0, by omega, rfl, Only.refl _ _⟩
  case round =>
    obtain ⟨n, hn, rfl, ho⟩ := hrel
    have O3 := Lib.hid ho
    clear ho
    by_cases hlt : n < 800
    · have zn : (n : Int) < 800 := by omega
      go_wp2
      go_loopw [3, 4, 5] (fun s3 s4 s5 wx => ∃ (i k p : Nat) (xs : List Nat), i ≤ 6 ∧ s5 = .int .i64 (i : Int) ∧ s4 = .int .i64 (k : Int) ∧ p = 2 ^ i ∧ k ≤ 1000 * p ∧ xs.length = i ∧ (∀ x ∈ xs, x < 18446744073709551616) ∧ wx.ownsRow w2.heap.size 23 1 s3 xs.length (cells64 xs) ∧ Only (fun _ => False) w2 wx) (fun _ _ s5 _ => 6 - (intOf s5).toNat)
      case atStart => exact ⟨0, n, 1, [], by omega, rfl, rfl, rfl, by omega, rfl, by simp, World.ownsRow_nil _ _ _ _, O3.out⟩
      case round =>
        obtain ⟨i, k, p, xs, hi, rfl, rfl, hp, hkp, hxs, hxl, hown, ho⟩ := hrel
        have OWN := Lib.hid hown
        have O4 := Lib.hid ho
        have HXL := Lib.hid hxl
        have HXS := Lib.hid hxs
        clear hown ho hxl hxs O3
        obtain ⟨q, hq, hqc⟩ := kBases_at (n % 5) (Nat.mod_lt _ (by decide))
        have cb := (IB.out.only O4.out (by simp)).cell (n % 5)
        rw [hqc] at cb
        by_cases hi6 : i < 6
        · have hp64 : p ≤ 32 := by
            rw [hp]
            exact Nat.le_trans (Nat.pow_le_pow_right (by decide) (show i ≤ 5 by omega)) (by decide)
          have hp1 : 1 ≤ p := by rw [hp]; exact Nat.pow_pos (by decide)
          have zi : (i : Int) < 6 := by omega
          have HP := Lib.hid (show p * 2 = 2 ^ (i + 1) from by rw [hp, Nat.pow_succ])
          clear hp hqc
          have e5 : (n : Int) % 5 = ((n % 5 : Nat) : Int) := by omega
          have h5 : n % 5 < 5 := Nat.mod_lt _ (by decide)
          have h5I : ((n % 5 : Nat) : Int) < 5 := by omega
          have e9 : (k : Int) % 9 = ((k % 9 : Nat) : Int) := by omega
          have h9 : k % 9 < 9 := Nat.mod_lt _ (by decide)
          have e9w : IntKind.u64.wrap ((k % 9 : Nat) : Int) = ((k % 9 : Nat) : Int) := by rw [IntKind.wrap_u64]; omega
          obtain ⟨y, hy, hyl⟩ := u64_nat ((q : Int) + ((k % 9 : Nat) : Int))
          generalize n % 5 = r5 at *
          generalize k % 9 = r9 at *
          have HYL := Lib.hid hyl
          have HLEN := Lib.hid (show xs.length ≤ 1000000 from by rw [HXS.out]; omega)
          clear h9 hyl
          go_upto_region 11 with (refine wpList_app64one _ rfl _ _ rfl w2.heap.size _ xs y _ rfl (owned_only OWN.out ((Only.refl (fun _ => False) _).alloc _) (by simp)) rfl (Is.made _ _ _) HLEN.out (by have := O4.out.size; simp; omega) ?_; intro A2 c2 w6 hown6 ho6)
          have hoff := owned_only OWN.out ((Only.refl (fun _ => False) _).alloc (.cells #[.int .u64 (y : Int)] 23)) (by simp)
          have HO6 := Lib.hid (show Only (fun _ => False) w2 w6 from (O4.out.alloc _).trans ho6 (fun i hi e => by have := own_base hoff e; omega))
          have HW6 := Lib.hid hown6
          clear hown6 ho6 hoff cb hy e9w e9 e5
          have f1 : IntKind.i64.wrap ((k : Int) * 5) = (k : Int) * 5 := by rw [IntKind.wrap_i64]; omega
          have f2 : ((k : Int) * 5) / 3 = ((k * 5 / 3 : Nat) : Int) := by omega
          have hk5 : k * 5 / 3 ≤ 2 * k := by omega
          have hk6 : k * 5 / 3 + 43 ≤ 1000 * (p * 2) := by omega
          generalize k * 5 / 3 = kk at *
          go_wp2
          refine ⟨⟨i + 1, kk + 7 * i + 1, p * 2, xs ++ [y], by omega, by go_num, int_congr (by omega), HP.out, by omega, by rw [List.length_append, HXS.out]; rfl, ?_, ?_, HO6.out⟩, by simp [intOf]; omega⟩
          · intro x hx
            rcases List.mem_append.1 hx with hx | hx
            · exact HXL.out x hx
            · have hxy : x = y := by simpa using hx
              rw [hxy]
              exact HYL.out
          · have := HW6.out
            simpa only [List.length_append, List.length_singleton] using this
        · obtain rfl : i = 6 := by omega
          obtain ⟨A2, c2, rfl, -⟩ := own_slice OWN.out
          have RV := Lib.hid (own_rd64 OWN.out)
          have e5 : (n : Int) % 5 = ((n % 5 : Nat) : Int) := by omega
          have h5 : n % 5 < 5 := Nat.mod_lt _ (by decide)
          have h5I : ((n % 5 : Nat) : Int) < 5 := by omega
          have e8 : (n : Int) % 8 = ((n % 8 : Nat) : Int) := by omega
          have h8 : n % 8 < 8 := Nat.mod_lt _ (by decide)
          have e8w : IntKind.u64.wrap ((n % 8 : Nat) : Int) = ((n % 8 : Nat) : Int) := by rw [IntKind.wrap_u64]; omega
          obtain ⟨y, hy, hyl⟩ := u64_nat ((q : Int) + ((n % 8 : Nat) : Int))
          have HPL := Lib.hid (fun (z sz : Int) => plays_any z (y : Int) sz _ xs _ RV.out HXL.out (by rw [HXS.out]; decide) (by omega))
          obtain ⟨q2, hq2, hqc2⟩ := kBases_at (n / 2 % 5) (Nat.mod_lt _ (by decide))
          have CB2 := Lib.hid (fun (wx : World) (h : Only (fun _ => False) w2 wx) => show wx.cell? ⟨gb, n / 2 % 5, none⟩ = some (.int .u64 (q2 : Int)) from by rw [(IB.out.only h (by simp)).cell, hqc2])
          have HON := Lib.hid (fun (z : Int) (hz : 0 ≤ z ∧ z < 5) (wx : World) (h : Only (fun _ => False) wr wx) => once_any z (q2 : Int) _ xs wx (by omega) (RV.out.said h) HXL.out (by rw [HXS.out]; decide) (by omega))
          rw [HXS.out] at HPL HON ⊢
          clear OWN HXL HXS RV hp hkp hqc hqc2 hyl
          have e2 : (n : Int) % 2 = ((n % 2 : Nat) : Int) := by omega
          have e25 : (n : Int) / 2 % 5 = ((n / 2 % 5 : Nat) : Int) := by omega
          have h25 : n / 2 % 5 < 5 := Nat.mod_lt _ (by decide)
          have h25I : ((n / 2 % 5 : Nat) : Int) < 5 := by omega
          generalize n / 2 % 5 = s5 at *
          generalize n % 5 = r5 at *
          generalize n % 8 = r8 at *
          clear h8 hi6 hi
          go_wp2_with fail
          refine (HPL.out _ _).mono ?_
          rintro e w5 ⟨rfl, ho⟩
          have O5 := Lib.hid ho
          clear ho HPL cb e8w e8 hy
          have cb2 := CB2.out _ (O4.out.and O5.out)
          by_cases hev : n % 2 = 0
          · have hevI : (n : Int) % 2 = 0 := by omega
            go_wp2_with fail
            refine (HON.out _ (by omega) _ O5.out).mono ?_
            rintro e w6 ⟨rfl, ho⟩
            have O6 := Lib.hid ((O4.out.and O5.out).and ho)
            clear ho
            go_wp2
            exact ⟨⟨n + 1, by omega, by go_num, O6.out⟩, by simp [intOf]; omega⟩
          · have hod : n % 2 = 1 := by omega
            have hodI : (n : Int) % 2 = 1 := by omega
            have O6 := Lib.hid (O4.out.and O5.out)
            clear hev
            go_wp2
            exact ⟨⟨n + 1, by omega, by go_num, O6.out⟩, by simp [intOf]; omega⟩
    · obtain rfl : n = 800 := by omega
      clear hlt hn
      have O4 := Lib.hid (O2.out.and O3.out)
      clear O2 O3 IB
      go_upto_region 15 with (fail)
      obtain ⟨gf, hgf⟩ : ∃ g, wr.heap.size = g := ⟨_, rfl⟩
      generalize hw5 : World.alloc wr _ = w5
      have IF := Lib.hid (show Is w5 gf 23 (kFar.map fun (x : Nat) => Value.int .u64 (x : Int)).toArray from by rw [← hw5, ← hgf]; exact Is.made wr _ _)
      have O5 := Lib.hid (show Only (fun _ => False) w w5 from by rw [← hw5]; exact O4.out.alloc _)
      rw [hgf]
      clear hw5 hgf O4
      go_wp2
      obtain ⟨gs, hgs⟩ : ∃ g, w5.heap.size = g := ⟨_, rfl⟩
      generalize hw6 : World.alloc w5 _ = w6
      have IS := Lib.hid (show Is w6 gs 3 kSizes from by rw [← hw6, ← hgs]; exact Is.made w5 _ _)
      have O6 := Lib.hid (show Only (fun _ => False) w w6 from by rw [← hw6]; exact O5.out.alloc _)
      have IF6 := Lib.hid (show Is w6 gf 23 (kFar.map fun (x : Nat) => Value.int .u64 (x : Int)).toArray from by rw [← hw6]; exact Is.alloc IF.out _)
      rw [hgs]
      clear hw6 hgs O5 IF
      have hfl : ∀ x ∈ kFar, x < 18446744073709551616 := by decide
      have HPL := Lib.hid (fun (z : Int) (wx : World) (h : Only (fun _ => False) w6 wx) => plays_any z 6 1 (.slice (some ⟨gf, 0, none⟩) 13 13) kFar wx (rd_lit64 kFar (IF6.out.only h (by simp)) rfl) hfl (by decide) (by decide))
      have HON := Lib.hid (fun (z : Int) (hz : -9223372036854775808 ≤ z ∧ z ≤ 9223372036854775807) (wx : World) (h : Only (fun _ => False) w6 wx) => once_any z 3 (.slice (some ⟨gf, 0, none⟩) 13 13) kFar wx hz (rd_lit64 kFar (IF6.out.only h (by simp)) rfl) hfl (by decide) (by decide))
      clear hfl
      go_loopw [77] (fun i wx => ∃ j : Nat, j ≤ 10 ∧ i = .int .i64 (j : Int) ∧ Only (fun _ => False) w6 wx) (fun i _ => 10 - (intOf i).toNat)
      case atStart => exact ⟨0, by omega, rfl, Only.refl _ _⟩
      case round =>
        obtain ⟨j, hj, rfl, ho⟩ := hrel
        have O7 := Lib.hid ho
        clear ho
        by_cases hj10 : j < 10
        · have zj : (j : Int) < 10 := by omega
          obtain ⟨z, hz, hzc⟩ := kSizes_at j hj10
          have HZ := Lib.hid hz
          have cz := (IS.out.only O7.out (by simp)).cell j
          rw [hzc] at cz
          clear hz hzc
          go_wp2_with fail
          refine (HPL.out z _ O7.out).mono ?_
          rintro e w8 ⟨rfl, ho⟩
          have O8 := Lib.hid (O7.out.and ho)
          clear ho cz
          go_wp2_with fail
          refine (HON.out z HZ.out _ O8.out).mono ?_
          rintro e w9 ⟨rfl, ho⟩
          have O9 := Lib.hid (O8.out.and ho)
          clear ho
          go_wp2
          constructor
          · repeat apply Exists.intro
            refine ⟨?_, rfl⟩
            exact ⟨j + 1, by omega, by go_num, O9.out⟩
          · simp [intOf]; omega
        · obtain rfl : j = 10 := by omega
          clear hj10 hj
          have HP3 := Lib.hid (show ∀ wx, Calls Try.prog 5 #[.int .u64 3] wx (Says (.bool true) wx) from fun wx => nnone_walk 3 wx)
          have HP4 := Lib.hid (show ∀ wx, Calls Try.prog 3 #[.int .i64 3, .slice none 0 0, .int .u64 0, .int .i64 3] wx (Says (.bool true) wx) from fun wx => plays_any 3 0 3 _ [] wx (Rd.nil _ _) (by simp) (by decide) (by decide))
          go_wp2_with fail
          refine (HP3.out _).mono ?_
          rintro e w10 ⟨rfl, ho⟩
          have O10 := Lib.hid (O7.out.and ho)
          clear ho
          go_wp2_with fail
          refine (HP4.out _).mono ?_
          rintro e w11 ⟨rfl, ho⟩
          have O11 := Lib.hid (O10.out.and ho)
          clear ho
          go_wp2_with fail
          refine (nworks_is _).mono ?_
          rintro e w12 ⟨rfl, ho⟩
          have O12 := Lib.hid (O6.out.and (O11.out.and ho))
          clear ho
          go_wp2
          go_ret
          exact ⟨rfl, O12.out⟩
end Go.Proofs.Ytllchikjdpoopaa
