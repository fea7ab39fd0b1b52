/- WideKnown's walk. Conditions: none. -/
import Derived.Test.YthnaekmceakdaaaWdL
set_option linter.unusedVariables false
namespace Go.Proofs.Ythnaekmceakdaaa
open Go.RowKit

set_option maxRecDepth 100000 in
set_option maxHeartbeats 8000000 in
theorem wknown_walk (w : World) : Calls Try.prog 7 #[] w (Says (.bool true) w) := by
  go_enter Try.func7, Try.ntmps7
  go_wp2
  go_loopw [1] (fun i wr => ∃ n : Nat, 1 ≤ n ∧ n ≤ 4 ∧ i = .int .i64 n ∧ Only (fun _ => False) w wr) (fun i _ => 4 - (intOf i).toNat)
  case atStart => exact ⟨1, by omega, by omega, rfl, Only.refl _ _⟩
  case round =>
    obtain ⟨n, hn1, hn, rfl, ho⟩ := hrel
    have O1 := Lib.hid ho
    clear ho
    by_cases hlt : n < 4
    · obtain ⟨hp, hp8⟩ := pow_u32 n hlt
      have zn : (n : Int) < 4 := by omega
      generalize 2 ^ n = c at *
      go_wp2
      go_loopw [3] (fun i wx => ∃ a : Nat, a ≤ c ∧ i = .int .u32 a ∧ Only (fun _ => False) w wx) (fun i _ => c - (intOf i).toNat)
      case atStart => exact ⟨0, by omega, rfl, O1.out⟩
      case round =>
        obtain ⟨a, ha, rfl, ho⟩ := hrel
        have O2 := Lib.hid ho
        clear ho O1
        by_cases hac : a < c
        · have za : (a : Int) < c := by omega
          go_wp2
          go_loopw [4] (fun i wx => ∃ b : Nat, b ≤ c ∧ i = .int .u32 b ∧ Only (fun _ => False) w wx) (fun i _ => c - (intOf i).toNat)
          case atStart => exact ⟨0, by omega, rfl, O2.out⟩
          case round =>
            obtain ⟨b, hb, rfl, ho⟩ := hrel
            have O3 := Lib.hid ho
            clear ho O2
            by_cases hbc : b < c
            · have zb : (b : Int) < c := by omega
              go_wp2
              go_loopw [5] (fun i wx => ∃ d : Nat, d ≤ c ∧ i = .int .u32 d ∧ Only (fun _ => False) w wx) (fun i _ => c - (intOf i).toNat)
              case atStart => exact ⟨0, by omega, rfl, O3.out⟩
              case round =>
                obtain ⟨d, hd, rfl, ho⟩ := hrel
                have O4 := Lib.hid ho
                clear ho O3
                by_cases hdc : d < c
                · have zd : (d : Int) < c := by omega
                  obtain ⟨bc, hbc2⟩ : ∃ x, b + c = x := ⟨_, rfl⟩
                  have z1 : (b : Int) + (c : Int) = (bc : Int) := by omega
                  have hbl : bc < 4294967296 := by omega
                  clear hbc2
                  go_wp2_with fail
                  refine (nexts_any n _ [a, b, d, bc, a] d _ _ (rd_lit 23 [a, b, d, bc, a] (Is.made _ _ _) rfl) (by intro x hx; simp only [List.mem_cons, List.mem_nil_iff, or_false] at hx; omega) (by omega) (by first | omega | exact (by have := u32_any ((a : Int) * b); omega)) (by simp)).mono ?_
                  rintro e w5 ⟨rfl, ho⟩
                  have O5 := Lib.hid ((O4.out.alloc _).and ho)
                  clear ho
                  go_wp2_with fail
                  refine (circles_any n a _ _ (by omega) (u32_any _)).mono ?_
                  rintro e w6 ⟨rfl, ho⟩
                  have O6 := Lib.hid (O5.out.and ho)
                  clear ho
                  go_wp2
                  exact ⟨⟨d + 1, by omega, by go_num, O6.out⟩, by simp [intOf]; omega⟩
                · obtain rfl : d = c := by omega
                  go_wp2
                  exact ⟨⟨b + 1, by omega, by go_num, O4.out⟩, by simp [intOf]; omega⟩
            · obtain rfl : b = c := by omega
              go_wp2
              exact ⟨⟨a + 1, by omega, by go_num, O3.out⟩, by simp [intOf]; omega⟩
        · obtain rfl : a = c := by omega
          go_wp2
          exact ⟨⟨n + 1, by omega, by omega, by go_num, O2.out⟩, by simp [intOf]; omega⟩
    · obtain rfl : n = 4 := by omega
      clear hn1 hn hlt
      go_upto_region 18 with (fail)
      obtain ⟨lb, hlb⟩ : ∃ g, wr.heap.size = g := ⟨_, rfl⟩
      obtain ⟨db, hdb⟩ : ∃ g, wr.heap.size + 1 = g := ⟨_, rfl⟩
      generalize hw2 : World.alloc (World.alloc wr _) _ = w2
      have IL := Lib.hid (show Is w2 lb 23 kLC from by rw [← hw2, ← hlb]; exact (Is.made wr _ _).alloc _)
      have ID := Lib.hid (show Is w2 db 3 kDC from by
        have e : (wr.alloc (.cells kLC 23)).heap.size = wr.heap.size + 1 := by simp
        rw [← hw2, ← hdb, ← e]
        exact Is.made _ _ _)
      have O2 := Lib.hid (show Only (fun _ => False) w w2 from by rw [← hw2]; exact (O1.out.alloc _).alloc _)
      rw [hdb, hlb]
      clear hw2 hlb hdb O1
      go_wp2
      go_loopw [62] (fun i wx => ∃ j : Nat, j ≤ 10 ∧ i = .int .i64 j ∧ Only (fun _ => False) w2 wx) (fun i _ => 10 - (intOf i).toNat)
      case atStart => exact ⟨0, by omega, rfl, Only.refl _ _⟩
      case round =>
        obtain ⟨j, hj, rfl, ho⟩ := hrel
        have O3 := Lib.hid ho
        clear ho
        by_cases hj10 : j < 10
        · have zj : (j : Int) < 10 := by omega
          obtain ⟨z, hz, hzc⟩ := kD_at j hj10
          have HZ := Lib.hid hz
          have cz := (ID.out.only O3.out (by simp)).cell j
          rw [hzc] at cz
          clear hz hzc
          go_wp2
          go_loopw [9] (fun i wx => ∃ i9 : Nat, i9 ≤ 12 ∧ i = .int .i64 i9 ∧ Only (fun _ => False) w2 wx) (fun i _ => 12 - (intOf i).toNat)
          case atStart => exact ⟨0, by omega, rfl, O3.out⟩
          case round =>
            obtain ⟨i, hi, rfl, ho⟩ := hrel
            have O4 := Lib.hid ho
            clear ho cz O3
            by_cases hi12 : i < 12
            · have zi : (i : Int) < 12 := by omega
              go_wp2
              go_loopw [10] (fun i wx => ∃ k : Nat, k ≤ 12 ∧ i = .int .i64 k ∧ Only (fun _ => False) w2 wx) (fun i _ => 12 - (intOf i).toNat)
              case atStart => exact ⟨0, by omega, rfl, O4.out⟩
              case round =>
                obtain ⟨k, hk, rfl, ho⟩ := hrel
                have O5 := Lib.hid ho
                clear ho O4
                by_cases hk12 : k < 12
                · have zk : (k : Int) < 12 := by omega
                  go_upto_region 26 with (fail)
                  refine known26 z i k lb w2 HZ.out hi12 hk12 _ _ _ _ _ _ _ _ _ _ _ _ _ _ _ _ _ _ _ _ _ _ _ _ _ _ _ _ _ _ _ _ _ _ _ _ _ _ _ _ _ _ _ _ _ _ _ _ _ _ _ _ _ _ _ _ _ _ _ _ _ _ _ _ _ _ _ _ _ _ _ _ _ _ _ _ _ _ _ _ _ _ _ _ _ _ _ _ _ _ _ _ _ _ _ _ _ _ _ _ _ _ _ _ _ _ _ _ _ _ _ _ _ _ _ _ _ _ _ _ _ _ _ _ _ _ _ _ _ _ _ _ _ _ _ _ _ _ _ _ _ _ _ _ _ IL.out O5.out ?_
                  intro y78 y79 y80 y81 y82 y83 y84 y85 y86 y87 y88 y89 y90 y91 y92 y93 y94 y95 y96 y97 y98 y99 y100 y101 y102 y103 y104 y105 y106 y107 y108 y109 y110 y111 y112 y113 y114 y115 y116 y117 y118 y119 y120 y121 y122 y123 y124 y125 y126 y127 y128 y129 y130 y131 y132 y133 y134 y135 y136 y137 w9 ho9
                  have O9 := Lib.hid ho9
                  clear ho9
                  go_wp2
                  exact ⟨⟨k + 1, by omega, by go_num, O9.out⟩, by simp [intOf]; omega⟩
                · obtain rfl : k = 12 := by omega
                  go_wp2
                  exact ⟨⟨i + 1, by omega, by go_num, O5.out⟩, by simp [intOf]; omega⟩
            · obtain rfl : i = 12 := by omega
              go_wp2
              exact ⟨⟨j + 1, by omega, by go_num, O4.out⟩, by simp [intOf]; omega⟩
        · obtain rfl : j = 10 := by omega
          clear hj10 hj
          have HP2 := Lib.hid (show ∀ wx, Calls Try.prog 5 #[.int .i64 14, .int .u32 5, .slice none 0 0, .slice none 0 0] wx (Says (.bool true) wx) from fun wx => rises_walk 14 5 _ _ [] [] wx (by decide) (by decide) (Rd.nil _ _) (by simp) (Rd.nil _ _) (by simp) (by simp) (by simp))
          have HP3 := Lib.hid (show ∀ wx, Calls Try.prog 6 #[.int .u32 1, .int .u64 2] wx (Says (.bool true) wx) from fun wx => wnone_walk 1 2 wx)
          go_upto_region 29 with (fail)
          go_wp2_with fail
          refine (HP3.out _).mono ?_
          rintro e w4 ⟨rfl, ho⟩
          have O4 := Lib.hid (O3.out.and ho)
          clear ho
          go_wp2_with fail
          refine (HP2.out _).mono ?_
          rintro e w5 ⟨rfl, ho⟩
          have O5 := Lib.hid (O4.out.and ho)
          clear ho
          go_wp2_with fail
          refine (wworks_is _).mono ?_
          rintro e w6 ⟨rfl, ho⟩
          have O6 := Lib.hid (O2.out.and (O5.out.and ho))
          clear ho
          go_wp2
          go_ret
          exact ⟨rfl, O6.out⟩
end Go.Proofs.Ythnaekmceakdaaa
