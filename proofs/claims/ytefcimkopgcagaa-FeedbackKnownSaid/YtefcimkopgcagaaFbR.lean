/- Rate, the program's and the reference's. Conditions: as each says. -/
import Derived.Test.YtefcimkopgcagaaFbGr
import Derived.Test.YtefcimkopgcagaaFbG
import Derived.Test.YtefcimkopgcagaaFbS
set_option linter.unusedVariables false
namespace Go.Proofs.Ytefcimkopgcagaa
open Go.RowKit

def rateOf (m e : Nat) : Nat := if m * 2 ^ e < 18446744073709551616 then m * 2 ^ e else 18446744073709551615
theorem bitLen_pos (x : Nat) (h : x ≠ 0) (hx : x < 4294967296) : 2 ^ (Lib.bitLen x - 1) ≤ x ∧ x < 2 ^ Lib.bitLen x ∧ 1 ≤ Lib.bitLen x := by
  have hx64 : x < 18446744073709551616 := by omega
  have h1 := len_ge x 0 (by simp; omega) hx64
  refine ⟨?_, ?_, h1⟩
  · rcases Nat.lt_or_ge x (2 ^ (Lib.bitLen x - 1)) with hlt | hge
    · have := len_lt x _ hlt
      omega
    · exact hge
  · rcases Nat.lt_or_ge x (2 ^ Lib.bitLen x) with hlt | hge
    · exact hlt
    · have := len_ge x _ hge hx64
      omega
theorem rate_big (m e : Nat) (hm : m < 4294967296) : (m ≠ 0 ∧ 64 < Lib.bitLen m + e) ↔ 18446744073709551616 ≤ m * 2 ^ e := by
  constructor
  · rintro ⟨h0, h1⟩
    obtain ⟨h2, -, h4⟩ := bitLen_pos m h0 hm
    have h5 : 2 ^ 64 ≤ 2 ^ (Lib.bitLen m - 1) * 2 ^ e := by rw [← Nat.pow_add]; exact Nat.pow_le_pow_right (by decide) (by omega)
    have h6 : 2 ^ (Lib.bitLen m - 1) * 2 ^ e ≤ m * 2 ^ e := Nat.mul_le_mul_right _ h2
    have h7 : (2 : Nat) ^ 64 = 18446744073709551616 := by decide
    omega
  · intro h
    have h0 : m ≠ 0 := by rintro rfl; simp at h
    refine ⟨h0, ?_⟩
    obtain ⟨-, h3, -⟩ := bitLen_pos m h0 hm
    rcases Nat.lt_or_ge 64 (Lib.bitLen m + e) with hlt | hge
    · exact hlt
    · exfalso
      have h5 : m * 2 ^ e < 2 ^ Lib.bitLen m * 2 ^ e := Nat.mul_lt_mul_of_pos_right h3 (Nat.two_pow_pos e)
      have h6 : 2 ^ Lib.bitLen m * 2 ^ e ≤ 2 ^ 64 := by rw [← Nat.pow_add]; exact Nat.pow_le_pow_right (by decide) hge
      have h7 : (2 : Nat) ^ 64 = 18446744073709551616 := by decide
      omega

set_option maxRecDepth 100000 in
set_option maxHeartbeats 4000000 in
theorem rate_is (m : Ms) (vp vo vs : Value) (w : World) (hm : m.mant < 4294967296) (he : m.exp < 256) :
    Calls Try.prog 19 #[.agg (m.cls vp vo vs)] w fun e w' => e = .returned (.int .u64 (rateOf m.mant m.exp : Nat)) ∧ Only (fun _ => False) w w' := by
  have HL := Lib.hid (fun w => len32_is m.mant w hm)
  have HBG := Lib.hid (rate_big m.mant m.exp hm)
  have HCG := Lib.hid (fun mb => show ∀ wx, Is wx mb 27 (m.cls vp vo vs) → wx.cell? ⟨mb, 5, none⟩ = some (.int .u8 (m.exp : Nat)) ∧ wx.cell? ⟨mb, 6, none⟩ = some (.int .u32 (m.mant : Nat)) from fun wx h => ⟨h.cell 5, h.cell 6⟩)
  obtain ⟨rt, hrt⟩ : ∃ x, rateOf m.mant m.exp = x := ⟨_, rfl⟩
  rw [hrt]
  unfold rateOf at hrt
  obtain ⟨M, hM⟩ : ∃ x, m.mant = x := ⟨_, rfl⟩
  obtain ⟨E, hE⟩ : ∃ x, m.exp = x := ⟨_, rfl⟩
  rw [hM] at HL HBG HCG hm hrt
  rw [hE] at HBG HCG he hrt
  generalize m.cls vp vo vs = cs at *
  clear hM hE
  have HRT := Lib.hid hrt
  clear hrt
  obtain ⟨b, hb⟩ : ∃ b, Lib.bitLen M = b := ⟨_, rfl⟩
  rw [hb] at HL HBG
  have hb64 : b ≤ 64 := by rw [← hb]; exact len_lt M 64 (by omega)
  clear hb
  obtain ⟨A, hA⟩ : ∃ a, cs = a := ⟨_, rfl⟩
  have HA := Lib.hid hA
  rw [hA]
  clear hA
  go_enter Try.func19, Try.ntmps19
  go_upto_region 1 with (fail)
  generalize hw0 : World.alloc _ _ = w0
  have I0 := Lib.hid (show Is w0 w.heap.size 27 cs from by rw [← hw0, HA.out]; exact Is.made _ _ _)
  have P0 := Lib.hid (show Only (fun _ => False) w w0 from by rw [← hw0]; exact (Only.refl _ w).alloc _)
  obtain ⟨mb, hmb⟩ : ∃ k, w.heap.size = k := ⟨_, rfl⟩
  rw [hmb] at I0 ⊢
  clear hw0 hmb HA
  have HC := Lib.hid (HCG.out mb)
  clear HCG
  have wE : IntKind.i64.wrap (E : Int) = (E : Int) := by rw [IntKind.wrap_i64]; omega
  have wbE : IntKind.i64.wrap ((b : Int) + (E : Int)) = (b : Int) + (E : Int) := by rw [IntKind.wrap_i64]; omega
  by_cases h0 : M = 0
  · have z0 : ((M : Int) != 0) = false := by simp [h0]
    have HR := Lib.hid (show 0 = rt from by have h := HRT.out; rw [h0, Nat.zero_mul, if_pos (by decide)] at h; exact h)
    refine wp_region_posts [[], [0], [1, 0], [2, 1, 0], [3, 2, 1, 0], [4, 3, 2, 1, 0], [5, 3, 4, 2, 1, 0], [3, 2, 1, 0], [7, 3, 2, 1, 0], [8, 3, 7, 2, 1, 0], [6, 9, 3, 5, 4, 2, 1, 0, 8, 7], [10, 3, 6, 9, 5, 4, 2, 1, 0, 8, 7], [3, 11, 2, 1, 0, 10, 6, 9, 5, 4, 8, 7]] [] [] [[], [], [], [], [], [], [], [], [], [], [], [], []] [[], [], [], [], [], [], [], [], [], [], [], [], []] [] [] [] []
        [some ?va0, some ?va1, some ?va2, some ?va3, some undef, some undef, some undef, some undef, some undef, some undef, some undef, some undef, some ?va12]
        ?Ta (fun wx => Is wx mb 27 cs ∧ Only (fun _ => False) w0 wx) ?Wa ?Ea (by kernel_rfl) (by kernel_rfl) (by kernel_rfl) (fun x => ?hTa) ?hFa ?hinia (Reg.all_ops ?runsa) ?presa ?fina
    case Wa => exact fun j x w' => True
    case Ea => exact fun _ w' w'' => True
    case hTa =>
      simp only [Reg.fillV, Act.put, List.setIfInBounds_toArray, List.set_cons_zero, List.set_cons_succ]
      rfl
    case runsa =>
      refine And.intro ?_ ?_
      · refine Reg.ob_pure (fun _ => rfl) rfl rfl rfl rfl (fun x w1 hF => ?_)
        obtain ⟨c5, c6⟩ := HC.out _ hF.1
        go_simp
        with_reducible rfl
      refine And.intro ?_ ?_
      · refine Reg.ob_pure (fun _ => rfl) rfl rfl rfl rfl (fun x w1 hF => ?_)
        obtain ⟨c5, c6⟩ := HC.out _ hF.1
        go_simp
        with_reducible rfl
      refine And.intro ?_ ?_
      · refine Reg.ob_pure (fun _ => rfl) rfl rfl rfl rfl (fun x w1 hF => ?_)
        obtain ⟨c5, c6⟩ := HC.out _ hF.1
        go_simp
        with_reducible rfl
      refine And.intro ?_ ?_
      · refine Reg.ob_pure (fun _ => rfl) rfl rfl rfl rfl (fun x w1 hF => ?_)
        obtain ⟨c5, c6⟩ := HC.out _ hF.1
        go_simp
        with_reducible rfl
      refine And.intro ?_ ?_
      · exact Reg.ob_skip (fun _ => rfl) rfl rfl rfl
      refine And.intro ?_ ?_
      · exact Reg.ob_skip (fun _ => rfl) rfl rfl rfl
      refine And.intro ?_ ?_
      · exact Reg.ob_skip (fun _ => rfl) rfl rfl rfl
      refine And.intro ?_ ?_
      · exact Reg.ob_skip (fun _ => rfl) rfl rfl rfl
      refine And.intro ?_ ?_
      · exact Reg.ob_skip (fun _ => rfl) rfl rfl rfl
      refine And.intro ?_ ?_
      · exact Reg.ob_skip (fun _ => rfl) rfl rfl rfl
      refine And.intro ?_ ?_
      · exact Reg.ob_skip (fun _ => rfl) rfl rfl rfl
      refine And.intro ?_ ?_
      · exact Reg.ob_skip (fun _ => rfl) rfl rfl rfl
      refine And.intro ?_ ?_
      · refine Reg.ob_pure (fun _ => rfl) rfl rfl rfl rfl (fun x w1 hF => ?_)
        obtain ⟨c5, c6⟩ := HC.out _ hF.1
        go_simp
        with_reducible rfl
      exact trivial
    case hFa =>
      exact ⟨I0.out.only (only_drewN _ 1) (by simp), only_drewN _ 1⟩
    case hinia =>
      exact trivial
    case presa =>
      intro i hi j hj hc x w1 w2 hF hE hW
      trivial
    case fina =>
      rintro x w9 hF -
      have I9 := Lib.hid (hF rfl).1
      have O9 := Lib.hid (only_more P0.out (hF rfl).2)
      clear hF
      obtain ⟨c5, c6⟩ := HC.out _ I9.out
      go_wp2
      go_ret
      rw [← HR.out]
      exact ⟨rfl, O9.out⟩
  · have z0 : ((M : Int) != 0) = true := by simp; omega
    by_cases hbig : 64 < b + E
    · have z1 : (64 : Int) < (b : Int) + (E : Int) := by omega
      have hv : ¬ M * 2 ^ E < 18446744073709551616 := by have := HBG.out.1 ⟨h0, hbig⟩; omega
      have HR := Lib.hid (show 18446744073709551615 = rt from by have h := HRT.out; rw [if_neg hv] at h; exact h)
      clear hv hbig h0
      refine wp_region_posts [[], [0], [1, 0], [2, 1, 0], [3, 2, 1, 0], [4, 3, 2, 1, 0], [5, 3, 4, 2, 1, 0], [3, 2, 1, 0], [7, 3, 2, 1, 0], [8, 3, 7, 2, 1, 0], [6, 9, 3, 5, 4, 2, 1, 0, 8, 7], [10, 3, 6, 9, 5, 4, 2, 1, 0, 8, 7], [3, 11, 2, 1, 0, 10, 6, 9, 5, 4, 8, 7]] [6] [] [[], [], [], [], [], [], [], [], [], [], [], [], []] [[], [], [], [], [], [], [], [], [], [], [], [], []] [] [] [] []
          [some ?vb0, some ?vb1, some ?vb2, some ?vb3, some ?vb4, some ?vb5, some (.int .i64 (b : Nat)), some ?vb7, some ?vb8, some ?vb9, some ?vb10, some ?vb11, some ?vb12]
          ?Tb (fun wx => Is wx mb 27 cs ∧ Only (fun _ => False) w0 wx) ?Wb ?Eb (by kernel_rfl) (by kernel_rfl) (by kernel_rfl) (fun x => ?hTb) ?hFb ?hinib (Reg.all_ops ?runsb) ?presb ?finb
      case Wb => exact fun j x w' => True
      case Eb => exact fun _ w' w'' => True
      case hTb =>
        simp only [Reg.fillV, Act.put, List.setIfInBounds_toArray, List.set_cons_zero, List.set_cons_succ]
        rfl
      case runsb =>
        refine And.intro ?_ ?_
        · refine Reg.ob_pure (fun _ => rfl) rfl rfl rfl rfl (fun x w1 hF => ?_)
          obtain ⟨c5, c6⟩ := HC.out _ hF.1
          go_simp
          with_reducible rfl
        refine And.intro ?_ ?_
        · refine Reg.ob_pure (fun _ => rfl) rfl rfl rfl rfl (fun x w1 hF => ?_)
          obtain ⟨c5, c6⟩ := HC.out _ hF.1
          go_simp
          with_reducible rfl
        refine And.intro ?_ ?_
        · refine Reg.ob_pure (fun _ => rfl) rfl rfl rfl rfl (fun x w1 hF => ?_)
          obtain ⟨c5, c6⟩ := HC.out _ hF.1
          go_simp
          with_reducible rfl
        refine And.intro ?_ ?_
        · refine Reg.ob_pure (fun _ => rfl) rfl rfl rfl rfl (fun x w1 hF => ?_)
          obtain ⟨c5, c6⟩ := HC.out _ hF.1
          go_simp
          with_reducible rfl
        refine And.intro ?_ ?_
        · refine Reg.ob_pure (fun _ => rfl) rfl rfl rfl rfl (fun x w1 hF => ?_)
          obtain ⟨c5, c6⟩ := HC.out _ hF.1
          go_simp
          with_reducible rfl
        refine And.intro ?_ ?_
        · refine Reg.ob_pure (fun _ => rfl) rfl rfl rfl rfl (fun x w1 hF => ?_)
          obtain ⟨c5, c6⟩ := HC.out _ hF.1
          go_simp
          with_reducible rfl
        refine And.intro ?_ ?_
        · refine Reg.ob_known (fun _ => rfl) rfl rfl (fun x w1 hF hU K hK => ?_)
          obtain ⟨h1, h2⟩ := hF rfl
          go_simp
          refine (HL.out w1).mono ?_
          rintro e w3 ⟨rfl, rfl⟩
          exact hK _ (fun _ _ _ => ⟨h1, h2⟩) trivial
        refine And.intro ?_ ?_
        · refine Reg.ob_pure (fun _ => rfl) rfl rfl rfl rfl (fun x w1 hF => ?_)
          obtain ⟨c5, c6⟩ := HC.out _ hF.1
          go_simp
          with_reducible rfl
        refine And.intro ?_ ?_
        · refine Reg.ob_pure (fun _ => rfl) rfl rfl rfl rfl (fun x w1 hF => ?_)
          obtain ⟨c5, c6⟩ := HC.out _ hF.1
          go_simp
          with_reducible rfl
        refine And.intro ?_ ?_
        · refine Reg.ob_pure (fun _ => rfl) rfl rfl rfl rfl (fun x w1 hF => ?_)
          obtain ⟨c5, c6⟩ := HC.out _ hF.1
          go_simp
          with_reducible rfl
        refine And.intro ?_ ?_
        · refine Reg.ob_pure (fun _ => rfl) rfl rfl rfl rfl (fun x w1 hF => ?_)
          obtain ⟨c5, c6⟩ := HC.out _ hF.1
          go_simp
          with_reducible rfl
        refine And.intro ?_ ?_
        · refine Reg.ob_pure (fun _ => rfl) rfl rfl rfl rfl (fun x w1 hF => ?_)
          obtain ⟨c5, c6⟩ := HC.out _ hF.1
          go_simp
          with_reducible rfl
        refine And.intro ?_ ?_
        · refine Reg.ob_pure (fun _ => rfl) rfl rfl rfl rfl (fun x w1 hF => ?_)
          obtain ⟨c5, c6⟩ := HC.out _ hF.1
          go_simp
          with_reducible rfl
        exact trivial
      case hFb =>
        exact ⟨I0.out.only (only_drewN _ 1) (by simp), only_drewN _ 1⟩
      case hinib =>
        exact trivial
      case presb =>
        intro i hi j hj hc x w1 w2 hF hE hW
        trivial
      case finb =>
        rintro x w9 hF -
        have I9 := Lib.hid (hF rfl).1
        have O9 := Lib.hid (only_more P0.out (hF rfl).2)
        clear hF
        obtain ⟨c5, c6⟩ := HC.out _ I9.out
        go_wp2
        go_ret
        rw [← HR.out]
        exact ⟨rfl, O9.out⟩
    · have z1 : ¬ (64 : Int) < (b : Int) + (E : Int) := by omega
      have hv : M * 2 ^ E < 18446744073709551616 := by
        rcases Nat.lt_or_ge (M * 2 ^ E) 18446744073709551616 with h | h
        · exact h
        · exact absurd (HBG.out.2 h).2 hbig
      have HR := Lib.hid (show M * 2 ^ E = rt from by have h := HRT.out; rw [if_pos hv] at h; exact h)
      have HV := Lib.hid (show IntKind.u64.wrap ((M : Int) * 2 ^ E) = ((rt : Nat) : Int) from by
        have e : (M : Int) * 2 ^ E = ((M * 2 ^ E : Nat) : Int) := by simp
        rw [e, ← HR.out]
        generalize M * 2 ^ E = q at *
        rw [IntKind.wrap_u64]
        omega)
      refine wp_region_posts [[], [0], [1, 0], [2, 1, 0], [3, 2, 1, 0], [4, 3, 2, 1, 0], [5, 3, 4, 2, 1, 0], [3, 2, 1, 0], [7, 3, 2, 1, 0], [8, 3, 7, 2, 1, 0], [6, 9, 3, 5, 4, 2, 1, 0, 8, 7], [10, 3, 6, 9, 5, 4, 2, 1, 0, 8, 7], [3, 11, 2, 1, 0, 10, 6, 9, 5, 4, 8, 7]] [6] [] [[], [], [], [], [], [], [], [], [], [], [], [], []] [[], [], [], [], [], [], [], [], [], [], [], [], []] [] [] [] []
          [some ?vc0, some ?vc1, some ?vc2, some ?vc3, some ?vc4, some ?vc5, some (.int .i64 (b : Nat)), some ?vc7, some ?vc8, some ?vc9, some ?vc10, some ?vc11, some ?vc12]
          ?Tc (fun wx => Is wx mb 27 cs ∧ Only (fun _ => False) w0 wx) ?Wc ?Ec (by kernel_rfl) (by kernel_rfl) (by kernel_rfl) (fun x => ?hTc) ?hFc ?hinic (Reg.all_ops ?runsc) ?presc ?finc
      case Wc => exact fun j x w' => True
      case Ec => exact fun _ w' w'' => True
      case hTc =>
        simp only [Reg.fillV, Act.put, List.setIfInBounds_toArray, List.set_cons_zero, List.set_cons_succ]
        rfl
      case runsc =>
        refine And.intro ?_ ?_
        · refine Reg.ob_pure (fun _ => rfl) rfl rfl rfl rfl (fun x w1 hF => ?_)
          obtain ⟨c5, c6⟩ := HC.out _ hF.1
          go_simp
          with_reducible rfl
        refine And.intro ?_ ?_
        · refine Reg.ob_pure (fun _ => rfl) rfl rfl rfl rfl (fun x w1 hF => ?_)
          obtain ⟨c5, c6⟩ := HC.out _ hF.1
          go_simp
          with_reducible rfl
        refine And.intro ?_ ?_
        · refine Reg.ob_pure (fun _ => rfl) rfl rfl rfl rfl (fun x w1 hF => ?_)
          obtain ⟨c5, c6⟩ := HC.out _ hF.1
          go_simp
          with_reducible rfl
        refine And.intro ?_ ?_
        · refine Reg.ob_pure (fun _ => rfl) rfl rfl rfl rfl (fun x w1 hF => ?_)
          obtain ⟨c5, c6⟩ := HC.out _ hF.1
          go_simp
          with_reducible rfl
        refine And.intro ?_ ?_
        · refine Reg.ob_pure (fun _ => rfl) rfl rfl rfl rfl (fun x w1 hF => ?_)
          obtain ⟨c5, c6⟩ := HC.out _ hF.1
          go_simp
          with_reducible rfl
        refine And.intro ?_ ?_
        · refine Reg.ob_pure (fun _ => rfl) rfl rfl rfl rfl (fun x w1 hF => ?_)
          obtain ⟨c5, c6⟩ := HC.out _ hF.1
          go_simp
          with_reducible rfl
        refine And.intro ?_ ?_
        · refine Reg.ob_known (fun _ => rfl) rfl rfl (fun x w1 hF hU K hK => ?_)
          obtain ⟨h1, h2⟩ := hF rfl
          go_simp
          refine (HL.out w1).mono ?_
          rintro e w3 ⟨rfl, rfl⟩
          exact hK _ (fun _ _ _ => ⟨h1, h2⟩) trivial
        refine And.intro ?_ ?_
        · refine Reg.ob_pure (fun _ => rfl) rfl rfl rfl rfl (fun x w1 hF => ?_)
          obtain ⟨c5, c6⟩ := HC.out _ hF.1
          go_simp
          with_reducible rfl
        refine And.intro ?_ ?_
        · refine Reg.ob_pure (fun _ => rfl) rfl rfl rfl rfl (fun x w1 hF => ?_)
          obtain ⟨c5, c6⟩ := HC.out _ hF.1
          go_simp
          with_reducible rfl
        refine And.intro ?_ ?_
        · refine Reg.ob_pure (fun _ => rfl) rfl rfl rfl rfl (fun x w1 hF => ?_)
          obtain ⟨c5, c6⟩ := HC.out _ hF.1
          go_simp
          with_reducible rfl
        refine And.intro ?_ ?_
        · refine Reg.ob_pure (fun _ => rfl) rfl rfl rfl rfl (fun x w1 hF => ?_)
          obtain ⟨c5, c6⟩ := HC.out _ hF.1
          go_simp
          with_reducible rfl
        refine And.intro ?_ ?_
        · refine Reg.ob_pure (fun _ => rfl) rfl rfl rfl rfl (fun x w1 hF => ?_)
          obtain ⟨c5, c6⟩ := HC.out _ hF.1
          go_simp
          with_reducible rfl
        refine And.intro ?_ ?_
        · refine Reg.ob_pure (fun _ => rfl) rfl rfl rfl rfl (fun x w1 hF => ?_)
          obtain ⟨c5, c6⟩ := HC.out _ hF.1
          go_simp
          with_reducible rfl
        exact trivial
      case hFc =>
        exact ⟨I0.out.only (only_drewN _ 1) (by simp), only_drewN _ 1⟩
      case hinic =>
        exact trivial
      case presc =>
        intro i hi j hj hc x w1 w2 hF hE hW
        trivial
      case finc =>
        rintro x w9 hF -
        have I9 := Lib.hid (hF rfl).1
        have O9 := Lib.hid (only_more P0.out (hF rfl).2)
        clear hF
        obtain ⟨c5, c6⟩ := HC.out _ I9.out
        go_wp2
        go_ret
        rw [HV.out]
        exact ⟨rfl, O9.out⟩
end Go.Proofs.Ytefcimkopgcagaa
