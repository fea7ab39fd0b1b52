/- FeedbackKnown's walk. Conditions: none. -/
import Derived.Test.YtefcimkopgcagaaFfG
set_option linter.unusedVariables false
set_option linter.unusedSimpArgs false
namespace Go.Proofs.Ytefcimkopgcagaa
open Go.RowKit

theorem fo_end (k K : Nat) (w0 w : World) (h : k < K) (ho : Only (fun _ => False) w0 w) : (∃ j : Nat, Value.int .u8 ((k : Int) + 1) = .int .u8 (j : Int) ∧ j ≤ K ∧ Only (fun _ => False) w0 w) ∧ K - (intOf (Value.int .u8 ((k : Int) + 1))).toNat < K - (intOf (Value.int .u8 (k : Int))).toNat :=
  ⟨⟨k + 1, rfl, by omega, ho⟩, by simp [intOf]; omega⟩
theorem mspk_facts (m : Ms) (hf : MFit m) (hl : m.pairs.length ≤ 1000 ∧ m.orders.length ≤ 1000 ∧ m.srcs.length ≤ 1000) : (msPk m).pad = 0 ∧ (msPk m).body.length ≤ 90000 ∧ ∀ x ∈ (msPk m).body, x < 256 := by
  unfold msPk
  split
  · rename_i h
    have hs : m.srcs.length < 256 ∨ m.srcs.length = 0 := by
      have h2 := of_decide_eq_true h
      unfold okMs at h2
      omega
    refine ⟨rfl, ?_, body_bytes m hf (by omega)⟩
    show (bodyB m).length ≤ 90000
    unfold bodyB partB
    rw [List.length_append, List.length_append, List.length_append, headB_len, pairsB_len, ordersB_len]
    split
    · unfold rateB
      rw [List.length_append, List.length_append, numB_len, srcsB_len]
      simp
      omega
    · simp
      omega
  · simp
set_option maxRecDepth 100000 in
set_option maxHeartbeats 16000000 in
theorem fknown_walk (w : World) : Calls Try.prog 7 #[] w fun e w' => e = .returned (.bool true) ∧ Only (fun _ => False) w w' := by
  go_enter Try.func7, Try.ntmps7
  go_wp2
  go_loopw [1] (fun i wr => ∃ s : Nat, i = .int .u8 (s : Int) ∧ s ≤ 7 ∧ Only (fun _ => False) w wr) (fun i _ => 7 - (intOf i).toNat)
  case atStart => exact ⟨0, rfl, by omega, Only.refl _ _⟩
  case round =>
    obtain ⟨s, rfl, hs, ho⟩ := hrel
    have O0 := Lib.hid ho
    clear ho
    by_cases hs7 : s < 7
    · have hsI : (s : Int) < 7 := by omega
      go_upto_region 4 with (fail)
      refine fn4 s (by omega) _ _ _ _ _ _ _ _ _ _ _ _ _ _ _ _ _ _ _ _ _ _ _ _ _ _ _ _ _ _ _ _ _ _ _ _ _ _ _ _ _ _ _ _ _ _ _ _ _ _ _ _ _ _ _ _ _ _ _ _ _ _ _ _ _ _ _ _ _ _ _ _ _ _ _ _ _ _ _ _ _ _ _ _ _ _ _ _ _ _ _ _ _ _ _ _ _ _ _ _ _ _ _ _ _ _ _ _ _ _ _ _ _ _ _ _ _ _ _ _ _ _ _ _ _ _ _ _ _ _ _ _ _ _ _ _ _ _ _ _ _ _ _ _ _ _ _ _ _ _ _ _ _ _ _ _ _ _ _ _ _ _ _ _ _ _ _ _ _ _ _ _ _ _ _ _ _ _ _ _ _ _ _ _ _ _ _ _ _ _ _ _ _ _ _ _ wr (by assumption) ?_
      rintro y0 y2 y3 y17 y18 y19 y20 y21 y22 y23 y24 y25 y26 y27 y28 y29 y30 y31 y32 y33 y34 y35 y36 y37 w1 ho1
      have O1 := Lib.hid (O0.out.trans ho1 (fun _ _ e => e))
      clear ho1
      go_upto_region 11 with (first
        | (go_at_call 40; refine (example_is s _ (by omega)).mono ?_; rintro e w2 ⟨m, p1, o1, s1, rfl, hd2, ho2⟩; have O2 := Lib.hid (O1.out.trans ho2 (fun _ _ e => e)); have D2 := Lib.hid hd2; clear hd2 ho2)
        | (go_at_call 10; refine (fref_is m p1 o1 s1 _ D2.out.rd D2.out.null D2.out.len D2.out.fit.orders).mono ?_; rintro e w3 ⟨p3, o3, s3, rfl, hd3, ho3⟩; have O3 := Lib.hid (O2.out.trans ho3 (fun _ _ e => e)); have D3 := Lib.hid hd3; clear hd3 ho3)
        | (go_at_call 11; refine (rput_any m p3 o3 s3 _ D3.out D2.out.len D2.out.fit).mono ?_; rintro e w4 ⟨B, u, rfl, hu4, ho4⟩; have O4 := Lib.hid (O3.out.trans ho4 (fun _ _ e => e)); have U4 := Lib.hid hu4; have UE := Lib.hid (own_slice hu4); clear hu4 ho4)
        | (refine wpList_store_is rfl 37 _ _ rfl w4.heap.size (pkC (msPk m) u) rfl rfl 37 _ (Is.made w4 _ _) Try.sizeRq rfl (by obtain ⟨x, y, h, -⟩ := UE.out; rw [h]; simp [Value.oneCell']) ?_; intro w5 hi5 ho5; have o5 := fb_made ho5; have X5 := Lib.hid hi5; have U5 := Lib.hid (owned_only U4.out o5 (by simp)); have O5 := Lib.hid (O4.out.trans o5 (fun _ _ e => e)); clear hi5 ho5 o5))
      obtain ⟨xb, hxb⟩ : ∃ k, w4.heap.size = k := ⟨_, rfl⟩
      rw [hxb] at X5 ⊢
      obtain ⟨A, c, rfl, -⟩ := UE.out
      obtain ⟨hpad, hlen, hbytes⟩ := mspk_facts m D2.out.fit D2.out.len
      have X6 := Lib.hid (show Is w5 xb 37 #[.int .u8 ((msPk m).count : Nat), .int .u8 ((msPk m).kind : Nat), .slice A (msPk m).body.length c, .int .u8 (0 : Nat)] from by have := X5.out; unfold pkC at this; rwa [hpad] at this)
      have HB := Lib.hid hbytes
      clear hxb U4 UE D2 D3 O1 O2 O3 O4 hpad X5 hbytes
      refine fn11 s _ _ _ c xb B A _ (by omega) rfl hlen HB.out _ _ _ _ _ _ _ _ _ _ _ _ _ _ _ _ _ _ _ _ _ _ _ _ _ _ _ _ _ _ _ _ _ _ _ _ _ _ _ _ _ _ _ _ _ _ _ _ _ _ _ _ _ _ _ _ _ _ _ _ _ _ _ _ _ _ _ _ _ _ _ _ _ _ _ _ _ _ _ _ _ _ _ _ _ _ _ _ _ _ _ _ _ _ _ _ _ _ _ _ _ _ _ _ _ _ _ _ _ _ _ _ _ _ _ _ _ _ _ _ _ _ _ _ _ _ _ _ _ _ _ _ _ _ _ _ _ _ _ _ _ _ _ _ _ _ _ _ _ _ _ _ _ _ _ _ _ _ _ _ _ _ _ _ _ _ _ _ _ _ _ _ _ _ _ _ _ _ _ _ _ _ _ _ _ _ _ _ _ _ _ _ _ _ _ w5 X6.out U5.out (by assumption) ?_
      rintro y0 y6 y7 y8 y9 y45 y46 y47 y48 y49 y50 y51 y52 y53 y54 y55 y56 y57 y58 y59 y60 y61 y62 y63 y64 y65 y66 y67 y68 y69 y70 y71 y72 y73 y74 y75 y76 y77 y78 y79 y80 y81 y82 y83 y84 y85 y86 y87 y88 y89 y90 y91 y92 y93 y94 y95 y96 y97 y98 y99 y100 y101 y102 y103 y104 y105 y106 y107 y108 y109 y110 y111 y112 y113 y114 y115 y116 y117 y118 y119 y120 y121 y122 y123 y124 w6 ho6
      have O6 := Lib.hid (O5.out.trans ho6 (fun _ _ e => e))
      clear ho6 O5 X6 U5 HB hlen
      have hw8 : IntKind.u8.wrap ((s : Int) + 1) = (s : Int) + 1 := by rw [IntKind.wrap_u8]; omega
      go_wp2
      exact fo_end s 7 w w6 hs7 O6.out
    · have hsI : ¬ (s : Int) < 7 := by omega
      clear hs7 hs
      go_upto_region 23 with (fail)
      refine fn23 _ _ _ _ _ _ _ _ _ _ _ _ _ _ _ _ _ _ _ _ _ _ _ _ _ _ _ _ _ _ _ _ _ _ _ _ _ _ _ _ _ _ _ _ _ _ _ _ _ _ _ _ _ _ _ _ _ _ _ _ _ _ _ _ _ _ _ _ _ _ _ _ _ _ _ _ _ _ _ _ _ _ _ _ _ _ _ _ _ _ _ _ _ _ _ _ _ _ _ _ _ _ _ _ _ _ _ _ _ _ _ _ _ _ _ _ _ _ _ _ _ _ _ _ _ _ _ _ _ _ _ _ _ _ _ _ _ _ _ _ _ _ _ _ _ _ _ _ _ _ _ _ _ _ _ _ _ _ _ _ _ _ _ _ _ _ _ _ _ _ _ _ _ _ _ _ _ _ _ _ _ _ _ _ _ _ _ _ _ _ _ _ _ _ _ _ _ wr (by assumption) ?_
      rintro y0 y10 y11 y12 y125 y126 y127 y128 y129 y130 y131 y132 y133 y134 y135 y136 y137 y138 y139 y140 y141 y142 y143 y144 y145 y146 y147 y148 y149 y150 y151 y152 y153 y154 y155 y156 y157 y158 y159 y160 y161 y162 y163 y164 y165 y166 y167 y168 y169 y170 y171 y172 y173 y174 y175 y176 y177 y178 y179 y180 y181 y182 y183 y184 y185 w1 ho1
      have O1 := Lib.hid (O0.out.trans ho1 (fun _ _ e => e))
      clear ho1 O0 hsI
      go_upto_region 30 with (fail)
      have HN := Lib.hid (fun (wx : World) => fnumbers_any [] (.slice none 0 0) [] (.slice none 0 0) 18446744073709551615 wx (RdP.nil _) (by simp) (Rd.nil _ _) (by simp) (.inl rfl) (by omega) (by simp))
      have HBK := Lib.hid (fun (wx : World) => fback_walk ms0 (.slice none 0 0) (.slice none 0 0) (.slice none 0 0) 0 0 0 18446744073709551615 (.slice none 0 0) (.slice none 0 0) [] [] wx (rdm0 wx) ⟨by show 0 < 256; omega, by show 0 < 4294967296; omega, by show 0 < 4294967296; omega, by show 0 < 256; omega, by show 0 < 4294967296; omega, by simp [ms0], by simp [ms0], by simp [ms0]⟩ (.inl ⟨rfl, rfl⟩) (by simp) (Rd.nil _ _) (by simp) (by omega))
      go_wp2_with (first
        | (go_at_call 5; refine (HN.out _).mono ?_; rintro e w2 ⟨rfl, ho2⟩; have O2 := Lib.hid (O1.out.trans ho2 (fun _ _ e => e)); clear ho2)
        | (go_at_call 6; refine (HBK.out _).mono ?_; rintro e w3 ⟨rfl, ho3⟩; have O3 := Lib.hid (O2.out.trans ho3 (fun _ _ e => e)); clear ho3)
        | (go_at_call 9; refine (fworks_any _).mono ?_; rintro e w4 ⟨rfl, ho4⟩; have O4 := Lib.hid (O3.out.trans ho4 (fun _ _ e => e)); clear ho4))
      go_ret
      exact ⟨rfl, O4.out⟩
end Go.Proofs.Ytefcimkopgcagaa
