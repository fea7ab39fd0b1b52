/- slices.Sort of numbers of 32 digits: pdqsort, and Sort. Conditions: as each says. -/
import Derived.Test.YtelfeedaadkhnaaSoJ
set_option linter.unusedVariables false
set_option linter.unusedSimpArgs false
namespace Go.Proofs.Ytelfeedaadkhnaa
open Go Go.RowKit

/-- A sort's state, in memory. -/
structure Ps (B g c N a0 b0 a b : Nat) (f0 f : Nat → Nat) (w wx : World) : Prop where
  iv : Iv a0 b0 a b f0 f
  rw_ : Rw B g c N f w wx
theorem Ps.move {B g c N a0 b0 a b : Nat} {f0 f f' : Nat → Nat} {w wx wy : World} (h : Ps B g c N a0 b0 a b f0 f w wx) (hm : Mv a b f f') (hr : Rw B g c N f' w wy) : Ps B g c N a0 b0 a b f0 f' w wy := ⟨h.iv.move hm, hr⟩
theorem Ps.done {B g c N a0 b0 a b : Nat} {f0 f : Nat → Nat} {w wx : World} (h : Ps B g c N a0 b0 a b f0 f w wx) (hs : Srt a b f) : Sd B g c N a0 b0 f0 (fun f' => Srt a0 b0 f') w (.returned (.tuple #[])) wx := ⟨rfl, f, h.rw_, h.iv.mv, h.iv.done hs⟩
set_option maxRecDepth 100000 in
set_option maxHeartbeats 16000000 in
theorem pdq_step (B g c N a0 b0 lim0 : Nat) (f0 : Nat → Nat) (w : World) (hN : N < 50) (hab0 : a0 ≤ b0) (hb0 : b0 ≤ N) (hl0 : lim0 ≤ 1000000) (hR : Rw B g c N f0 w w) (hpre : 0 < a0 → ∀ k, a0 ≤ k → k < b0 → f0 (a0 - 1) ≤ f0 k)
    (IH : ∀ (a b lim : Nat) (f : Nat → Nat) (wx : World), b - a < b0 - a0 → a ≤ b → b ≤ N → lim ≤ 1000000 → Rw B g c N f wx wx → (0 < a → ∀ k, a ≤ k → k < b → f (a - 1) ≤ f k) → Calls Try.prog 64 #[.slice (some ⟨g, 0, none⟩) N c, .int .i64 (a : Int), .int .i64 (b : Int), .int .i64 (lim : Int)] wx (Sd B g c N a b f (fun f' => Srt a b f') wx)) :
    Calls Try.prog 64 #[.slice (some ⟨g, 0, none⟩) N c, .int .i64 (a0 : Int), .int .i64 (b0 : Int), .int .i64 (lim0 : Int)] w (Sd B g c N a0 b0 f0 (fun f' => Srt a0 b0 f') w) := by
  have R0 := Lib.hid (show Ps B g c N a0 b0 a0 b0 f0 f0 w w from ⟨Iv.start hab0 hpre, hR⟩)
  have HI := Lib.hid IH
  clear hR hpre IH
  go_enter Try.func64, Try.ntmps64
  go_wp2
  go_loopw [1, 2, 3, 8, 9] (fun s1 s2 s3 s8 s9 wx => ∃ (a b lim : Nat) (wb wp : Bool) (f : Nat → Nat), s1 = .int .i64 (a : Int) ∧ s2 = .int .i64 (b : Int) ∧ s3 = .int .i64 (lim : Int) ∧ s8 = .bool wb ∧ s9 = .bool wp ∧ lim ≤ 1000000 ∧ Hid (Ps B g c N a0 b0 a b f0 f w wx)) (fun s1 s2 _ _ _ _ => (intOf s2 - intOf s1).toNat)
  case atStart => exact ⟨a0, b0, lim0, true, true, f0, rfl, rfl, rfl, rfl, rfl, hl0, R0⟩
  case round =>
    clear R0
    obtain ⟨a, b, lim, wb, wp, f, rfl, rfl, rfl, rfl, rfl, hlim, H⟩ := hrel
    obtain ⟨le1, le2, le3⟩ := H.out.iv.le
    have eD : IntKind.i64.wrap ((b : Int) - (a : Int)) = (b : Int) - (a : Int) := by rw [IntKind.wrap_i64]; omega
    by_cases hshort : b ≤ a + 12
    · have hsI : (b : Int) - (a : Int) ≤ 12 := by omega
      go_wp2_with fail
      refine (ins_is B g c N a b f _ (by omega) le2 (by omega) H.out.rw_.re).mono ?_
      rintro e w2 ⟨rfl, f2, h1, h2, h3⟩
      have H2 := Lib.hid ((H.out.move h2 (H.out.rw_.from_ h1)).done h3)
      clear h1 h2 h3
      go_wp2
      go_end0
      exact H2.out
    · have hsI : ¬ (b : Int) - (a : Int) ≤ 12 := by omega
      by_cases hl : lim = 0
      · subst hl
        go_wp2_with fail
        refine (heap_is B g c N a b f _ (by omega) (by omega) (by omega) H.out.rw_.re).mono ?_
        rintro e w2 ⟨rfl, f2, h1, h2, h3⟩
        have H2 := Lib.hid ((H.out.move h2 (H.out.rw_.from_ h1)).done h3)
        clear h1 h2 h3
        go_wp2
        go_end0
        exact H2.out
      · have hlI : ¬ (lim : Int) = 0 := by omega
        go_upto_region 7 with (fail)
        refine pdA B g c N a b f w lim wb (by omega) (by omega) (by omega) (by omega) (by omega) _ _ _ _ _ _ _ _ _ _ _ _ _ _ _ _ _ _ _ _ _ _ _ _ _ _ _ _ _ _ _ _ _ _ _ _ _ _ _ _ _ _ _ _ _ _ _ _ _ _ _ _ _ _ _ _ _ _ _ _ _ _ _ _ _ _ _ _ _ _ _ _ _ _ _ _ _ _ _ _ _ _ _ _ _ _ _ _ _ _ _ _ _ _ _ _ _ _ _ _ _ _ _ _ _ _ _ _ _ _ _ _ _ _ _ _ _ _ _ _ _ _ _ _ _ _ _ _ _ _ _ _ H.out.rw_ (by assumption) ?_
        rintro y3 y34 y35 y36 y37 y38 y39 y40 y41 w2 ⟨⟨l2, rfl, hl2⟩, f2, h2, m2⟩
        have H2 := Lib.hid (H.out.move m2 h2)
        clear h2 m2 H hlim hlI hl
        go_wp2_with fail
        refine (pivot_is B g c N a b f2 _ (by omega) (by omega) (by omega) (by omega) H2.out.rw_.re).mono ?_
        rintro e w3 ⟨p, h, rfl, hp, h3⟩
        have H3 := Lib.hid (show Ps B g c N a0 b0 a b f0 f2 w w3 from ⟨H2.out.iv, H2.out.rw_.from_ h3⟩)
        clear h3 H2
        go_upto_region 11 with (fail)
        refine pdB B g c N a b f2 w p h (by omega) hp (by omega) _ _ _ _ _ _ _ _ _ _ _ _ _ _ _ _ _ _ _ _ _ _ _ _ _ _ _ _ _ _ _ _ _ _ _ _ _ _ _ _ _ _ _ _ _ _ _ _ _ _ _ _ _ _ _ _ _ _ _ _ _ _ _ _ _ _ _ _ _ _ _ _ _ _ _ _ _ _ _ _ _ _ _ _ _ _ _ _ _ _ _ _ _ _ _ _ _ _ _ _ _ _ _ _ _ _ _ _ _ _ _ _ _ _ _ _ _ _ _ _ _ _ _ _ _ _ _ _ _ _ _ _ H3.out.rw_ (by assumption) ?_
        rintro y11 y12 y49 y50 y51 y52 y53 y54 y55 y56 y57 y58 y59 y60 w4 ⟨⟨p2, h2, rfl, rfl, hp2⟩, f4, h4, m4⟩
        have H4 := Lib.hid (H3.out.move m4 h4)
        clear h4 m4 H3 hp
        go_upto_region 15 with (fail)
        refine pdC B g c N a b f4 w h2 wb wp (by omega) (by omega) (by omega) (by omega) _ _ _ _ _ _ _ _ _ _ _ _ _ _ _ _ _ _ _ _ _ _ _ _ _ _ _ _ _ _ _ _ _ _ _ _ _ _ _ _ _ _ _ _ _ _ _ _ _ _ _ _ _ _ _ _ _ _ _ _ _ _ _ _ _ _ _ _ _ _ _ _ _ _ _ _ _ _ _ _ _ _ _ _ _ _ _ _ _ _ _ _ _ _ _ _ _ _ _ _ _ _ _ _ _ _ _ _ _ _ _ _ _ _ _ _ _ _ _ _ _ _ _ _ _ _ _ _ _ _ _ H4.out.rw_ ?_ (by assumption) ?_
        · intro ts w5 h5
          have H5 := Lib.hid ((show Ps B g c N a0 b0 a b f0 f4 w w5 from ⟨H4.out.iv, h5.1⟩).done h5.2)
          clear h5
          go_wp2
          go_end0
          exact H5.out
        rintro y61 y62 y63 y64 y65 y66 y67 y68 y69 y70 y71 y72 w5 h5
        have H5 := Lib.hid (show Ps B g c N a0 b0 a b f0 f4 w w5 from ⟨H4.out.iv, h5⟩)
        clear h5 H4
        go_upto_region 17 with (fail)
        refine pdq17c B g c N f4 w a p2 (by omega) (by omega) (by omega) _ _ _ _ _ _ _ _ _ _ _ _ _ _ _ _ _ _ _ _ _ _ _ _ _ _ _ _ _ _ _ _ _ _ _ _ _ _ _ _ _ _ _ _ _ _ _ _ _ _ _ _ _ _ _ _ _ _ _ _ _ _ _ _ _ _ _ _ _ _ _ _ _ _ _ _ _ _ _ _ _ _ _ _ _ _ _ _ _ _ _ _ _ _ _ _ _ _ _ _ _ _ _ _ _ _ _ _ _ _ _ _ _ _ _ _ _ _ _ _ _ _ _ _ _ _ _ _ _ _ _ _ _ H5.out.rw_ ?_
        rintro y73 y74 y75 y76 y77 y78 y79 y80 y81 y82 y83 y84 y85 y86 w6 h6
        have H6 := Lib.hid (show Ps B g c N a0 b0 a b f0 f4 w w6 from ⟨H5.out.iv, h6⟩)
        clear h6 H5
        cases hv : (decide (0 < a) && !(decide (f4 (a - 1) < f4 p2))) with
        | true =>
          simp only [Bool.and_eq_true, decide_eq_true_eq, Bool.not_eq_true', decide_eq_false_iff_not] at hv
          have HV := Lib.hid hv
          clear hv
          go_wp2_with fail
          refine (peq_is B g c N a b p2 f4 _ (by omega) ⟨hp2.1, hp2.2⟩ (by omega) H6.out.rw_.re).mono ?_
          rintro e w7 ⟨m, rfl, hm1, hm2, f7, h7, m7, hlo, hhi⟩
          have H7 := Lib.hid (show Ps B g c N a0 b0 m b f0 f7 w w7 from ⟨(H6.out.iv.move m7).peq HV.out.1 (by have := HV.out; rw [m7.out (a - 1) (by omega)]; omega) ⟨hm1, hm2⟩ hlo hhi, H6.out.rw_.from_ h7⟩)
          clear h7 m7 hlo hhi H6
          go_wp2
          exact ⟨⟨m, b, l2, wb, wp, f7, rfl, rfl, rfl, rfl, rfl, hl2, H7⟩, by simp [intOf]; omega⟩
        | false =>
          clear hv
          go_wp2_with fail
          refine (part_is B g c N a b p2 f4 _ (by omega) ⟨hp2.1, hp2.2⟩ (by omega) H6.out.rw_.re).mono ?_
          rintro e w7 ⟨m, al, rfl, f7, h7, m7, hP⟩
          have HP := Lib.hid hP
          have H7 := Lib.hid (H6.out.move m7 (H6.out.rw_.from_ h7))
          have pm1 := hP.am
          have pm2 := hP.mb
          clear h7 m7 hP H6
          have e1 : IntKind.i64.wrap ((m : Int) - (a : Int)) = (m : Int) - (a : Int) := by rw [IntKind.wrap_i64]; omega
          have e2 : IntKind.i64.wrap ((b : Int) - (m : Int)) = (b : Int) - (m : Int) := by rw [IntKind.wrap_i64]; omega
          by_cases hlr : (m : Int) - (a : Int) < (b : Int) - (m : Int)
          · go_wp2_with fail
            refine (HI.out a m l2 f7 _ (by omega) pm1 (by omega) hl2 H7.out.rw_.re (fun h0 k k1 k2 => H7.out.iv.pre h0 k k1 (by omega))).mono ?_
            rintro e w8 ⟨rfl, f8, h8, m8, s8⟩
            have H8 := Lib.hid (show Ps B g c N a0 b0 (m + 1) b f0 f8 w w8 from ⟨H7.out.iv.right HP.out m8 s8, H7.out.rw_.from_ h8⟩)
            clear h8 m8 s8 H7
            go_wp2
            exact ⟨⟨m + 1, b, l2, _, _, f8, by go_num, rfl, rfl, rfl, rfl, hl2, H8⟩, by simp [intOf]; omega⟩
          · go_wp2_with fail
            refine (show Calls Try.prog 64 #[.slice (some ⟨g, 0, none⟩) N c, .int .i64 ((m : Int) + 1), .int .i64 (b : Int), .int .i64 (l2 : Int)] w7 _ from HI.out (m + 1) b l2 f7 _ (by omega) (by omega) (by omega) hl2 H7.out.rw_.re (fun _ k k1 k2 => HP.out.hi k (by omega) k2)).mono ?_
            rintro e w8 ⟨rfl, f8, h8, m8, s8⟩
            have H8 := Lib.hid (show Ps B g c N a0 b0 a m f0 f8 w w8 from ⟨H7.out.iv.left HP.out m8 s8, H7.out.rw_.from_ h8⟩)
            clear h8 m8 s8 H7
            go_wp2
            exact ⟨⟨a, m, l2, _, _, f8, rfl, rfl, rfl, rfl, rfl, hl2, H8⟩, by simp [intOf]; omega⟩
theorem pdq_is (B g c N : Nat) (hN : N < 50) : ∀ (n a b lim : Nat) (f : Nat → Nat) (w : World), b - a = n → a ≤ b → b ≤ N → lim ≤ 1000000 → Rw B g c N f w w → (0 < a → ∀ k, a ≤ k → k < b → f (a - 1) ≤ f k) →
    Calls Try.prog 64 #[.slice (some ⟨g, 0, none⟩) N c, .int .i64 (a : Int), .int .i64 (b : Int), .int .i64 (lim : Int)] w (Sd B g c N a b f (fun f' => Srt a b f') w) := by
  intro n
  induction n using Nat.strongRecOn with
  | _ n ih =>
    intro a b lim f w hn hab hb hl hR hp
    exact pdq_step B g c N a b lim f w hN hab hb hl hR hp (fun a' b' lim' f' wx h1 h2 h3 h4 h5 h6 => ih (b' - a') (by omega) a' b' lim' f' wx rfl h2 h3 h4 h5 h6)
end Go.Proofs.Ytelfeedaadkhnaa
