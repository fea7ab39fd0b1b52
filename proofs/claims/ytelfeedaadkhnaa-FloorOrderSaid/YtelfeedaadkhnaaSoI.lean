/- slices.Sort of numbers of 32 digits: nextPowerOfTwo, breakPatterns. Conditions: as each says. -/
import Derived.Test.YtelfeedaadkhnaaSoH
set_option linter.unusedVariables false
set_option linter.unusedSimpArgs false
namespace Go.Proofs.Ytelfeedaadkhnaa
open Go Go.RowKit

theorem len_fin : ∀ l : Fin 64, 1 ≤ l.val → l.val < 2 ^ Lib.bitLen l.val ∧ 2 ^ Lib.bitLen l.val ≤ 2 * l.val ∧ Lib.bitLen l.val < 64 := by decide +kernel
set_option maxRecDepth 100000 in
set_option maxHeartbeats 1000000 in
theorem nextpow_is (l : Nat) (w : World) (hl : 1 ≤ l) (hl2 : l < 64) : Calls Try.prog 78 #[.int .i64 (l : Int)] w fun e w' => ∃ m : Nat, e = .returned (.int .u64 (m : Int)) ∧ (l < m ∧ m ≤ 2 * l) ∧ w = w' := by
  obtain ⟨h1, h2, h3⟩ := len_fin ⟨l, hl2⟩ hl
  simp only at h1 h2 h3
  have eW : IntKind.u64.wrap (l : Int) = (l : Int) := by rw [IntKind.wrap_u64]; omega
  have HL := Lib.hid (len_is l w (by omega))
  obtain ⟨n, hn⟩ : ∃ n, Lib.bitLen l = n := ⟨_, rfl⟩
  rw [hn] at h1 h2 h3 HL
  obtain ⟨d, hd⟩ : ∃ d, 2 ^ n = d := ⟨_, rfl⟩
  have hdI : (2 : Int) ^ n = (d : Int) := by rw [← hd]; simp
  rw [hd] at h1 h2
  have hw : IntKind.u64.wrap (d : Int) = (d : Int) := by rw [IntKind.wrap_u64]; omega
  have hnI : (n : Int) < 64 := by omega
  clear hn hd
  go_enter Try.func78, Try.ntmps78
  go_wp2_with fail
  refine HL.out.mono ?_
  rintro e w1 ⟨rfl, rfl⟩
  go_wp2
  go_ret
  exact ⟨d, rfl, ⟨h1, h2⟩, rfl⟩
theorem Rw.far {B g c N rb : Nat} {T : TypeId} {f : Nat → Nat} {w0 wx wy : World} {cs : Array Value} (h : Rw B g c N f w0 wx) (hI : Is wx rb T cs) (hT : 30 ≠ T) (hsb : w0.heap.size ≤ rb) (ho : Only (fun k => k = rb) wx wy) : Rw B g c N f w0 wy :=
  ⟨OwnS.only h.own ho (fun j hj e => owned_off h.own.1 hI hT (by rw [hj, e])), h.only.trans ho (fun i hi e => by omega)⟩
theorem Rw.keepT {B g c N sb : Nat} {T : TypeId} {f f' : Nat → Nat} {w0 wx wy : World} {cs : Array Value} (h : Rw B g c N f w0 wx) (k : Rw B g c N f' wx wy) (hI : Is wx sb T cs) (hT : 30 ≠ T) : Is wy sb T cs :=
  hI.only k.only (fun e => owned_off h.own.1 hI hT (by rw [e]; rfl))
/-- Amid breakPatterns. -/
structure Bk (B g c N a b : Nat) (f f1 : Nat → Nat) (rb : Nat) (w wx : World) : Prop where
  rw_ : Rw B g c N f1 w wx
  mv : Mv a b f f1
  is : ∃ r : Nat, r < 18446744073709551616 ∧ Is wx rb 115 #[.int .u64 (r : Int)]
set_option maxRecDepth 100000 in
set_option maxHeartbeats 4000000 in
theorem brk_is (B g c N a b : Nat) (f : Nat → Nat) (w : World) (hN : N ≤ 1000) (hab : a + 8 ≤ b) (hs : b < a + 50) (hb : b ≤ N) (hR : Rw B g c N f w w) :
    Calls Try.prog 68 #[.slice (some ⟨g, 0, none⟩) N c, .int .i64 (a : Int), .int .i64 (b : Int)] w (Sd B g c N a b f (fun _ => True) w) := by
  obtain ⟨l, hl⟩ : ∃ l, b = a + l := ⟨b - a, by omega⟩
  obtain ⟨q, hq⟩ : ∃ q, l / 4 = q := ⟨_, rfl⟩
  have eD : IntKind.i64.wrap ((b : Int) - (a : Int)) = (l : Int) := by rw [IntKind.wrap_i64]; omega
  have eW : IntKind.u64.wrap (l : Int) = (l : Int) := by rw [IntKind.wrap_u64]; omega
  have eA : (l : Int).tdiv 4 = (q : Int) := by rw [Int.tdiv_eq_ediv_of_nonneg (by omega)]; omega
  have eB : (l : Int) / 4 = (q : Int) := by omega
  have eC : IntKind.i64.wrap (q : Int) = (q : Int) := by rw [IntKind.wrap_i64]; omega
  have e2 : IntKind.i64.wrap ((q : Int) * 2) = (q : Int) * 2 := by rw [IntKind.wrap_i64]; omega
  have e5 : IntKind.i64.wrap ((a : Int) + (q : Int) * 2) = (a : Int) + (q : Int) * 2 := by rw [IntKind.wrap_i64]; omega
  have e6 : IntKind.i64.wrap ((a : Int) + (q : Int) * 2 + 1) = (a : Int) + (q : Int) * 2 + 1 := by rw [IntKind.wrap_i64]; omega
  have e7 : IntKind.i64.wrap ((a : Int) + (q : Int) * 2 - 1) = (a : Int) + (q : Int) * 2 - 1 := by rw [IntKind.wrap_i64]; omega
  have h8 : (l : Int) ≥ 8 := by omega
  have hq2 : 2 ≤ q := by omega
  have hql : q * 2 + 1 < l := by omega
  have HB := Lib.hid hl
  have HNP := Lib.hid (fun w => nextpow_is l w (by omega) (by omega))
  have ho : Only (fun _ => False) w (w.alloc (.cells #[.int .u64 (l : Int)] 115)) := (Only.refl _ w).alloc _
  have R0 := Lib.hid (show Bk B g c N a b f f w.heap.size w (w.alloc (.cells #[.int .u64 (l : Int)] 115)) from ⟨hR.go ho, Mv.refl _ _ _, l, by omega, Is.made w _ _⟩)
  have hlN : a + l ≤ N := by omega
  have hl49 : l < 50 := by omega
  clear hl hq hR ho
  go_enter Try.func68, Try.ntmps68
  go_wp2_with fail
  refine (HNP.out _).mono ?_
  rintro e w1 ⟨m, rfl, hm, rfl⟩
  have HM := Lib.hid hm
  clear hm HNP
  go_wp2
  have e0 : (a : Int) + (q : Int) * 2 - 1 = ((a + q * 2 - 1 : Nat) : Int) := by omega
  rw [e0]
  clear e0 e7
  generalize w.alloc (.cells #[.int .u64 (l : Int)] 115) = w1 at *
  go_loopw [9] (fun s9 wx => ∃ (x : Nat) (f1 : Nat → Nat), s9 = .int .i64 (x : Int) ∧ (a + q * 2 ≤ x + 1 ∧ x ≤ a + q * 2 + 2) ∧ Hid (Bk B g c N a b f f1 w.heap.size w wx)) (fun s9 _ => 2000 - (intOf s9).toNat)
  case atStart => exact ⟨a + q * 2 - 1, f, rfl, by omega, R0⟩
  case round =>
    clear R0
    obtain ⟨x, f1, rfl, hx, H⟩ := hrel
    by_cases hle : x ≤ a + q * 2 + 1
    · have hleI : (x : Int) ≤ (a : Int) + (q : Int) * 2 + 1 := by omega
      obtain ⟨r, hr, hI⟩ := H.out.is
      have HN := Lib.hid (next_is w.heap.size r wr hr hI)
      have HI := Lib.hid hI
      clear hI
      go_wp2_with fail
      refine HN.out.mono ?_
      rintro e w2 ⟨y, rfl, hy, hI2, ho2⟩
      have H2 := Lib.hid (H.out.rw_.far HI.out (by decide) (Nat.le_refl _) ho2)
      have HI2 := Lib.hid hI2
      have HMV := Lib.hid H.out.mv
      clear hI2 ho2 HN H HI hr
      obtain ⟨m1, hm1⟩ : ∃ m1, m = m1 + 1 := ⟨m - 1, by have := HM.out; omega⟩
      obtain ⟨o, ho⟩ : ∃ o, y &&& m1 = o := ⟨_, rfl⟩
      have hand : bits .and .u64 (y : Int) (m1 : Int) = (o : Int) := by rw [u64_and_nat y m1 hy (by have := HM.out; omega), ho]
      have hol : o ≤ m1 := by rw [← ho]; exact Nat.and_le_right
      have hm2 : m1 < 2 * l := by have := HM.out; omega
      have ew1 : IntKind.u64.wrap ((m : Int) - 1) = (m1 : Int) := by rw [IntKind.wrap_u64]; omega
      have ew2 : IntKind.i64.wrap (o : Int) = (o : Int) := by rw [IntKind.wrap_i64]; omega
      clear ho hm1
      by_cases hol2 : l ≤ o
      · obtain ⟨o1, rfl⟩ : ∃ o1, o = l + o1 := ⟨o - l, by omega⟩
        have hoI : ((l + o1 : Nat) : Int) ≥ (l : Int) := by omega
        have ew3 : IntKind.i64.wrap (((l + o1 : Nat) : Int) - (l : Int)) = (o1 : Int) := by rw [IntKind.wrap_i64]; omega
        have ho1l : o1 < l := by omega
        generalize l + o1 = o at *
        go_upto_region 10 with (fail)
        refine brk10 B g c N f1 w2 a x o1 (by omega) (by omega) hN _ _ _ _ _ _ _ _ _ _ _ _ _ _ _ _ _ _ _ _ _ _ _ _ _ _ _ _ _ _ _ _ _ _ _ _ _ _ _ _ _ _ _ _ _ _ _ _ _ _ _ _ _ _ _ _ _ _ _ _ _ _ _ H2.out.re ?_
        rintro y47 y48 y49 y50 y51 y52 y53 y54 y55 y56 y57 y58 y59 y60 y61 y62 y63 y64 w3 h3
        have HH := Lib.hid (show Bk B g c N a b f (swp f1 x (a + o1)) w.heap.size w w3 from ⟨H2.out.from_ h3, HMV.out.trans (Mv.swap f1 (by have := HB.out; omega) (by have := HB.out; omega)), y, hy, H2.out.keepT h3 HI2.out (by decide)⟩)
        clear h3 H2 HI2 HMV
        go_wp2
        exact ⟨⟨x + 1, _, by go_num, by omega, HH⟩, by simp [intOf]; omega⟩
      · have hoI : ¬ (o : Int) ≥ (l : Int) := by omega
        go_upto_region 10 with (fail)
        refine brk10 B g c N f1 w2 a x o (by omega) (by omega) hN _ _ _ _ _ _ _ _ _ _ _ _ _ _ _ _ _ _ _ _ _ _ _ _ _ _ _ _ _ _ _ _ _ _ _ _ _ _ _ _ _ _ _ _ _ _ _ _ _ _ _ _ _ _ _ _ _ _ _ _ _ _ _ H2.out.re ?_
        rintro y47 y48 y49 y50 y51 y52 y53 y54 y55 y56 y57 y58 y59 y60 y61 y62 y63 y64 w3 h3
        have HH := Lib.hid (show Bk B g c N a b f (swp f1 x (a + o)) w.heap.size w w3 from ⟨H2.out.from_ h3, HMV.out.trans (Mv.swap f1 (by have := HB.out; omega) (by have := HB.out; omega)), y, hy, H2.out.keepT h3 HI2.out (by decide)⟩)
        clear h3 H2 HI2 HMV
        go_wp2
        exact ⟨⟨x + 1, _, by go_num, by omega, HH⟩, by simp [intOf]; omega⟩
    · have hleI : ¬ (x : Int) ≤ (a : Int) + (q : Int) * 2 + 1 := by omega
      go_wp2
      go_end0
      exact ⟨rfl, f1, H.out.rw_, H.out.mv, trivial⟩
end Go.Proofs.Ytelfeedaadkhnaa
