/- WideNexts' walk. Conditions: at most 2^47 numbers. -/
import Derived.Test.YthnaekmceakdaaaWdF
set_option linter.unusedVariables false
namespace Go.Proofs.Ythnaekmceakdaaa
open Go.RowKit

theorem peekN_next {C top n : Nat} {s : Bool} (h : Cir C) (hf : Fine C top s) (ht : top < 4611686018427387904) : Fine C (max top (peekN C top s n)) true ∧ max top (peekN C top s n) ≤ top + 8589934592 := by
  have h1 := peekN_range (top := top) (s := s) (n := n) h
  have hle := h.le
  refine ⟨⟨(fun e => by cases e), fun _ => ?_⟩, ?_⟩
  · cases s
    · have : lowest C top false = C := rfl
      omega
    · have := hf.some rfl
      omega
  · cases s
    · have : lowest C top false = C := rfl
      omega
    · have : lowest C top true = top - C / 2 := rfl
      omega
theorem Rd.opened {k : IntKind} {w : World} {v : Value} {xs : List Nat} (h : Rd k w v (nats xs)) : ∃ A c, v = .slice A xs.length c ∧ xs.length ≤ c ∧ (0 < xs.length → ∃ b o, A = some ⟨b, o, none⟩ ∧ ∀ j (h : j < xs.length), w.cell? ⟨b, o + j, none⟩ = some (.int k ((xs[j] : Nat) : Int))) := by
  obtain ⟨A, c, rfl, h1, h2⟩ := h
  refine ⟨A, c, by rw [nats_length], by rw [nats_length] at h1; exact h1, fun hp => ?_⟩
  obtain ⟨b, o, e, hc⟩ := h2 (by rw [nats_length]; exact hp)
  refine ⟨b, o, e, fun j hj => ?_⟩
  have := hc j (by rw [nats_length]; exact hj)
  simpa [nats] using this
/-- Before round k: the extender, and the reference's. -/
structure NxAt (b g d C k top : Nat) (s : Bool) (w wr : World) : Prop where
  x : XIs wr b C top s
  r : Is wr g 31 (rxC d top s)
  only : Only (fun _ => False) w wr
  fine : Fine C top s
  le : top ≤ k * 8589934592
def NxAny (b g d C k : Nat) (w wr : World) : Prop := ∃ top s, NxAt b g d C k top s w wr
theorem NxAt.step {b g d C k top : Nat} {s : Bool} {w wr wx : World} (h : NxAt b g d C k top s w wr) (ho : Only (fun _ => False) wr wx) : NxAt b g d C k top s w wx :=
  ⟨h.x.only ho (by simp), h.r.only ho (by simp), h.only.trans ho (fun _ _ e => e), h.fine, h.le⟩
theorem NxAt.rcells {b g d C k top : Nat} {s : Bool} {w wr : World} (h : NxAt b g d C k top s w wr) : wr.cell? ⟨g, 0, none⟩ = some (.int .i64 (d : Int)) ∧ wr.cell? ⟨g, 1, none⟩ = some (.int .u64 (top : Int)) ∧ wr.cell? ⟨g, 2, none⟩ = some (.bool s) := ⟨h.r.cell 0, h.r.cell 1, h.r.cell 2⟩

set_option maxRecDepth 100000 in
set_option maxHeartbeats 4000000 in
theorem nexts_walk (z : Int) (v : Value) (xs : List Nat) (look cut : Nat) (w : World) (hr : Rd .u32 w v (nats xs)) (hx : ∀ x ∈ xs, x < 4294967296) (hlook : look < 4294967296) (hcut : cut < 18446744073709551616) (hl : xs.length ≤ 9223372036854775807) :
    Calls Try.prog 3 #[.int .i64 z, v, .int .u32 (look : Int), .int .u64 (cut : Int)] w (Says (.bool true) w) := by
  obtain ⟨A, c, rfl, hlc, hcell⟩ := hr.opened
  obtain ⟨L, hL⟩ : ∃ L, xs.length = L := ⟨_, rfl⟩
  have HCELL := Lib.hid hcell
  have HX := Lib.hid hx
  have HL := Lib.hid hL
  rw [hL] at hlc hl ⊢
  clear hcell hx hL
  by_cases hbig : 100 < L
  · go_enter Try.func3, Try.ntmps3
    go_wp2_with fail
    refine (wworks_is _).mono ?_
    rintro e w8 ⟨rfl, ho⟩
    have O8 := Lib.hid ho
    clear ho
    go_wp2
    go_ret
    exact ⟨rfl, O8.out⟩
  by_cases hz : 1 ≤ z ∧ z ≤ 32
  · have HN := Lib.hid (xnew_is z w hz)
    have HD := Lib.hid (Dig.of hz)
    have h1 := cirOf_one hz
    generalize cirOf z = C at *
    obtain ⟨d, rfl⟩ : ∃ d : Nat, z = (d : Int) := ⟨z.toNat, by omega⟩
    rw [Int.toNat_natCast] at HD
    obtain ⟨hz1, hz2⟩ := hz
    have HC := Lib.hid HD.out.cir
    go_enter Try.func3, Try.ntmps3
    go_wp2_with fail
    refine HN.out.mono ?_
    rintro e w1 ⟨b, rfl, hb, hxx, ho⟩
    have X1 := Lib.hid hxx
    have O1 := Lib.hid ho
    clear hxx ho
    go_upto_region 9 with (fail)
    obtain ⟨g, hg⟩ : ∃ g, w1.heap.size = g := ⟨_, rfl⟩
    generalize hw2 : World.alloc w1 _ = w2
    have S2 := Lib.hid (show NxAt b g d C 0 0 false w w2 from by
      rw [← hw2, ← hg]
      exact ⟨Is.alloc X1.out _, Is.made w1 _ _, O1.out.alloc _, ⟨fun _ => rfl, (fun e => by cases e)⟩, by omega⟩)
    have hgw : w.heap.size ≤ g := by have := O1.out.size; omega
    rw [hg]
    clear hw2 hg
    go_wp2
    go_loopw [12] (fun i wr => ∃ k : Nat, k ≤ L ∧ i = .int .i64 k ∧ NxAny b g d C k w wr) (fun i _ => L + 1 - (intOf i).toNat)
    case atStart => exact ⟨0, by omega, rfl, 0, false, S2.out⟩
    case round =>
      obtain ⟨k, hk, rfl, top, s, hS⟩ := hrel
      have S := Lib.hid hS
      have hle := hS.le
      have ht : top < 4611686018427387904 := by omega
      have HF := Lib.hid hS.fine
      have hs : s = true → C / 2 ≤ top := fun e => by have := hS.fine.some e; omega
      have HPK := Lib.hid (fun w (h : XIs w b C top s) => xpeek_is b C top look s w h HC.out h1 ht hs hlook)
      have HRPK := Lib.hid (fun w => rpeek_is d C look top s w HD.out h1 ht HF.out hlook)
      have HCT := Lib.hid (fun w (h : XIs w b C top s) => xcut_is b C top cut s w h HC.out hcut)
      have HRCT := Lib.hid (fun w => rcut_is d C top cut s w HD.out hcut)
      have HNX := Lib.hid (fun n (hn : n < 4294967296) w (h : XIs w b C top s) => xnext_is b C top n s w h HC.out h1 ht hs hn)
      have HRNX := Lib.hid (fun n (hn : n < 4294967296) w => rnext_is d C n top s w HD.out h1 ht HF.out hn)
      have HSTEP := Lib.hid (fun n => peekN_next (n := n) HC.out HF.out ht)
      have HT := Lib.hid (xtop_is b C top s _ S.out.x)
      clear hS hs hle ht S2 X1 O1
      generalize peekN C top s look = pk at *
      generalize cut % C = ct at *
      go_wp2_with fail
      refine HT.out.mono ?_
      rintro e w3 ⟨rfl, ho⟩
      have S3 := Lib.hid (S.out.step ho)
      clear ho HT S
      go_upto_region 13 with (fail)
      refine wp_region_posts [[], [], [1], [0, 2, 1], [3, 0, 2, 1], [4, 3, 0, 2, 1], [4, 3, 0, 2, 1], [6, 4, 3, 0, 2, 1], [5, 7, 4, 3, 0, 2, 1, 6], [4, 8, 3, 0, 2, 1, 5, 7, 6], [9, 4, 8, 3, 0, 2, 1, 5, 7, 6], [10, 9, 4, 8, 3, 0, 2, 1, 5, 7, 6], [10, 9, 4, 8, 3, 0, 2, 1, 5, 7, 6], [11, 12, 10, 9, 4, 8, 3, 0, 2, 1, 5, 7, 6], [10, 9, 4, 8, 3, 0, 2, 1, 5, 7, 6], [10, 9, 4, 8, 3, 0, 2, 1, 5, 7, 6], [14, 15, 13, 10, 9, 4, 8, 3, 0, 2, 1, 5, 7, 6, 11, 12], [13, 16, 10, 11, 12, 9, 4, 8, 3, 0, 2, 1, 5, 7, 6, 14, 15], [10, 17, 9, 4, 8, 3, 0, 2, 1, 5, 7, 6, 13, 16, 11, 12, 14, 15], [18, 16, 10, 17, 9, 4, 8, 3, 0, 2, 1, 5, 7, 6, 13, 11, 12, 14, 15], [19, 18, 16, 10, 17, 9, 4, 8, 3, 0, 2, 1, 5, 7, 6, 13, 11, 12, 14, 15], [19, 18, 16, 10, 17, 9, 4, 8, 3, 0, 2, 1, 5, 7, 6, 13, 11, 12, 14, 15], [20, 21, 19, 18, 16, 10, 17, 9, 4, 8, 3, 0, 2, 1, 5, 7, 6, 13, 11, 12, 14, 15], [19, 18, 16, 10, 17, 9, 4, 8, 3, 0, 2, 1, 5, 7, 6, 13, 11, 12, 14, 15], [19, 18, 16, 10, 17, 9, 4, 8, 3, 0, 2, 1, 5, 7, 6, 13, 11, 12, 14, 15], [23, 24, 22, 19, 18, 16, 10, 17, 9, 4, 8, 3, 0, 2, 1, 5, 7, 6, 13, 11, 12, 14, 15, 20, 21], [22, 25, 19, 20, 21, 18, 16, 10, 17, 9, 4, 8, 3, 0, 2, 1, 5, 7, 6, 13, 11, 12, 14, 15, 23, 24], [19, 26, 18, 16, 10, 17, 9, 4, 8, 3, 0, 2, 1, 5, 7, 6, 13, 11, 12, 14, 15, 22, 25, 20, 21, 23, 24]] [13, 16, 22, 25] [] [[], [], [], [], [], [], [], [], [], [], [], [], [], [], [], [], [], [], [], [], [], [], [], [], [], [], [], []] [[], [], [], [], [], [], [], [], [], [], [], [], [], [], [], [], [], [], [], [], [], [], [], [], [], [], [], []] [] [] [] []
          [some ?v0, some ?v1, some ?v2, some ?v3, some ?v4, some ?v5, some ?v6, some ?v7, some ?v8, some ?v9, some ?v10, some ?v11, some ?v12, some (.int .u64 (pk : Int)), some ?v14, some ?v15, some (.int .u64 (pk : Int)), some ?v17, some ?v18, some ?v19, some ?v20, some ?v21, some (.int .u32 (ct : Int)), some ?v23, some ?v24, some (.int .u32 (ct : Int)), some ?v26, some ?v27]
          ?T (fun wx => NxAt b g d C k top s w wx) ?W ?E (by kernel_rfl) (by kernel_rfl) (by kernel_rfl) (fun x => ?hT) ?hF ?hini (Reg.all_ops ?runs) ?pres ?fin
      case W => exact fun j x w' => True
      case E => exact fun _ w' w'' => True
      case hT =>
        simp only [Reg.fillV, Act.put, List.setIfInBounds_toArray, List.set_cons_zero, List.set_cons_succ]
        rfl
      case runs =>
        refine And.intro ?_ ?_
        · refine Reg.ob_pure (fun _ => rfl) rfl rfl rfl rfl (fun x w1 hF => ?_)
          obtain ⟨c0, c1, c2⟩ := NxAt.rcells hF
          go_simp
          with_reducible rfl
        refine And.intro ?_ ?_
        · refine Reg.ob_pure (fun _ => rfl) rfl rfl rfl rfl (fun x w1 hF => ?_)
          obtain ⟨c0, c1, c2⟩ := NxAt.rcells hF
          go_simp
          with_reducible rfl
        refine And.intro ?_ ?_
        · refine Reg.ob_pure (fun _ => rfl) rfl rfl rfl rfl (fun x w1 hF => ?_)
          obtain ⟨c0, c1, c2⟩ := NxAt.rcells hF
          go_simp
          with_reducible rfl
        refine And.intro ?_ ?_
        · refine Reg.ob_pure (fun _ => rfl) rfl rfl rfl rfl (fun x w1 hF => ?_)
          obtain ⟨c0, c1, c2⟩ := NxAt.rcells hF
          go_simp
          with_reducible rfl
        refine And.intro ?_ ?_
        · refine Reg.ob_pure (fun _ => rfl) rfl rfl rfl rfl (fun x w1 hF => ?_)
          obtain ⟨c0, c1, c2⟩ := NxAt.rcells hF
          go_simp
          with_reducible rfl
        refine And.intro ?_ ?_
        · refine Reg.ob_pure (fun _ => rfl) rfl rfl rfl rfl (fun x w1 hF => ?_)
          obtain ⟨c0, c1, c2⟩ := NxAt.rcells hF
          go_simp
          with_reducible rfl
        refine And.intro ?_ ?_
        · refine Reg.ob_pure (fun _ => rfl) rfl rfl rfl rfl (fun x w1 hF => ?_)
          obtain ⟨c0, c1, c2⟩ := NxAt.rcells hF
          go_simp
          with_reducible rfl
        refine And.intro ?_ ?_
        · refine Reg.ob_pure (fun _ => rfl) rfl rfl rfl rfl (fun x w1 hF => ?_)
          obtain ⟨c0, c1, c2⟩ := NxAt.rcells hF
          go_simp
          with_reducible rfl
        refine And.intro ?_ ?_
        · refine Reg.ob_pure (fun _ => rfl) rfl rfl rfl rfl (fun x w1 hF => ?_)
          obtain ⟨c0, c1, c2⟩ := NxAt.rcells hF
          go_simp
          with_reducible rfl
        refine And.intro ?_ ?_
        · refine Reg.ob_pure (fun _ => rfl) rfl rfl rfl rfl (fun x w1 hF => ?_)
          obtain ⟨c0, c1, c2⟩ := NxAt.rcells hF
          go_simp
          with_reducible rfl
        refine And.intro ?_ ?_
        · refine Reg.ob_pure (fun _ => rfl) rfl rfl rfl rfl (fun x w1 hF => ?_)
          obtain ⟨c0, c1, c2⟩ := NxAt.rcells hF
          go_simp
          with_reducible rfl
        refine And.intro ?_ ?_
        · refine Reg.ob_pure (fun _ => rfl) rfl rfl rfl rfl (fun x w1 hF => ?_)
          obtain ⟨c0, c1, c2⟩ := NxAt.rcells hF
          go_simp
          with_reducible rfl
        refine And.intro ?_ ?_
        · refine Reg.ob_pure (fun _ => rfl) rfl rfl rfl rfl (fun x w1 hF => ?_)
          obtain ⟨c0, c1, c2⟩ := NxAt.rcells hF
          go_simp
          with_reducible rfl
        refine And.intro ?_ ?_
        · refine Reg.ob_known (fun _ => rfl) rfl rfl (fun x w1 hF hU K hK => ?_)
          have hS := hF rfl
          go_simp
          refine (HPK.out w1 hS.x).mono ?_
          rintro e w4 ⟨rfl, ho⟩
          exact hK w4 (fun _ _ _ => hS.step ho) trivial
        refine And.intro ?_ ?_
        · refine Reg.ob_pure (fun _ => rfl) rfl rfl rfl rfl (fun x w1 hF => ?_)
          obtain ⟨c0, c1, c2⟩ := NxAt.rcells hF
          go_simp
          with_reducible rfl
        refine And.intro ?_ ?_
        · refine Reg.ob_pure (fun _ => rfl) rfl rfl rfl rfl (fun x w1 hF => ?_)
          obtain ⟨c0, c1, c2⟩ := NxAt.rcells hF
          go_simp
          with_reducible rfl
        refine And.intro ?_ ?_
        · refine Reg.ob_known (fun _ => rfl) rfl rfl (fun x w1 hF hU K hK => ?_)
          have hS := hF rfl
          go_simp
          refine (HRPK.out w1).mono ?_
          rintro e w4 ⟨rfl, ho⟩
          exact hK w4 (fun _ _ _ => hS.step ho) trivial
        refine And.intro ?_ ?_
        · refine Reg.ob_pure (fun _ => rfl) rfl rfl rfl rfl (fun x w1 hF => ?_)
          obtain ⟨c0, c1, c2⟩ := NxAt.rcells hF
          go_simp
          with_reducible rfl
        refine And.intro ?_ ?_
        · refine Reg.ob_pure (fun _ => rfl) rfl rfl rfl rfl (fun x w1 hF => ?_)
          obtain ⟨c0, c1, c2⟩ := NxAt.rcells hF
          go_simp
          with_reducible rfl
        refine And.intro ?_ ?_
        · refine Reg.ob_pure (fun _ => rfl) rfl rfl rfl rfl (fun x w1 hF => ?_)
          obtain ⟨c0, c1, c2⟩ := NxAt.rcells hF
          go_simp
          with_reducible rfl
        refine And.intro ?_ ?_
        · refine Reg.ob_pure (fun _ => rfl) rfl rfl rfl rfl (fun x w1 hF => ?_)
          obtain ⟨c0, c1, c2⟩ := NxAt.rcells hF
          go_simp
          with_reducible rfl
        refine And.intro ?_ ?_
        · refine Reg.ob_pure (fun _ => rfl) rfl rfl rfl rfl (fun x w1 hF => ?_)
          obtain ⟨c0, c1, c2⟩ := NxAt.rcells hF
          go_simp
          with_reducible rfl
        refine And.intro ?_ ?_
        · refine Reg.ob_known (fun _ => rfl) rfl rfl (fun x w1 hF hU K hK => ?_)
          have hS := hF rfl
          go_simp
          refine (HCT.out w1 hS.x).mono ?_
          rintro e w4 ⟨rfl, ho⟩
          exact hK w4 (fun _ _ _ => hS.step ho) trivial
        refine And.intro ?_ ?_
        · refine Reg.ob_pure (fun _ => rfl) rfl rfl rfl rfl (fun x w1 hF => ?_)
          obtain ⟨c0, c1, c2⟩ := NxAt.rcells hF
          go_simp
          with_reducible rfl
        refine And.intro ?_ ?_
        · refine Reg.ob_pure (fun _ => rfl) rfl rfl rfl rfl (fun x w1 hF => ?_)
          obtain ⟨c0, c1, c2⟩ := NxAt.rcells hF
          go_simp
          with_reducible rfl
        refine And.intro ?_ ?_
        · refine Reg.ob_known (fun _ => rfl) rfl rfl (fun x w1 hF hU K hK => ?_)
          have hS := hF rfl
          go_simp
          refine (HRCT.out w1).mono ?_
          rintro e w4 ⟨rfl, ho⟩
          exact hK w4 (fun _ _ _ => hS.step ho) trivial
        refine And.intro ?_ ?_
        · refine Reg.ob_pure (fun _ => rfl) rfl rfl rfl rfl (fun x w1 hF => ?_)
          obtain ⟨c0, c1, c2⟩ := NxAt.rcells hF
          go_simp
          with_reducible rfl
        refine And.intro ?_ ?_
        · refine Reg.ob_pure (fun _ => rfl) rfl rfl rfl rfl (fun x w1 hF => ?_)
          obtain ⟨c0, c1, c2⟩ := NxAt.rcells hF
          go_simp
          with_reducible rfl
        exact trivial
      case hF =>
        exact S3.out.step ((Only.refl _ _).drewN 1)
      case hini =>
        exact trivial
      case pres =>
        intro i hi j hj hc x w1 w2 hF hE hW
        trivial
      case fin =>
        rintro x w5 hF -
        have S5 := Lib.hid (hF rfl)
        clear hF S3
        by_cases hkl : k = L
        · subst hkl
          go_wp2_with fail
          refine (wworks_is _).mono ?_
          rintro e w8 ⟨rfl, ho⟩
          have O8 := Lib.hid (S5.out.only.trans ho (fun _ _ e => e))
          clear ho
          go_wp2
          go_ret
          exact ⟨rfl, O8.out⟩
        · have hlt : k < L := by omega
          have hkx : k < xs.length := by rw [HL.out]; exact hlt
          obtain ⟨q, o, rfl, hcc⟩ := HCELL.out (by omega)
          have cq := hcc k hkx
          have hn := HX.out xs[k] (List.getElem_mem _)
          generalize xs[k] = n at *
          have hqw : q < w.heap.size := World.block_lt_of_cell? w ⟨q, o + k, none⟩ cq
          have CQ := Lib.hid (fun (wx : World) (h : Only (fun _ => False) w wx) => (h.cell (p := ⟨q, o + k, none⟩) hqw (by simp)).trans cq)
          have hn1 := HNX.out n hn
          unfold Nexted at hn1
          have HN1 := Lib.hid hn1
          clear hn1
          have HN2 := Lib.hid (HRNX.out n hn)
          have HST := Lib.hid (HSTEP.out n)
          clear hcc cq hkl hkx HNX HRNX HSTEP
          generalize peekN C top s n = pn at *
          have cq := CQ.out _ S5.out.only
          go_wp2_with fail
          refine (HN1.out _ S5.out.x).mono ?_
          rintro e w6 ⟨rfl, hx6, ho6⟩
          have hgb : g ≠ b := Is.apart (t := 31) (u := 55) S5.out.r S5.out.x (by decide)
          have X6 := Lib.hid hx6
          have R6 := Lib.hid (S5.out.r.only ho6 hgb)
          have O6 := Lib.hid (show Only (fun _ => False) w w6 from S5.out.only.trans ho6 (fun i hi e => by omega))
          clear hx6 ho6 cq
          go_upto_region 17 with (fail)
          refine wp_region_posts [[], [], [], [1, 2], [3, 1, 2], [0, 4, 3, 1, 2], [5, 0, 4, 3, 1, 2], [6, 5, 0, 4, 3, 1, 2], [6, 5, 0, 4, 3, 1, 2], [6, 5, 0, 4, 3, 1, 2], [], [10, 7, 5, 0, 1, 2, 3, 4, 6], [8, 11, 0, 1, 2, 3, 4, 5, 6, 7, 10], [9, 12, 0, 1, 2, 3, 4, 5, 6, 7, 8, 10, 11]] [5, 10, 11] [10, 11] [[], [], [], [], [], [], [], [], [], [], [], [10], [], []] [[], [], [], [], [], [], [], [], [], [], [], [10], [], []] [11] [] [] []
              [some ?vb0, some ?vb1, some ?vb2, some ?vb3, some ?vb4, some (.tuple #[rxV d (max top pn) true, .int .u64 (pn : Int), .bool (!s)]), some ?vb6, some ?vb7, some ?vb8, some ?vb9, none, none, some ?vb12, some ?vb13]
              ?Tb (fun wx => XIs wx b C (max top pn) true ∧ Is wx g 31 (rxC d top s) ∧ Only (fun _ => False) w wx) ?Wb ?Eb (by kernel_rfl) (by kernel_rfl) (by kernel_rfl) (fun x => ?hTb) ?hFb ?hinib (Reg.all_ops ?runsb) ?presb ?finb
          case Wb => exact fun j x wx => match j with | 10 => (∃ g9, x 10 = ptr g9 ∧ g ≠ g9 ∧ g9 ≠ b ∧ w.heap.size ≤ g9) ∧ (∀ g9, x 10 = ptr g9 → Is wx g9 31 (rxC 0 0 false)) | 11 => (∃ g9, x 10 = ptr g9) ∧ (∀ g9, x 10 = ptr g9 → Is wx g9 31 (rxC d (max top pn) true)) | _ => True
          case Eb => exact fun i wx wy => match i with | 5 => Only (fun _ => False) wx wy | 10 => Only (fun _ => False) wx wy | _ => True
          case hTb =>
            simp only [Reg.fillV, Act.put, List.setIfInBounds_toArray, List.set_cons_zero, List.set_cons_succ]
            rfl
          case runsb =>
            refine And.intro ?_ ?_
            · refine Reg.ob_pure (fun _ => rfl) rfl rfl rfl rfl (fun x w1 hF => ?_)
              obtain ⟨h1, h2, h3⟩ := hF
              obtain c0 := h2.cell 0
              obtain c1 := h2.cell 1
              obtain c2 := h2.cell 2
              simp at c0 c1 c2
              go_simp
              with_reducible rfl
            refine And.intro ?_ ?_
            · refine Reg.ob_pure (fun _ => rfl) rfl rfl rfl rfl (fun x w1 hF => ?_)
              go_simp
              with_reducible rfl
            refine And.intro ?_ ?_
            · refine Reg.ob_pure (fun _ => rfl) rfl rfl rfl rfl (fun x w1 hF => ?_)
              go_simp
              with_reducible rfl
            refine And.intro ?_ ?_
            · refine Reg.ob_pure (fun _ => rfl) rfl rfl rfl rfl (fun x w1 hF => ?_)
              go_simp
              with_reducible rfl
            refine And.intro ?_ ?_
            · refine Reg.ob_pure (fun _ => rfl) rfl rfl rfl rfl (fun x w1 hF => ?_)
              have cq := CQ.out _ hF.2.2
              go_simp
              with_reducible rfl
            refine And.intro ?_ ?_
            · refine Reg.ob_known (fun _ => rfl) rfl rfl (fun x w1 hF hU K hK => ?_)
              obtain ⟨h1, h2, h3⟩ := hF rfl
              go_simp
              refine (HN2.out w1).mono ?_
              rintro e w4 ⟨rfl, ho⟩
              exact hK w4 (fun _ _ _ => ⟨h1.only ho (by simp), h2.only ho (by simp), h3.trans ho (fun _ _ e => e)⟩) ho
            refine And.intro ?_ ?_
            · refine Reg.ob_pure (fun _ => rfl) rfl rfl rfl rfl (fun x w1 hF => ?_)
              go_simp
              with_reducible rfl
            refine And.intro ?_ ?_
            · refine Reg.ob_pure (fun _ => rfl) rfl rfl rfl rfl (fun x w1 hF => ?_)
              go_simp
              with_reducible rfl
            refine And.intro ?_ ?_
            · refine Reg.ob_pure (fun _ => rfl) rfl rfl rfl rfl (fun x w1 hF => ?_)
              go_simp
              with_reducible rfl
            refine And.intro ?_ ?_
            · refine Reg.ob_pure (fun _ => rfl) rfl rfl rfl rfl (fun x w1 hF => ?_)
              go_simp
              with_reducible rfl
            refine And.intro ?_ ?_
            · refine Reg.ob_some (fun _ => rfl) rfl (fun x w1 hF hU K hK => ?_)
              obtain ⟨h1, h2, h3⟩ := hF rfl
              go_simp
              have ho : Only (fun _ => False) w1 (w1.alloc (.cells (rxC 0 0 false) 31)) := (Only.refl _ w1).alloc _
              refine hK _ _ (fun _ _ _ => ⟨h1.only ho (by simp), h2.only ho (by simp), h3.alloc _⟩) ho ⟨⟨w1.heap.size, rfl, ?_, ?_, h3.size⟩, ?_⟩
              · have := h2.lt; omega
              · have := Is.lt h1; omega
              · intro g9 e
                have e : ptr w1.heap.size = ptr g9 := e
                injection e with e; injection e with e; injection e with e; subst e
                exact Is.made w1 _ _
            refine And.intro ?_ ?_
            · refine Reg.ob_some (fun _ => rfl) rfl (fun x w1 hF hU K hK => ?_)
              obtain ⟨h1, h2, h3⟩ := hF rfl
              obtain ⟨⟨⟨g9, h10, hn1, hn2, hw9⟩, hi⟩, -⟩ := hU
              have h10 : x 10 = ptr g9 := h10
              have hi := hi g9 h10
              revert hK
              simp only [Nat.reduceAdd, h10]
              intro hK
              refine wp_store_row 31 _ _ rfl g9 (rxC d (max top pn) true) rfl rfl 31 (rxC 0 0 false) hi Try.sizeRx rfl (by simp [Value.oneCell']) ?_
              have ho : Only (fun k => k = g9) w1 (w1.setRow g9 (rxC d (max top pn) true)) := Only.setRow (S := fun k => k = g9) (Only.refl _ w1) (fun _ => rfl) _
              refine hK undef _ (fun _ _ _ => ⟨h1.only ho (fun e => hn2 e.symm), h2.only ho hn1, h3.trans ho (fun i hi e => by omega)⟩) trivial ⟨⟨g9, h10⟩, fun g8 e => ?_⟩
              have e : x 10 = ptr g8 := e
              rw [h10] at e
              injection e with e; injection e with e; injection e with e; subst e
              exact hi.setRow _
            refine And.intro ?_ ?_
            · refine Reg.ob_pure (fun _ => rfl) rfl rfl rfl rfl (fun x w1 hF => ?_)
              go_simp
              with_reducible rfl
            refine And.intro ?_ ?_
            · refine Reg.ob_pure (fun _ => rfl) rfl rfl rfl rfl (fun x w1 hF => ?_)
              go_simp
              with_reducible rfl
            exact trivial
          case hFb =>
            exact ⟨X6.out, R6.out, O6.out.drew⟩
          case hinib =>
            exact trivial
          case presb =>
            intro i hi j hj hc x wx wy hF hE hW
            simp only [List.mem_cons, List.mem_nil_iff, or_false] at hi hj
            rcases hj with rfl | rfl <;> rcases hi with rfl | rfl | rfl
            all_goals first | (exfalso; revert hc; decide) | skip
            exact ⟨hW.1, fun g9 e => (hW.2 g9 e).only hE (by simp)⟩
          case finb =>
            rintro x w9 hF ⟨⟨⟨g9, h9⟩, hI9⟩, -⟩
            have h9 : x 10 = ptr g9 := h9
            obtain ⟨hX, hR, hO⟩ := hF rfl
            have X9 := Lib.hid hX
            have R9 := Lib.hid hR
            have O9 := Lib.hid hO
            have I9 := Lib.hid (hI9 g9 h9)
            simp only [Nat.reduceAdd, h9]
            clear hF hX hR hO hI9 h9
            go_upto_region 19 with (first | (refine wpList_load_want (o := ⟨some 110, _, _, _, _, _⟩) rfl _ _ rfl g9 rfl _ _ _ I9.out Try.underlying31 rfl Try.sizeRx ?_) | (refine wpList_store_is rfl 31 _ _ rfl g (rxC d (max top pn) true) rfl rfl 31 (rxC d top s) R9.out Try.sizeRx rfl (by simp [Value.oneCell']) ?_; intro wa hia hoa; have IA := Lib.hid hia; have OA := Lib.hid hoa; clear hia hoa))
            have XA := Lib.hid (X9.out.only OA.out (fun e => hgb e.symm))
            have OW := Lib.hid (show Only (fun _ => False) w wa from O9.out.trans OA.out (fun i hi e => by omega))
            go_wp2
            go_roundw
            case rel => exact ⟨k + 1, by omega, by go_num, _, _, XA.out, IA.out, OW.out, HST.out.1, by have := HST.out.2; have := S5.out.le; omega⟩
            case measure => simp [intOf]; omega
  · have HN := Lib.hid (xnew_none z w hz)
    by_cases hz1 : z < 1
    · go_enter Try.func3, Try.ntmps3
      go_wp2_with fail
      refine HN.out.mono ?_
      rintro e w1 ⟨rfl, ho⟩
      have O1 := Lib.hid ho
      clear ho
      go_wp2_with fail
      refine (wworks_is _).mono ?_
      rintro e w8 ⟨rfl, ho⟩
      have O8 := Lib.hid (O1.out.trans ho (fun _ _ e => e))
      clear ho
      go_wp2
      go_ret
      exact ⟨rfl, O8.out⟩
    · have hz2 : 32 < z := by omega
      go_enter Try.func3, Try.ntmps3
      go_wp2_with fail
      refine HN.out.mono ?_
      rintro e w1 ⟨rfl, ho⟩
      have O1 := Lib.hid ho
      clear ho
      go_wp2_with fail
      refine (wworks_is _).mono ?_
      rintro e w8 ⟨rfl, ho⟩
      have O8 := Lib.hid (O1.out.trans ho (fun _ _ e => e))
      clear ho
      go_wp2
      go_ret
      exact ⟨rfl, O8.out⟩
end Go.Proofs.Ythnaekmceakdaaa
