/- Vp8Reads' walk. Conditions: as it says. -/
import Derived.Test.YtneogagainllnaaRvC
import Derived.Test.YtneogagainllnaaVpS
set_option linter.unusedVariables false
namespace Go.Proofs.Ytneogagainllnaa
open Go.RowKit

/-- Amid a round. -/
structure Reads (rb xb : Nat) (cs : Array Value) (v4 v3 : Value) (r : List Nat) (w wx : World) : Prop where
  d : Is wx rb 27 cs
  x : Is wx xb 31 cs
  s1 : Src wx v4 r
  s2 : Src wx v3 r
  pure : Only (fun _ => False) w wx
theorem Reads.go {rb xb : Nat} {cs : Array Value} {v4 v3 : Value} {r : List Nat} {w wx wy : World} (h : Reads rb xb cs v4 v3 r w wx) (ho : Only (fun _ => False) wx wy) : Reads rb xb cs v4 v3 r w wy :=
  ⟨h.d.only ho (by simp), h.x.only ho (by simp), h.s1.only ho (by simp), h.s2.only ho (by simp), only_more h.pure ho⟩
/-- What both answer of some bytes. -/
def Told (d : Dv) (r : List Nat) (k : Int) (w : World) (e : Ending) (w' : World) : Prop :=
  ∃ A c, e = .returned (.tuple #[.agg d.cells, .slice A r.length c, .int .i64 k]) ∧ w'.ownsRow w.heap.size 5 1 (.slice A r.length c) r.length (cellsOf r) ∧ Only (fun _ => False) w w'
theorem both_told (bs : List Nat) (hb : ∀ x ∈ bs, x < 256) (hl : bs.length ≤ 1000) : ∃ d r k, r.length ≤ bs.length ∧ (∀ x ∈ r, x < 256) ∧ (∀ v w, Src w v bs → Calls Try.prog 10 #[v] w (Told d r k w)) ∧ (∀ v w, Src w v bs → Calls Try.prog 9 #[v] w (Told d r k w)) := by
  by_cases hg : 1 ≤ bs.length ∧ needN bs ≤ bs.length
  · obtain ⟨h1, hn⟩ := hg
    have hgot := got_ref bs hb h1 hn
    refine ⟨refD bs, bs.drop (needN bs), 0, by rw [List.length_drop]; omega, fun x hx => hb x (List.mem_of_mem_drop hx), ?_, ?_⟩
    · intro v w hs
      refine (parse_good v bs w hs hb (by omega) (needN bs) (by rw [hgot]) (by rw [hgot])).mono ?_
      rintro e w' ⟨u, rfl, hu, ho⟩
      obtain ⟨A, c, rfl, _⟩ := own_slice hu
      exact ⟨A, c, by rw [hgot]; rfl, hu, ho⟩
    · intro v w hs
      refine (rparse_good v bs w hs hb (by omega) h1 hn).mono ?_
      rintro e w' ⟨u, rfl, hu, ho⟩
      obtain ⟨A, c, rfl, _⟩ := own_slice hu
      exact ⟨A, c, rfl, hu, ho⟩
  · have hbad : (Got bs).2.2 ≠ 0 := fun h => hg (got_need bs hb h)
    have h10 : (Got bs).2.2 = 10 := (got_err bs).resolve_left hbad
    refine ⟨Dv.zero, [], 10, by simp, by simp, ?_, ?_⟩
    · intro v w hs
      refine (parse_bad v bs w hs hb (by omega) hbad).mono ?_
      rintro e w' ⟨rfl, ho⟩
      exact ⟨none, 0, by rw [h10]; rfl, World.ownsRow_nil _ _ _ _, ho⟩
    · intro v w hs
      refine (rparse_bad v bs w hs hb (by omega) hg).mono ?_
      rintro e w' ⟨rfl, ho⟩
      exact ⟨none, 0, rfl, World.ownsRow_nil _ _ _ _, ho⟩

set_option maxRecDepth 100000 in
set_option maxHeartbeats 4000000 in
theorem reads_any (v : Value) (bs : List Nat) (w : World) (hs : Src w v bs) (hb : ∀ x ∈ bs, x < 256) :
    Calls Try.prog 3 #[v] w fun e w' => e = .returned (.bool true) ∧ Only (fun _ => False) w w' := by
  obtain ⟨Ab, cb, rfl⟩ := hs.slice
  have HS := Lib.hid hs
  have HB := Lib.hid hb
  have HWK := Lib.hid (fun w => works_any w)
  clear hs hb
  by_cases hl : 200 < bs.length
  · have zl : decide ((200 : Int) < (bs.length : Int)) = true := decide_eq_true (by omega)
    clear hl
    go_enter Try.func3, Try.ntmps3
    go_wp2_with fail
    refine (HWK.out _).mono ?_
    rintro e w1 ⟨rfl, ho1⟩
    have O1 := Lib.hid ho1
    clear ho1
    go_wp2
    go_ret
    exact ⟨rfl, O1.out⟩
  · have zl : decide ((200 : Int) < (bs.length : Int)) = false := decide_eq_false (by omega)
    have hl' : bs.length ≤ 200 := by omega
    clear hl
    obtain ⟨d, r, k0, hrl, hrb, hcp, hrp⟩ := both_told bs HB.out (by omega)
    have HCP := Lib.hid hcp
    have HRP := Lib.hid hrp
    have HRB := Lib.hid hrb
    have HRL := Lib.hid (show r.length ≤ 140737488355328 from by omega)
    have VD := Lib.hid (Dv.one d)
    have HBL := Lib.hid hl'
    clear hcp hrp hrb hrl
    go_enter Try.func3, Try.ntmps3
    go_upto_region 4 with (go_at_call 8; refine (kitown_is _ bs w w.heap.size (Nat.le_refl _) HS.out (by have := HBL.out; omega)).mono ?_; rintro e w1 ⟨v1, rfl, hv1, ho1, -⟩; rw [length_cellsOf] at hv1; obtain ⟨A1, c1, rfl, -⟩ := own_slice hv1; have S1 := Lib.hid (Src.of_own hv1); have O1 := Lib.hid ho1; clear hv1 ho1)
    go_upto_region 5 with (first
      | (go_at_call 9; refine (HRP.out _ _ S1.out).mono ?_; rintro e w2 ⟨A3, c3, rfl, hown3, ho2⟩; have S3 := Lib.hid (Src.of_own hown3); have O2 := Lib.hid ho2; clear hown3 ho2)
      | (refine wpList_store_is rfl 27 _ _ rfl w2.heap.size d.cells rfl rfl 27 Dv.zero.cells (Is.made _ _ Dv.zero.cells) Try.sizeRef rfl VD.out ?_; intro w3 hi hp))
    have I3 := Lib.hid hi
    have O3 := Lib.hid (only_stored hp)
    have T3 := Lib.hid (only_more O1.out (only_more O2.out (only_stored hp)))
    generalize w2.heap.size = rb at *
    clear hi hp
    go_wp2
    go_loopw [7] (fun i wr => ∃ k : Nat, k ≤ 2 ∧ i = .int .i64 k ∧ Only (fun _ => False) w3 wr) (fun i _ => 2 - (intOf i).toNat)
    case atStart => exact ⟨0, by omega, rfl, Only.refl _ _⟩
    case round =>
      obtain ⟨k, hk, rfl, hpw⟩ := hrel
      have HPW := Lib.hid hpw
      clear hpw
      by_cases hlt : k < 2
      · have zk : (k : Int) < 2 := by omega
        have HCP2 := Lib.hid (HCP.out _ wr (HS.out.only (only_more T3.out HPW.out) (by simp)))
        go_upto_region 9 with (first
          | (go_at_call 10; refine HCP2.out.mono ?_; rintro e w5 ⟨A2, c2, rfl, hown2, ho5⟩; have OWN := Lib.hid hown2; have O5 := Lib.hid ho5; clear hown2 ho5)
          | (refine wpList_store_is rfl 31 _ _ rfl w5.heap.size d.cells rfl rfl 31 Dv.zero.cells (Is.made _ _ Dv.zero.cells) Try.sizeDesc rfl VD.out ?_; intro w6 hi hp))
        have O56 := Lib.hid (only_stored hp)
        obtain ⟨w5s, hw5s⟩ : ∃ n, wr.heap.size = n := ⟨_, rfl⟩
        have HW5 := Lib.hid (show wr.heap.size ≤ w5s from by omega)
        have OWN6 := Lib.hid (own_only OWN.out O56.out (by simp))
        rw [hw5s] at OWN6
        have T6 := Lib.hid (only_more O5.out O56.out)
        have N6 := Lib.hid (show Reads rb w5.heap.size d.cells (.slice A2 r.length c2) (.slice A3 r.length c3) r w6 w6 from
          ⟨I3.out.only (only_more HPW.out T6.out) (by simp), hi, Src.of_own OWN6.out, S3.out.only (only_more O3.out (only_more HPW.out T6.out)) (by simp), Only.refl _ _⟩)
        generalize w5.heap.size = xb at *
        clear hi hp hw5s
        refine wp_region_posts [[], [], [0, 1], [2, 0, 1], [3, 2, 0, 1], [4, 3, 2, 0, 1], [3, 2, 0, 1], [5, 6, 3, 4, 2, 0, 1], [3, 7, 2, 0, 1, 5, 6, 4], [8, 5, 3, 7, 2, 0, 1, 6, 4], [9, 8, 5, 3, 7, 2, 0, 1, 6, 4], [9, 8, 5, 3, 7, 2, 0, 1, 6, 4], [10, 11, 9, 8, 5, 3, 7, 2, 0, 1, 6, 4], [12, 9, 10, 11, 8, 5, 3, 7, 2, 0, 1, 6, 4], [9, 13, 8, 5, 3, 7, 2, 0, 1, 6, 4, 12, 10, 11], [14, 12, 9, 13, 8, 5, 3, 7, 2, 0, 1, 6, 4, 10, 11], [15, 14, 12, 9, 13, 8, 5, 3, 7, 2, 0, 1, 6, 4, 10, 11], [15, 14, 12, 9, 13, 8, 5, 3, 7, 2, 0, 1, 6, 4, 10, 11], [16, 17, 15, 14, 12, 9, 13, 8, 5, 3, 7, 2, 0, 1, 6, 4, 10, 11], [15, 14, 12, 9, 13, 8, 5, 3, 7, 2, 0, 1, 6, 4, 10, 11], [15, 14, 12, 9, 13, 8, 5, 3, 7, 2, 0, 1, 6, 4, 10, 11], [19, 20, 18, 15, 14, 12, 9, 13, 8, 5, 3, 7, 2, 0, 1, 6, 4, 10, 11, 16, 17], [18, 21, 15, 16, 17, 14, 12, 9, 13, 8, 5, 3, 7, 2, 0, 1, 6, 4, 10, 11, 19, 20], [15, 22, 14, 12, 9, 13, 8, 5, 3, 7, 2, 0, 1, 6, 4, 10, 11, 18, 21, 16, 17, 19, 20]] [5, 12, 18, 21] [] [[], [], [], [], [], [], [], [], [], [], [], [], [], [], [], [], [], [], [], [], [], [], [], []] [[], [], [], [], [], [], [], [], [], [], [], [], [], [], [], [], [], [], [], [], [], [], [], []] [] [] [] []
            [some ?v0, some ?v1, some ?v2, some ?v3, some (.agg d.cells), some (.agg d.cells), some (.agg d.cells), some (.bool false), some ?v8, some ?v9, some ?v10, some ?v11, some (.bool true), some ?v13, some ?v14, some ?v15, some (.agg d.cells), some ?v17, some (.bool (d.begins r)), some (.agg d.cells), some ?v20, some (.bool (d.begins r)), some ?v22, some ?v23]
            ?T (fun wx => Reads rb xb d.cells (.slice A2 r.length c2) (.slice A3 r.length c3) r w6 wx) ?W ?E (by kernel_rfl) (by kernel_rfl) (by kernel_rfl) (fun x => ?hT) ?hF ?hini (Reg.all_ops ?runs) ?pres ?fin
        case W => exact fun _ _ _ => True
        case E => exact fun _ w' w'' => Only (fun _ => False) w' w''
        case hT =>
          simp only [Reg.fillV, Act.put, List.setIfInBounds_toArray, List.set_cons_zero, List.set_cons_succ]
          rfl
        case runs =>
          refine And.intro ?_ ?_
          · refine Reg.ob_pure (fun _ => rfl) rfl rfl rfl rfl (fun x w1 hF => ?_)
            go_simp
            with_reducible rfl
          refine And.intro ?_ ?_
          · refine Reg.ob_pure (fun _ => rfl) rfl rfl rfl rfl (fun x w1 hF => ?_)
            go_simp
            with_reducible rfl
          refine And.intro ?_ ?_
          · refine Reg.ob_pure (fun _ => rfl) rfl rfl rfl rfl (fun x w1 hF => ?_)
            go_simp
            with_reducible rfl
          refine And.intro ?_ ?_
          · refine Reg.ob_pure (fun _ => rfl) rfl rfl rfl rfl (fun x w1 hF => ?_)
            go_simp
            with_reducible rfl
          refine And.intro ?_ ?_
          · refine Reg.ob_pure (fun _ => rfl) rfl rfl rfl rfl (fun x w1 hF => ?_)
            exact run_load_is 31 _ (by rfl) xb (by rfl) 31 _ _ hF.x Try.underlying31 rfl Try.sizeDesc
          refine And.intro ?_ ?_
          · refine Reg.ob_known (fun _ => rfl) rfl rfl (fun x w1 hF hU K hK => ?_)
            replace hF := hF rfl
            go_simp
            refine (ref_is d _).mono ?_
            rintro e w3 ⟨rfl, ho⟩
            exact hK w3 (fun _ _ _ => hF.go ho) ho
          refine And.intro ?_ ?_
          · refine Reg.ob_pure (fun _ => rfl) rfl rfl rfl rfl (fun x w1 hF => ?_)
            exact run_load_is 27 _ (by rfl) rb (by rfl) 27 _ _ hF.d Try.underlying27 rfl Try.sizeRef
          refine And.intro ?_ ?_
          · refine Reg.ob_pure (fun _ => rfl) rfl rfl rfl rfl (fun x w1 hF => ?_)
            exact run_neq_ref w1 _ _ d.cells d.cells (by rfl) (by rfl) (by rfl) (by rw [neq_ref, same_self]; rfl)
          refine And.intro ?_ ?_
          · refine Reg.ob_pure (fun _ => rfl) rfl rfl rfl rfl (fun x w1 hF => ?_)
            go_simp
            with_reducible rfl
          refine And.intro ?_ ?_
          · refine Reg.ob_pure (fun _ => rfl) rfl rfl rfl rfl (fun x w1 hF => ?_)
            go_simp
            with_reducible rfl
          refine And.intro ?_ ?_
          · refine Reg.ob_pure (fun _ => rfl) rfl rfl rfl rfl (fun x w1 hF => ?_)
            go_simp
            with_reducible rfl
          refine And.intro ?_ ?_
          · refine Reg.ob_pure (fun _ => rfl) rfl rfl rfl rfl (fun x w1 hF => ?_)
            go_simp
            with_reducible rfl
          refine And.intro ?_ ?_
          · refine Reg.ob_known (fun _ => rfl) rfl rfl (fun x w1 hF hU K hK => ?_)
            replace hF := hF rfl
            go_simp
            refine (same_yes _ _ r _ hF.s1 hF.s2 HRL.out).mono ?_
            rintro e w3 ⟨rfl, ho⟩
            exact hK w3 (fun _ _ _ => hF.go ho) ho
          refine And.intro ?_ ?_
          · refine Reg.ob_pure (fun _ => rfl) rfl rfl rfl rfl (fun x w1 hF => ?_)
            go_simp
            with_reducible rfl
          refine And.intro ?_ ?_
          · refine Reg.ob_pure (fun _ => rfl) rfl rfl rfl rfl (fun x w1 hF => ?_)
            go_simp
            with_reducible rfl
          refine And.intro ?_ ?_
          · refine Reg.ob_pure (fun _ => rfl) rfl rfl rfl rfl (fun x w1 hF => ?_)
            go_simp
            with_reducible rfl
          refine And.intro ?_ ?_
          · refine Reg.ob_pure (fun _ => rfl) rfl rfl rfl rfl (fun x w1 hF => ?_)
            exact run_load_is 31 _ (by rfl) xb (by rfl) 31 _ _ hF.x Try.underlying31 rfl Try.sizeDesc
          refine And.intro ?_ ?_
          · refine Reg.ob_pure (fun _ => rfl) rfl rfl rfl rfl (fun x w1 hF => ?_)
            go_simp
            with_reducible rfl
          refine And.intro ?_ ?_
          · refine Reg.ob_known (fun _ => rfl) rfl rfl (fun x w1 hF hU K hK => ?_)
            replace hF := hF rfl
            go_simp
            refine (key_is d _ r _ hF.s1 HRB.out).mono ?_
            rintro e w3 ⟨rfl, ho⟩
            exact hK w3 (fun _ _ _ => hF.go ho) ho
          refine And.intro ?_ ?_
          · refine Reg.ob_pure (fun _ => rfl) rfl rfl rfl rfl (fun x w1 hF => ?_)
            exact run_load_is 27 _ (by rfl) rb (by rfl) 27 _ _ hF.d Try.underlying27 rfl Try.sizeRef
          refine And.intro ?_ ?_
          · refine Reg.ob_pure (fun _ => rfl) rfl rfl rfl rfl (fun x w1 hF => ?_)
            go_simp
            with_reducible rfl
          refine And.intro ?_ ?_
          · refine Reg.ob_known (fun _ => rfl) rfl rfl (fun x w1 hF hU K hK => ?_)
            replace hF := hF rfl
            go_simp
            refine (rkey_is d _ r _ hF.s2 HRB.out).mono ?_
            rintro e w3 ⟨rfl, ho⟩
            exact hK w3 (fun _ _ _ => hF.go ho) ho
          refine And.intro ?_ ?_
          · refine Reg.ob_pure (fun _ => rfl) rfl rfl rfl rfl (fun x w1 hF => ?_)
            go_simp
            with_reducible rfl
          refine And.intro ?_ ?_
          · refine Reg.ob_pure (fun _ => rfl) rfl rfl rfl rfl (fun x w1 hF => ?_)
            go_simp
            with_reducible rfl
          exact trivial
        case hF =>
          exact N6.out.go ((Only.refl _ _).drewN 1)
        case hini =>
          exact trivial
        case pres =>
          intro i hi j hj
          cases hj
        case fin =>
          rintro x w9 hF -
          replace hF := hF rfl
          go_wp2_with fail
          refine (spoil_is _ r.length w5s _ w9 (own_only OWN6.out hF.pure (by simp)) HRL.out).mono ?_
          rintro e wa ⟨rfl, hoa⟩
          have TA := Lib.hid (only_row (only_more T6.out hF.pure) (own_only OWN6.out hF.pure (by simp)) HW5.out hoa)
          clear hoa hF
          go_wp2
          exact ⟨⟨k + 1, by omega, by go_num, only_more HPW.out TA.out⟩, by simp [intOf]; omega⟩
      · obtain rfl : k = 2 := by omega
        have HSM := Lib.hid (fun wx (h : Only (fun _ => False) wr wx) => same_yes (.slice Ab bs.length cb) (.slice A1 bs.length c1) bs wx (HS.out.only (only_more T3.out (only_more HPW.out h)) (by simp)) (S1.out.only (only_more O2.out (only_more O3.out (only_more HPW.out h))) (by simp)) (by have := HBL.out; omega))
        go_wp2_with (first
          | (go_at_call 12; refine (HSM.out _ (Only.refl _ _)).mono ?_; rintro e w5 ⟨rfl, ho5⟩; have O5 := Lib.hid ho5; clear ho5)
          | (go_at_call 7; refine (HWK.out _).mono ?_; rintro e w6 ⟨rfl, ho6⟩; have O6 := Lib.hid ho6; clear ho6))
        go_ret
        exact ⟨rfl, only_more T3.out (only_more HPW.out (only_more O5.out O6.out))⟩
end Go.Proofs.Ytneogagainllnaa
