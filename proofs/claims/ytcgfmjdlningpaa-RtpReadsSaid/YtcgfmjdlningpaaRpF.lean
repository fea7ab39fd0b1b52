/- RtpReads' walk. Conditions: as it says. -/
import Derived.Test.YtcgfmjdlningpaaRpC
import Derived.Test.YtcgfmjdlningpaaRpD
import Derived.Test.YtcgfmjdlningpaaRpE
import Derived.Test.YtcgfmjdlningpaaRtpO
set_option linter.unusedVariables false
namespace Go.Proofs.Ytcgfmjdlningpaa
open Go.RowKit

theorem run_load_all {P : Program} {o : Oper} {ρ : Operand → Value} {w : World} (ty : TypeId) (x : Operand) (ho : o.op = .load ty x) (g : Nat) (hx : ρ x = .pointer (some ⟨g, 0, none⟩)) (t : TypeId) (cs : Array Value) (d : TypeDesc) (hg : Is w g t cs)
    (hu : P.underlying ty = some d) (hd : (match d with | .struct _ | .array _ _ => true | _ => false) = true) (hi : (P.info? ty).map (·.size) = some cs.size) : (execOp ρ o).run P w = .ok (.value (.agg cs)) w := by
  unfold execOp
  simp only [ho, hx, Instr.loadAt, Instr.sureAddr, Sem.run_bind, Sem.run_pure, Result.andThen_ok, run_loadVar_row w g t ty cs (0, 0) d hg hu hd hi]
theorem refparse_any (v : Value) (bs : List Nat) (w : World) (h : Src w v bs) (hb : ∀ x ∈ bs, x < 256) (hl : bs.length ≤ 1000000) :
    Calls Try.prog 15 #[v] w (GotPk w bs) := by
  by_cases h12 : bs.length < 12
  · obtain ⟨A, c, rfl⟩ := h.slice
    refine (refparse_short A bs.length c w h12).mono ?_
    rintro e w' ⟨rfl, ho⟩
    have he : parseErr bs = 10 := by unfold parseErr; rw [if_pos h12]
    exact ⟨ho, .inl ⟨by rw [he]; decide, by rw [he]; rfl⟩⟩
  · by_cases hver : b0 bs / 64 = 2
    · exact refparse_main v bs w h hb (by omega) hl hver
    · obtain ⟨g, o, c, rfl, hlc, hc⟩ := h.cap (by omega)
      have q0 := hc 0 (by omega)
      have hb0 : bs[0]'(by omega) = b0 bs := by unfold b0; rw [List.getD_eq_getElem?_getD, List.getElem?_eq_getElem (by omega)]; rfl
      rw [hb0, Nat.add_zero] at q0
      have hc0 : b0 bs < 256 := by rw [← hb0]; exact hb _ (List.getElem_mem _)
      refine (refparse_version g o c bs.length (b0 bs) w (by omega) hc0 hver q0).mono ?_
      rintro e w' ⟨rfl, ho⟩
      have he : parseErr bs = 20 := by unfold parseErr; rw [if_neg h12, if_pos hver]
      exact ⟨ho, .inl ⟨by rw [he]; decide, by rw [he]; rfl⟩⟩
/-- What both answer of some bytes. -/
def Tp (p : Pk) (k : Nat) (w : World) (e : Ending) (w' : World) : Prop :=
  ∃ vc ve vp, e = .returned (.tuple #[.agg (p.lst vc ve vp), .int .i64 (k : Nat)]) ∧ w'.ownsRow w.heap.size 26 1 vc p.csrc.length (cells32 p.csrc) ∧ w'.ownsRow w.heap.size 5 1 ve p.ext.length (cellsOf p.ext) ∧ w'.ownsRow w.heap.size 5 1 vp p.pay.length (cellsOf p.pay) ∧ Only (fun _ => False) w w'
theorem got_tp {bs : List Nat} {w w' : World} {e : Ending} (h : GotPk w bs e w') : Tp (if parseErr bs = 0 then parsed bs else Pk.zero) (parseErr bs) w e w' := by
  obtain ⟨ho, ⟨hne, rfl⟩ | ⟨h0, vc, ve, vp, rfl, h1, h2, h3⟩⟩ := h
  · rw [if_neg hne]
    exact ⟨.slice none 0 0, .slice none 0 0, .slice none 0 0, rfl, World.ownsRow_nil _ _ _ _, World.ownsRow_nil _ _ _ _, World.ownsRow_nil _ _ _ _, ho⟩
  · rw [if_pos h0, h0]
    exact ⟨vc, ve, vp, rfl, h1, h2, h3, ho⟩
theorem both_tp (bs : List Nat) (hb : ∀ x ∈ bs, x < 256) (hl : bs.length ≤ 2000) : ∃ p k, (p.csrc.length ≤ 1000 ∧ p.ext.length ≤ 1000000 ∧ p.pay.length ≤ 1000000) ∧ (∀ v w, Src w v bs → Calls Try.prog 16 #[v] w (Tp p k w)) ∧ (∀ v w, Src w v bs → Calls Try.prog 15 #[v] w (Tp p k w)) := by
  refine ⟨if parseErr bs = 0 then parsed bs else Pk.zero, parseErr bs, ?_, fun v w h => (parse_any v bs w h hb (by omega)).mono (fun _ _ h => got_tp h), fun v w h => (refparse_any v bs w h hb (by omega)).mono (fun _ _ h => got_tp h)⟩
  split
  · refine ⟨?_, ?_, ?_⟩
    · show (csrcOf (bs.drop 12) (many bs)).length ≤ 1000
      rw [csrcOf_length]
      unfold many
      omega
    · show (if hasX bs then ((rest1 bs).drop 4).take (extEnd (rest1 bs) - 4) else []).length ≤ 1000000
      have h2 : (rest1 bs).length ≤ bs.length := by unfold rest1; rw [List.length_drop, List.length_drop]; omega
      have h1 : (((rest1 bs).drop 4).take (extEnd (rest1 bs) - 4)).length ≤ (rest1 bs).length := by rw [List.length_take, List.length_drop]; omega
      cases hasX bs
      · simp
      · rw [if_pos rfl]
        omega
    · show ((rest2 bs).take ((rest2 bs).length - padN bs)).length ≤ 1000000
      have h2 : (rest1 bs).length ≤ bs.length := by unfold rest1; rw [List.length_drop, List.length_drop]; omega
      have h1 : (rest2 bs).length ≤ (rest1 bs).length := by
        unfold rest2
        split
        · rw [List.length_drop]; omega
        · exact Nat.le_refl _
      rw [List.length_take]
      omega
  · exact ⟨by simp [Pk.zero], by simp [Pk.zero], by simp [Pk.zero]⟩
theorem pk_one (p : Pk) (vc ve vp : Value) (h1 : ∃ A n c, vc = .slice A n c) (h2 : ∃ A n c, ve = .slice A n c) (h3 : ∃ A n c, vp = .slice A n c) : (p.lst vc ve vp).all (·.oneCell') = true := by
  obtain ⟨_, _, _, rfl⟩ := h1
  obtain ⟨_, _, _, rfl⟩ := h2
  obtain ⟨_, _, _, rfl⟩ := h3
  simp [Pk.lst, Value.oneCell']
/-- Amid a round. -/
structure Rds (p : Pk) (rb xb : Nat) (c1 e1 p1 c2 e2 p2 vb vo : Value) (B1 B2 : Nat) (bs : List Nat) (w wx : World) : Prop where
  d : Is wx rb 29 (p.lst c1 e1 p1)
  x : Is wx xb 33 (p.lst c2 e2 p2)
  c1 : wx.ownsRow B1 26 1 c1 p.csrc.length (cells32 p.csrc)
  e1 : wx.ownsRow B1 5 1 e1 p.ext.length (cellsOf p.ext)
  p1 : wx.ownsRow B1 5 1 p1 p.pay.length (cellsOf p.pay)
  c2 : wx.ownsRow B2 26 1 c2 p.csrc.length (cells32 p.csrc)
  e2 : wx.ownsRow B2 5 1 e2 p.ext.length (cellsOf p.ext)
  p2 : wx.ownsRow B2 5 1 p2 p.pay.length (cellsOf p.pay)
  sb : Src wx vb bs
  so : Src wx vo bs
  pure : Only (fun _ => False) w wx
theorem Rds.go {p : Pk} {rb xb : Nat} {c1 e1 p1 c2 e2 p2 vb vo : Value} {B1 B2 : Nat} {bs : List Nat} {w wx wy : World} (h : Rds p rb xb c1 e1 p1 c2 e2 p2 vb vo B1 B2 bs w wx) (ho : Only (fun _ => False) wx wy) : Rds p rb xb c1 e1 p1 c2 e2 p2 vb vo B1 B2 bs w wy :=
  ⟨h.d.only ho (by simp), h.x.only ho (by simp), own_only h.c1 ho (by simp), own_only h.e1 ho (by simp), own_only h.p1 ho (by simp), own_only h.c2 ho (by simp), own_only h.e2 ho (by simp), own_only h.p2 ho (by simp), h.sb.only ho (by simp), h.so.only ho (by simp), only_more h.pure ho⟩
theorem own_none {w : World} {B n : Nat} {t : TypeId} {v : Value} {xs : List Value} (h : w.ownsRow B t 1 v n xs) : v = .slice none 0 0 ∨ ∃ ad n c, v = .slice (some ad) n c := by
  rcases h.2 with ⟨e, _⟩ | ⟨g, cap, cur, e, _⟩
  · exact .inl e
  · exact .inr ⟨_, _, _, e⟩
theorem own_three {w : World} {B n : Nat} {t : TypeId} {v : Value} {xs : List Value} (h : w.ownsRow B t 1 v n xs) : ∃ A n c, v = .slice A n c := by
  obtain ⟨A, c, h, _⟩ := own_slice h
  exact ⟨A, _, c, h⟩

set_option maxRecDepth 100000 in
set_option maxHeartbeats 4000000 in
theorem rreads_any (v : Value) (bs : List Nat) (w : World) (hs : Src w v bs) (hb : ∀ x ∈ bs, x < 256) :
    Calls Try.prog 3 #[v] w fun e w' => e = .returned (.bool true) ∧ Only (fun _ => False) w w' := by
  obtain ⟨Ab, cb, rfl⟩ := hs.slice
  have HS := Lib.hid hs
  have HB := Lib.hid hb
  have HWK := Lib.hid (fun w => works_any w)
  clear hs hb
  by_cases hl : 2000 < bs.length
  · have zl : decide ((2000 : Int) < (bs.length : Int)) = true := decide_eq_true (by omega)
    clear hl
    go_enter Try.func3, Try.ntmps3
    go_wp2_with fail
    refine (HWK.out _).mono ?_
    rintro e w1 ⟨rfl, ho1⟩
    have O1 := Lib.hid ho1
    clear ho1
    go_wp2
    go_ret
    exact ⟨rfl, O1.out⟩
  · have zl : decide ((2000 : Int) < (bs.length : Int)) = false := decide_eq_false (by omega)
    have hl' : bs.length ≤ 2000 := by omega
    clear hl
    obtain ⟨p, k0, hpl, hcp, hrp⟩ := both_tp bs HB.out hl'
    have HPL := Lib.hid hpl
    have HCP := Lib.hid hcp
    have HRP := Lib.hid hrp
    have HBL := Lib.hid hl'
    clear hcp hrp hpl
    go_enter Try.func3, Try.ntmps3
    go_upto_region 4 with (go_at_call 14; refine (kitown_is _ bs w w.heap.size (Nat.le_refl _) HS.out (by have := HBL.out; omega)).mono ?_; rintro e w1 ⟨v1, rfl, hv1, ho1, -⟩; rw [length_cellsOf] at hv1; obtain ⟨A1, k1, rfl, -⟩ := own_slice hv1; have S1 := Lib.hid (Src.of_own hv1); have O1 := Lib.hid ho1; clear hv1 ho1)
    go_upto_region 5 with (first
      | (go_at_call 15; refine (HRP.out _ _ S1.out).mono ?_; rintro e w2 ⟨c1, e1, p1, rfl, hc1, he1, hp1, ho2⟩; have OC1 := Lib.hid hc1; have OE1 := Lib.hid he1; have OP1 := Lib.hid hp1; have O2 := Lib.hid ho2; have V1 := Lib.hid (pk_one p c1 e1 p1 (own_three hc1) (own_three he1) (own_three hp1)); clear hc1 he1 hp1 ho2)
      | (refine wpList_store_is rfl 29 _ _ rfl w2.heap.size (p.lst c1 e1 p1) rfl rfl 29 zeros (Is.made _ _ zeros) Try.sizeRk rfl V1.out ?_; intro w3 hi hp))
    have I3 := Lib.hid hi
    have O3 := Lib.hid (only_stored hp)
    have T3 := Lib.hid (only_more O1.out (only_more O2.out (only_stored hp)))
    generalize w2.heap.size = rb at *
    obtain ⟨B1, hB1⟩ : ∃ n, w1.heap.size = n := ⟨_, rfl⟩
    rw [hB1] at OC1 OE1 OP1
    clear hi hp hB1
    go_wp2
    go_loopw [6] (fun i wr => ∃ k : Nat, k ≤ 2 ∧ i = .int .i64 k ∧ Only (fun _ => False) w3 wr) (fun i _ => 2 - (intOf i).toNat)
    case atStart => exact ⟨0, by omega, rfl, Only.refl _ _⟩
    case round =>
      obtain ⟨k, hk, rfl, hpw⟩ := hrel
      have HPW := Lib.hid hpw
      clear hpw
      by_cases hlt : k < 2
      · have zk : (k : Int) < 2 := by omega
        have HCP2 := Lib.hid (HCP.out _ wr (HS.out.only (only_more T3.out HPW.out) (by simp)))
        go_upto_region 9 with (first
          | (go_at_call 16; refine HCP2.out.mono ?_; rintro e w5 ⟨c2, e2, p2, rfl, hc2, he2, hp2, ho5⟩; have OC2 := Lib.hid hc2; have OE2 := Lib.hid he2; have OP2 := Lib.hid hp2; have O5 := Lib.hid ho5; have V2 := Lib.hid (pk_one p c2 e2 p2 (own_three hc2) (own_three he2) (own_three hp2)); have HN0 := Lib.hid (own_none hc2); clear hc2 he2 hp2 ho5)
          | (refine wpList_store_is rfl 33 _ _ rfl w5.heap.size (p.lst c2 e2 p2) rfl rfl 33 zeros (Is.made _ _ zeros) Try.sizePk rfl V2.out ?_; intro w6 hi hp))
        have O56 := Lib.hid (only_stored hp)
        obtain ⟨B2, hB2⟩ : ∃ n, wr.heap.size = n := ⟨_, rfl⟩
        have HW5 := Lib.hid (show wr.heap.size ≤ B2 from by omega)
        rw [hB2] at OC2 OE2 OP2
        have T6 := Lib.hid (only_more O5.out O56.out)
        have T36 := Lib.hid (only_more O3.out (only_more HPW.out T6.out))
        have N6 := Lib.hid (show Rds p rb w5.heap.size c1 e1 p1 c2 e2 p2 (.slice Ab bs.length cb) (.slice A1 bs.length k1) B1 B2 bs w6 w6 from
          ⟨I3.out.only (only_more HPW.out T6.out) (by simp), hi, own_only OC1.out T36.out (by simp), own_only OE1.out T36.out (by simp), own_only OP1.out T36.out (by simp), own_only OC2.out O56.out (by simp), own_only OE2.out O56.out (by simp), own_only OP2.out O56.out (by simp),
            HS.out.only (only_more T3.out (only_more HPW.out T6.out)) (by simp), S1.out.only (only_more O2.out T36.out) (by simp), Only.refl _ _⟩)
        generalize w5.heap.size = xb at *
        clear hi hp hB2
        refine wp_region_posts [[], [], [0, 1], [2, 0, 1], [3, 2, 0, 1], [4, 3, 2, 0, 1], [3, 2, 0, 1], [5, 6, 3, 4, 2, 0, 1], [7, 3, 5, 6, 4, 2, 0, 1], [3, 8, 2, 0, 1, 7, 5, 6, 4], [9, 7, 3, 8, 2, 0, 1, 5, 6, 4], [10, 9, 7, 3, 8, 2, 0, 1, 5, 6, 4], [11, 10, 9, 7, 3, 8, 2, 0, 1, 5, 6, 4], [10, 9, 7, 3, 8, 2, 0, 1, 5, 6, 4], [13, 12, 10, 9, 7, 3, 8, 2, 0, 1, 5, 6, 4, 11], [12, 14, 10, 11, 9, 7, 3, 8, 2, 0, 1, 5, 6, 4, 13], [10, 15, 9, 7, 3, 8, 2, 0, 1, 5, 6, 4, 12, 14, 11, 13]] [5, 7, 12, 14] [5] [[], [], [], [], [], [], [], [], [], [], [], [], [], [], [], [], []] [[], [], [], [], [], [], [], [5], [], [], [], [], [], [], [], [], []] [] [] [] []
            [some ?v0, some ?v1, some ?v2, some ?v3, some (.agg (p.lst c2 e2 p2)), none, some (.agg (p.lst c1 e1 p1)), some (.bool true), some ?v8, some ?v9, some ?v10, some ?v11, some (.bool (isRtcp bs)), some ?v13, some (.bool (isRtcp bs)), some ?v15, some ?v16]
            ?T (fun wx => Rds p rb xb c1 e1 p1 c2 e2 p2 (.slice Ab bs.length cb) (.slice A1 bs.length k1) B1 B2 bs w6 wx) ?W ?E (by kernel_rfl) (by kernel_rfl) (by kernel_rfl) (fun x => ?hT) ?hF ?hini (Reg.all_ops ?runs) ?pres ?fin
        case W => exact fun j x w' => match j with | 5 => ∃ vc ve vp, x 5 = .agg (p.lst vc ve vp) ∧ Rd .u32 w' vc (nats p.csrc) ∧ Src w' ve p.ext ∧ Src w' vp p.pay | _ => True
        case E => exact fun _ w' w'' => Only (fun _ => False) w' w''
        case hT =>
          simp only [Reg.fillV, Act.put, List.setIfInBounds_toArray, List.set_cons_zero, List.set_cons_succ]
          rfl
        case runs =>
          refine And.intro ?_ ?_
          · refine Reg.ob_pure (fun _ => rfl) rfl rfl rfl rfl (fun x w1 hF => ?_)
            go_simp
            with_reducible rfl
          refine And.intro ?_ ?_
          · refine Reg.ob_pure (fun _ => rfl) rfl rfl rfl rfl (fun x w1 hF => ?_)
            go_simp
            with_reducible rfl
          refine And.intro ?_ ?_
          · refine Reg.ob_pure (fun _ => rfl) rfl rfl rfl rfl (fun x w1 hF => ?_)
            go_simp
            with_reducible rfl
          refine And.intro ?_ ?_
          · refine Reg.ob_pure (fun _ => rfl) rfl rfl rfl rfl (fun x w1 hF => ?_)
            go_simp
            with_reducible rfl
          refine And.intro ?_ ?_
          · refine Reg.ob_pure (fun _ => rfl) rfl rfl rfl rfl (fun x w1 hF => ?_)
            exact run_load_all 33 _ (by rfl) xb (by rfl) 33 _ _ hF.x Try.underlying33 rfl Try.sizePk
          refine And.intro ?_ ?_
          · refine Reg.ob_some (fun _ => rfl) rfl (fun x w1 hF hU K hK => ?_)
            replace hF := hF rfl
            go_simp
            refine (docs_packet p c2 e2 p2 w1 HN0.out (own32_rd hF.c2) (Src.of_own hF.e2) (Src.of_own hF.p2) HPL.out).mono ?_
            rintro e w3 ⟨vc, ve, vp, rfl, hc, he, hp, ho⟩
            exact hK _ w3 (fun _ _ _ => hF.go ho) ho ⟨vc, ve, vp, rfl, own32_rd hc, Src.of_own he, Src.of_own hp⟩
          refine And.intro ?_ ?_
          · refine Reg.ob_pure (fun _ => rfl) rfl rfl rfl rfl (fun x w1 hF => ?_)
            exact run_load_all 29 _ (by rfl) rb (by rfl) 29 _ _ hF.d Try.underlying29 rfl Try.sizeRk
          refine And.intro ?_ ?_
          · refine Reg.ob_known (fun _ => rfl) rfl rfl (fun x w1 hF hU K hK => ?_)
            replace hF := hF rfl
            obtain ⟨⟨vc, ve, vp, h5, q1, q2, q3⟩, -⟩ := hU
            have h5 : x 5 = .agg (p.lst vc ve vp) := h5
            revert hK
            simp only [Nat.reduceAdd, h5]
            intro hK
            go_simp
            refine (rsame_pk p vc ve vp c1 e1 p1 w1 q1 (own32_rd hF.c1) q2 (Src.of_own hF.e1) q3 (Src.of_own hF.p1) HPL.out).mono ?_
            rintro e w3 ⟨rfl, ho⟩
            exact hK w3 (fun _ _ _ => hF.go ho) ho
          refine And.intro ?_ ?_
          · refine Reg.ob_pure (fun _ => rfl) rfl rfl rfl rfl (fun x w1 hF => ?_)
            go_simp
            with_reducible rfl
          refine And.intro ?_ ?_
          · refine Reg.ob_pure (fun _ => rfl) rfl rfl rfl rfl (fun x w1 hF => ?_)
            go_simp
            with_reducible rfl
          refine And.intro ?_ ?_
          · refine Reg.ob_pure (fun _ => rfl) rfl rfl rfl rfl (fun x w1 hF => ?_)
            go_simp
            with_reducible rfl
          refine And.intro ?_ ?_
          · refine Reg.ob_pure (fun _ => rfl) rfl rfl rfl rfl (fun x w1 hF => ?_)
            go_simp
            with_reducible rfl
          refine And.intro ?_ ?_
          · refine Reg.ob_known (fun _ => rfl) rfl rfl (fun x w1 hF hU K hK => ?_)
            replace hF := hF rfl
            go_simp
            refine (rtcp_is _ bs _ hF.sb HB.out).mono ?_
            rintro e w3 ⟨rfl, rfl⟩
            exact hK _ (fun _ _ _ => hF) (Only.refl _ _)
          refine And.intro ?_ ?_
          · refine Reg.ob_pure (fun _ => rfl) rfl rfl rfl rfl (fun x w1 hF => ?_)
            go_simp
            with_reducible rfl
          refine And.intro ?_ ?_
          · refine Reg.ob_known (fun _ => rfl) rfl rfl (fun x w1 hF hU K hK => ?_)
            replace hF := hF rfl
            go_simp
            refine (refrtcp_is _ bs _ hF.so HB.out).mono ?_
            rintro e w3 ⟨rfl, rfl⟩
            exact hK _ (fun _ _ _ => hF) (Only.refl _ _)
          refine And.intro ?_ ?_
          · refine Reg.ob_pure (fun _ => rfl) rfl rfl rfl rfl (fun x w1 hF => ?_)
            go_simp
            with_reducible rfl
          refine And.intro ?_ ?_
          · refine Reg.ob_pure (fun _ => rfl) rfl rfl rfl rfl (fun x w1 hF => ?_)
            go_simp
            with_reducible rfl
          exact trivial
        case hF =>
          exact N6.out.go ((Only.refl _ _).drewN 1)
        case hini =>
          exact trivial
        case pres =>
          intro i hi j hj hc x w1 w2 hF hE hW
          simp only [List.mem_cons, List.mem_nil_iff, or_false] at hi hj
          subst hj
          obtain ⟨vc, ve, vp, h5, q1, q2, q3⟩ := hW
          exact ⟨vc, ve, vp, h5, q1.only hE (by simp), q2.only hE (by simp), q3.only hE (by simp)⟩
        case fin =>
          rintro x w9 hF -
          replace hF := hF rfl
          have PURE := Lib.hid hF.pure
          have IX := Lib.hid hF.x
          have SP := Lib.hid (spoil_packet p c2 e2 p2 w9 B2 B2 B2 _ _ _ _ _ _ hF.c2 hF.e2 hF.p2 HPL.out)
          have L1 := Lib.hid (fun k h => (hF.c2.lt k h).1)
          have L2 := Lib.hid (fun k h => (hF.e2.lt k h).1)
          have L3 := Lib.hid (fun k h => (hF.p2.lt k h).1)
          clear hF
          go_wp2_with (first | (refine wpList_load_want rfl _ _ rfl xb rfl _ _ _ IX.out Try.underlying33 rfl Try.sizePk ?_) | (go_at_call 21; refine SP.out.mono ?_; rintro e wa ⟨rfl, hoa⟩; have OA := Lib.hid hoa; clear hoa))
          refine ⟨⟨k + 1, by omega, by go_num, only_more HPW.out ((only_more T6.out PURE.out).trans OA.out (fun i hi e => ?_))⟩, by simp [intOf]; omega⟩
          have hb2 := HW5.out
          rcases e with e | e | e
          · have := L1.out i e; omega
          · have := L2.out i e; omega
          · have := L3.out i e; omega

      · obtain rfl : k = 2 := by omega
        have HSM := Lib.hid (fun wx (h : Only (fun _ => False) wr wx) => kitsame_yes (.slice Ab bs.length cb) (.slice A1 bs.length k1) bs wx (HS.out.only (only_more T3.out (only_more HPW.out h)) (by simp)) (S1.out.only (only_more O2.out (only_more O3.out (only_more HPW.out h))) (by simp)) (by have := HBL.out; omega))
        go_wp2_with (first
          | (go_at_call 22; refine (HSM.out _ (Only.refl _ _)).mono ?_; rintro e w5 ⟨rfl, ho5⟩; have O5 := Lib.hid ho5; clear ho5)
          | (go_at_call 13; refine (HWK.out _).mono ?_; rintro e w6 ⟨rfl, ho6⟩; have O6 := Lib.hid ho6; clear ho6))
        go_ret
        exact ⟨rfl, only_more T3.out (only_more HPW.out (only_more O5.out O6.out))⟩
theorem rreads_args {W : World} {v : Value} {bs : List Nat} (h : Src W v bs) (k : ∀ x ∈ bs, x < 256) :
    Calls Try.prog 3 #[v] W fun e w' => e = .returned (.bool true) ∧ Below W.heap.size W w' := by
  refine (rreads_any v bs W h k).mono ?_
  rintro e w' ⟨rfl, ho⟩
  exact ⟨rfl, Only.below ho (fun i hi => hi.elim) (Nat.le_refl _)⟩
end Go.Proofs.Ytcgfmjdlningpaa
