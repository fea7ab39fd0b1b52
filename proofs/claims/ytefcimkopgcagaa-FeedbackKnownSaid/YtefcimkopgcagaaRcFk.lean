/- easeldocs.SameRtcps, of packets that are the same. Conditions: as it says. -/
import Derived.Test.YtefcimkopgcagaaRcE
set_option linter.unusedVariables false
namespace Go.Proofs.Ytefcimkopgcagaa
open Go.RowKit

/-- An element's cells, where they lie. -/
def CellsAt (w : World) (g o i : Nat) (p : Pkt) (u : Value) : Prop :=
  w.cell? ⟨g, o + i * 4, none⟩ = some (.int .u8 (p.count : Nat)) ∧ w.cell? ⟨g, o + i * 4 + 1, none⟩ = some (.int .u8 (p.kind : Nat)) ∧ w.cell? ⟨g, o + i * 4 + 2, none⟩ = some u ∧ w.cell? ⟨g, o + i * 4 + 3, none⟩ = some (.int .u8 (p.pad : Nat))
theorem CellsAt.only {w w1 : World} {g o i : Nat} {p : Pkt} {u : Value} (h : CellsAt w g o i p u) (ho : Only (fun _ => False) w w1) : CellsAt w1 g o i p u := by
  obtain ⟨h0, h1, h2, h3⟩ := h
  exact ⟨(ho.cell (World.block_lt_of_cell? w _ h0) (by simp)).trans h0, (ho.cell (World.block_lt_of_cell? w _ h1) (by simp)).trans h1, (ho.cell (World.block_lt_of_cell? w _ h2) (by simp)).trans h2, (ho.cell (World.block_lt_of_cell? w _ h3) (by simp)).trans h3⟩
/-- Packets that can be read. -/
def RdK (w : World) (v : Value) (l : List Pkt) : Prop :=
  ∃ A c, v = .slice A l.length c ∧ l.length ≤ c ∧ (0 < l.length → ∃ g o, A = some ⟨g, o, none⟩ ∧ ∀ (i : Nat) (p : Pkt), l[i]? = some p → ∃ u, CellsAt w g o i p u ∧ Src w u p.body)
theorem RdK.only {w w1 : World} {v : Value} {l : List Pkt} (h : RdK w v l) (ho : Only (fun _ => False) w w1) : RdK w1 v l := by
  obtain ⟨A, c, rfl, hc, hh⟩ := h
  refine ⟨A, c, rfl, hc, fun hp => ?_⟩
  obtain ⟨g, o, rfl, hi⟩ := hh hp
  exact ⟨g, o, rfl, fun i p hp => by obtain ⟨u, h1, h2⟩ := hi i p hp; exact ⟨u, h1.only ho, h2.of_only ho⟩⟩
theorem Pks.rdk {w : World} {B : Nat} {T : TypeId} {v : Value} {vs : List Value} {l : List Pkt} (h : Pks w B T v vs l) : RdK w v l := by
  rcases Nat.eq_zero_or_pos l.length with h0 | hpos
  · obtain ⟨A, c, rfl, hc⟩ := h.slice
    exact ⟨A, c, rfl, hc, fun hp => by omega⟩
  · obtain ⟨g, c, rfl, hc, hg, hB, hcell⟩ := h.row.at_ (by rw [h.zip]; exact hpos)
    refine ⟨some ⟨g, 0, none⟩, c, by rw [h.zip], by rw [h.zip] at hc; exact hc, fun _ => ⟨g, 0, rfl, fun i p hi => ?_⟩⟩
    have hil : i < l.length := (List.getElem?_eq_some_iff.1 hi).1
    obtain ⟨p', u, e1, e2, e3, hu⟩ := h.get i hil
    rw [hi] at e1
    injection e1 with e1
    subst e1
    refine ⟨u, ⟨?_, ?_, ?_, ?_⟩, Src.of_own hu⟩
    · have := hcell i 0 _ e3 (by decide); simpa [Pkt.lst] using this
    · have := hcell i 1 _ e3 (by decide); simpa [Pkt.lst] using this
    · have := hcell i 2 _ e3 (by decide); simpa [Pkt.lst] using this
    · have := hcell i 3 _ e3 (by decide); simpa [Pkt.lst] using this

set_option maxRecDepth 100000 in
set_option maxHeartbeats 4000000 in
theorem docs_same (v1 v2 : Value) (l : List Pkt) (w : World) (h1 : RdK w v1 l) (h2 : RdK w v2 l) (hl : l.length ≤ 1000000) (hb : ∀ p ∈ l, p.body.length ≤ 1000000) :
    Calls Try.prog 13 #[v1, v2] w fun e w' => e = .returned (.bool true) ∧ Only (fun _ => False) w w' := by
  obtain ⟨A1, c1, rfl, -, hh1⟩ := h1
  obtain ⟨A2, c2, rfl, -, hh2⟩ := h2
  rcases Nat.eq_zero_or_pos l.length with h0 | hpos
  · rw [h0]
    clear hh1 hh2 hl hb
    go_enter Try.func13, Try.ntmps13
    go_wp2
    go_loopw [5] (fun i wr => i = .int .i64 0 ∧ w = wr) (fun _ _ => 0)
    case atStart => exact ⟨rfl, rfl⟩
    case round =>
      obtain ⟨rfl, rfl⟩ := hrel
      go_wp2
      go_ret
      exact ⟨rfl, Only.refl _ _⟩
  · obtain ⟨g1, o1, rfl, hc1⟩ := hh1 hpos
    obtain ⟨g2, o2, rfl, hc2⟩ := hh2 hpos
    have HC1 := Lib.hid hc1
    have HC2 := Lib.hid hc2
    have HB := Lib.hid hb
    clear hh1 hh2 hc1 hc2 hb
    obtain ⟨L, hL⟩ : ∃ L, l.length = L := ⟨_, rfl⟩
    rw [hL] at hl hpos ⊢
    have HL := Lib.hid hL
    clear hL
    go_enter Try.func13, Try.ntmps13
    go_wp2
    go_loopw [5] (fun i wr => ∃ k : Nat, k ≤ L ∧ i = .int .i64 k ∧ Only (fun _ => False) w wr) (fun i _ => L - (intOf i).toNat)
    case atStart => exact ⟨0, by omega, rfl, Only.refl _ _⟩
    case round =>
      obtain ⟨k, hk, rfl, ho⟩ := hrel
      have HO := Lib.hid ho
      clear ho
      by_cases hkl : k < L
      · have hkb : k < l.length := by rw [HL.out]; exact hkl
        obtain ⟨p, hp⟩ : ∃ p, l[k]? = some p := ⟨_, List.getElem?_eq_getElem hkb⟩
        obtain ⟨u1, hq1, hs1⟩ := HC1.out k p hp
        obtain ⟨u2, hq2, hs2⟩ := HC2.out k p hp
        have Q1 := Lib.hid (hq1.only HO.out)
        have Q2 := Lib.hid (hq2.only HO.out)
        have S1 := Lib.hid (hs1.of_only HO.out)
        have S2 := Lib.hid (hs2.of_only HO.out)
        have PB := Lib.hid (HB.out p (List.mem_of_getElem? hp))
        have hkI : (k : Int) < (L : Int) := by omega
        clear hq1 hq2 hs1 hs2 hp hkb
        go_upto_region 6 with (fail)
        refine wp_region_posts [[], [], [0, 1], [2, 0, 1], [3, 2, 0, 1], [], [], [5, 6], [7, 5, 6], [4, 8, 3, 2, 0, 1, 7, 5, 6], [9, 4, 8, 3, 2, 0, 1, 7, 5, 6]] [4, 9] [4] [[], [], [], [], [], [], [], [], [], [], []] [[], [], [], [], [], [], [], [], [], [4], []] [] [] [] []
            [some ?v0, some ?v1, some ?v2, some ?v3, none, some ?v5, some ?v6, some ?v7, some ?v8, some (.bool true), some ?v10]
            ?T (fun wx => (CellsAt wx g1 o1 k p u1 ∧ CellsAt wx g2 o2 k p u2) ∧ Only (fun _ => False) wr wx) ?W ?E (by kernel_rfl) (by kernel_rfl) (by kernel_rfl) (fun x => ?hT) ?hF ?hini (Reg.all_ops ?runs) ?pres ?fin
        case W => exact fun j x w' => match j with | 4 => ∃ A c, x 4 = .agg #[.int .u8 (p.count : Nat), .int .u8 (p.kind : Nat), .slice A p.body.length c, .int .u8 (p.pad : Nat)] ∧ Src w' (.slice A p.body.length c) p.body | _ => True
        case E => exact fun _ w' w'' => Only (fun _ => False) w' w''
        case hT =>
          simp only [Reg.fillV, Act.put, List.setIfInBounds_toArray, List.set_cons_zero, List.set_cons_succ]
          rfl
        case runs =>
          refine And.intro ?_ ?_
          · refine Reg.ob_pure (fun _ => rfl) rfl rfl rfl rfl (fun x w1 hF => ?_)
            obtain ⟨⟨⟨g0, g1, g2, g3⟩, ⟨g4, g5, g6, g7⟩⟩, hO⟩ := hF
            go_simp
            with_reducible rfl
          refine And.intro ?_ ?_
          · refine Reg.ob_pure (fun _ => rfl) rfl rfl rfl rfl (fun x w1 hF => ?_)
            obtain ⟨⟨⟨g0, g1, g2, g3⟩, ⟨g4, g5, g6, g7⟩⟩, hO⟩ := hF
            go_simp
            with_reducible rfl
          refine And.intro ?_ ?_
          · refine Reg.ob_pure (fun _ => rfl) rfl rfl rfl rfl (fun x w1 hF => ?_)
            obtain ⟨⟨⟨g0, g1, g2, g3⟩, ⟨g4, g5, g6, g7⟩⟩, hO⟩ := hF
            go_simp
            with_reducible rfl
          refine And.intro ?_ ?_
          · refine Reg.ob_pure (fun _ => rfl) rfl rfl rfl rfl (fun x w1 hF => ?_)
            obtain ⟨⟨⟨g0, g1, g2, g3⟩, ⟨g4, g5, g6, g7⟩⟩, hO⟩ := hF
            go_simp
            with_reducible rfl
          refine And.intro ?_ ?_
          · refine Reg.ob_some (fun _ => rfl) rfl (fun x w1 hF hU K hK => ?_)
            obtain ⟨⟨h1, h2⟩, hO⟩ := hF rfl
            go_simp
            refine (docs_rtcp p u1 w1 (S1.out.of_only hO) PB.out).mono ?_
            rintro e w3 ⟨A, c, rfl, hown, ho⟩
            exact hK _ w3 (fun _ _ _ => ⟨⟨h1.only ho, h2.only ho⟩, only_more hO ho⟩) ho ⟨A, c, rfl, Src.of_own hown⟩
          refine And.intro ?_ ?_
          · refine Reg.ob_pure (fun _ => rfl) rfl rfl rfl rfl (fun x w1 hF => ?_)
            obtain ⟨⟨⟨g0, g1, g2, g3⟩, ⟨g4, g5, g6, g7⟩⟩, hO⟩ := hF
            go_simp
            with_reducible rfl
          refine And.intro ?_ ?_
          · refine Reg.ob_pure (fun _ => rfl) rfl rfl rfl rfl (fun x w1 hF => ?_)
            obtain ⟨⟨⟨g0, g1, g2, g3⟩, ⟨g4, g5, g6, g7⟩⟩, hO⟩ := hF
            go_simp
            with_reducible rfl
          refine And.intro ?_ ?_
          · refine Reg.ob_pure (fun _ => rfl) rfl rfl rfl rfl (fun x w1 hF => ?_)
            obtain ⟨⟨⟨g0, g1, g2, g3⟩, ⟨g4, g5, g6, g7⟩⟩, hO⟩ := hF
            go_simp
            with_reducible rfl
          refine And.intro ?_ ?_
          · refine Reg.ob_pure (fun _ => rfl) rfl rfl rfl rfl (fun x w1 hF => ?_)
            obtain ⟨⟨⟨g0, g1, g2, g3⟩, ⟨g4, g5, g6, g7⟩⟩, hO⟩ := hF
            go_simp
            with_reducible rfl
          refine And.intro ?_ ?_
          · refine Reg.ob_known (fun _ => rfl) rfl rfl (fun x w1 hF hU K hK => ?_)
            obtain ⟨⟨h1, h2⟩, hO⟩ := hF rfl
            obtain ⟨⟨A, c, h4, hsr⟩, -⟩ := hU
            have h4 : x 4 = .agg #[.int .u8 (p.count : Nat), .int .u8 (p.kind : Nat), .slice A p.body.length c, .int .u8 (p.pad : Nat)] := h4
            revert hK
            simp only [Nat.reduceAdd, h4]
            intro hK
            go_simp
            refine (rsame_pk p.count p.kind p.pad p.body (.slice A p.body.length c) u2 w1 hsr (S2.out.of_only hO) PB.out).mono ?_
            rintro e w3 ⟨rfl, ho⟩
            exact hK w3 (fun _ _ _ => ⟨⟨h1.only ho, h2.only ho⟩, only_more hO ho⟩) ho
          refine And.intro ?_ ?_
          · refine Reg.ob_pure (fun _ => rfl) rfl rfl rfl rfl (fun x w1 hF => ?_)
            obtain ⟨⟨⟨g0, g1, g2, g3⟩, ⟨g4, g5, g6, g7⟩⟩, hO⟩ := hF
            go_simp
            with_reducible rfl
          exact trivial
        case hF =>
          exact ⟨⟨Q1.out.only (only_drewN wr 1), Q2.out.only (only_drewN wr 1)⟩, only_drewN wr 1⟩
        case hini =>
          exact trivial
        case pres =>
          intro i hi j hj hc x w1 w2 hF hE hW
          simp only [List.mem_cons, List.mem_nil_iff, or_false] at hj
          subst hj
          obtain ⟨A, c, h4, hsr⟩ := hW
          have hE : Only (fun _ => False) w1 w2 := hE
          exact ⟨A, c, h4, hsr.of_only hE⟩
        case fin =>
          rintro x w9 hF -
          obtain ⟨-, hO⟩ := hF rfl
          go_wp2
          exact ⟨⟨k + 1, by omega, by go_num, only_more HO.out hO⟩, by simp [intOf]; omega⟩
      · have hkl : k = L := by omega
        subst hkl
        go_wp2
        go_ret
        exact ⟨rfl, HO.out⟩
end Go.Proofs.Ytefcimkopgcagaa
