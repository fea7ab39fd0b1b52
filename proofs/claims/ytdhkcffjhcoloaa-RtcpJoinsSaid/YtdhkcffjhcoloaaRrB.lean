/- easelref06.Split: its walk. Conditions: as it says. -/
import Derived.Test.YtdhkcffjhcoloaaRcD
import Derived.Test.YtdhkcffjhcoloaaRrA
set_option linter.unusedVariables false
namespace Go.Proofs.Ytdhkcffjhcoloaa
open Go.RowKit

theorem Try.infoRp : (Try.prog.info? 38).map (fun i => (i.zero, i.size, i.bytes)) = some (some (.agg zeroP), 4, 40) := by kernel_rfl
theorem Try.sizeRp : (Try.prog.info? 38).map (·.size) = some 4 := by kernel_rfl
theorem sty_rp : Sty 25 38 4 40 := by
  obtain ⟨i0, hi, hz0, hz1, hz2⟩ := info_parts Try.infoRp
  exact ⟨Try.underlying25, ⟨i0, _, hi, hz0, hz1, hz2, rfl⟩, by decide⟩
theorem wpList_append_pk {ops : Array Oper} {rest : List Oper} {o : Oper} {a : Act} {Q : Exit → Act → World → Prop} {t T : TypeId} (st : Sty t T 4 40) (wr : World) (hgd : o.guard = none) (s x : Operand)
    (ho : o.op = .call { callee := .builtin .append, args := #[s, x], argTypes := #[t, t] })
    (B : Nat) (v : Value) (xss : List (List Value)) (p : Pkt) (u : Value) (hu : ∃ A n c, u = .slice A n c) (hs : a.eval s = v) (hown : OwnS wr B T 4 v xss)
    (hx : a.eval x = .slice (some ⟨wr.heap.size, 0, none⟩) 1 1) (hl : xss.length ≤ 100000) (hB : B ≤ wr.heap.size)
    (h : ∀ v' w', OwnS w' B T 4 v' (xss ++ [p.lst u]) → Only (fun k => v.ownBlock = some k) wr w' → wpList Try.prog ops Q rest (a.put o.dst v') w') :
    wpList Try.prog ops Q (o :: rest) a (wr.alloc (.cells #[.int .u8 (p.count : Nat), .int .u8 (p.kind : Nat), u, .int .u8 (p.pad : Nat)] T)) :=
  wpList_append_struct _ hgd s x st ho B v xss hs (hown.only ((Only.refl (fun _ => False) wr).alloc _) (by simp)) wr.heap.size (p.lst u) hx (Is.made wr _ _) rfl (by obtain ⟨A, n, c, rfl⟩ := hu; simp [Pkt.lst, Value.oneCell']) hl (by decide) (by simp; omega)
    (fun v' w' h1 h2 => h v' w' h1 (((Only.refl _ wr).alloc _).trans h2 (fun i hi e => e)))

set_option maxRecDepth 100000 in
set_option maxHeartbeats 8000000 in
theorem rsplit_is (v : Value) (bs : List Nat) (w : World) (hs : Src w v bs) (hb : ∀ x ∈ bs, x < 256) (hl : bs.length ≤ 100000) :
    Calls Try.prog 21 #[v] w (SplitEnd 38 (spl true bs) w) := by
  obtain ⟨A, c, rfl⟩ := hs.slice
  have HS := Lib.hid hs
  have HB := Lib.hid hb
  clear hs hb
  obtain ⟨L, hL⟩ : ∃ L, bs.length = L := ⟨_, rfl⟩
  rw [hL] at hl ⊢ HS
  have HL := Lib.hid hL
  clear hL
  go_enter Try.func21, Try.ntmps21
  go_wp2
  go_loopw [4, 5] (fun s4 s5 wr => ∃ (k : Nat) (done : List Pkt) (vs : List Value), s5 = .int .i64 k ∧ k ≤ L ∧ (done.length = 0 ↔ k = 0) ∧ Spl 38 bs w (bs.drop k) done vs s4 wr) (fun _ s5 _ => L - (intOf s5).toNat)
  case atStart =>
    exact ⟨0, [], [], rfl, by omega, by simp, Pks.nil _ _ _, Only.refl _ _, HB.out, by simp, by simp⟩
  case round =>
    obtain ⟨k, done, vs, rfl, hk, hdk, hspl⟩ := hrel
    obtain ⟨A4, c4, rfl, -⟩ := hspl.pks.slice
    obtain ⟨rest, hrest⟩ : ∃ r, bs.drop k = r := ⟨_, rfl⟩
    have HRT := Lib.hid hrest
    have hrl : rest.length = L - k := by rw [← hrest, List.length_drop, HL.out]
    have HRL := Lib.hid hrl
    rw [hrest] at hspl
    have HP := Lib.hid hspl
    have hlen := hspl.len
    rw [HL.out] at hlen
    have HLN := Lib.hid hlen
    clear hspl hrest hlen
    obtain ⟨lead, hlead⟩ : ∃ b, decide (done.length = 0) = b := ⟨_, rfl⟩
    have zk : ((k : Int) == 0) = lead := by
      rw [← hlead, Bool.eq_iff_iff, beq_iff_eq, decide_eq_true_iff, hdk]
      omega
    have HLD := Lib.hid hlead
    clear hlead hdk
    by_cases h4 : rest.length < 4
    · by_cases hend : lead = false ∧ rest.length = 0
      · obtain ⟨rfl, hr0⟩ := hend
        have zr : decide (k < L) = false := decide_eq_false (by omega)
        have HEQ := Lib.hid (show spl true bs = (0, done) from by rw [HP.out.eq, HLD.out, List.eq_nil_of_length_eq_zero hr0, spl_end, List.append_nil])
        clear hl hk h4 hr0 hrl
        go_wp2
        go_ret2
        rw [HEQ.out]
        exact ⟨HP.out.pure, .inr ⟨rfl, _, vs, rfl, HP.out.pks⟩⟩
      · have he : oneErr rest lead = 10 := by unfold oneErr; rw [if_pos h4]
        have HEQ := Lib.hid (show (spl true bs).1 = 10 from by rw [HP.out.eq, HLD.out, spl_bad hend (by rw [he]; decide), he])
        have zs : IntKind.i64.wrap ((L : Int) - (k : Int)) = (L : Int) - (k : Int) := IntWalk.i64_in _ (by omega)
        have z4 : decide ((L : Int) - (k : Int) < 4) = true := decide_eq_true (by omega)
        have hways : decide (k < L) = true ∨ (decide (k < L) = false ∧ lead = true) := by
          by_cases hkl : k < L
          · exact .inl (decide_eq_true (by omega))
          · right
            refine ⟨decide_eq_false (by omega), ?_⟩
            cases lead
            · exact absurd ⟨rfl, by omega⟩ hend
            · rfl
        clear hend he h4 hrl
        rcases hways with z1 | ⟨z1, rfl⟩
        all_goals
          go_wp2
          go_ret2
          exact ⟨HP.out.pure, .inl ⟨by rw [HEQ.out]; decide, by rw [HEQ.out]; rfl⟩⟩
    · have hk4 : k + 4 ≤ L := by omega
      have hcap := HS.out
      rw [← HL.out] at hcap
      obtain ⟨g, o, c', e1, hlc, hc⟩ := hcap.cap (by rw [HL.out]; omega)
      injection e1 with e1 _ e3
      subst e1 e3
      rw [HL.out] at hlc
      have HC := Lib.hid (show ∀ i, i < L → wr.cell? ⟨g, o + i, none⟩ = some (.int .u8 (bt bs i : Nat)) from fun i hi => by
        have hi' : i < bs.length := by rw [HL.out]; exact hi
        have q := hc i hi'
        rw [bt_get hi', ← q]
        exact HP.out.pure.cell (World.block_lt_of_cell? w _ q) (by simp))
      have HBT := Lib.hid (show ∀ i, bt bs i < 256 from fun i => bt_lt HB.out i)
      have B0 : bt rest 0 = bt bs k := by rw [← HRT.out, bt_drop]; rfl
      have B1 : bt rest 1 = bt bs (k + 1) := by rw [← HRT.out, bt_drop]
      have B2 : bt rest 2 = bt bs (k + 2) := by rw [← HRT.out, bt_drop]
      have B3 : bt rest 3 = bt bs (k + 3) := by rw [← HRT.out, bt_drop]
      have q0 := HC.out k (by omega)
      have q1 := HC.out (k + 1) (by omega)
      have q01 := HC.out 1 (by omega)
      have b0 := HBT.out k
      have b1 := HBT.out (k + 1)
      rw [← B0] at q0 b0
      rw [← B1] at q1 b1
      have HQ1 := Lib.hid q1
      have zkl : decide (k < L) = true := decide_eq_true (by omega)
      have zs : IntKind.i64.wrap ((L : Int) - (k : Int)) = (L : Int) - (k : Int) := IntWalk.i64_in _ (by omega)
      have z4 : decide ((L : Int) - (k : Int) < 4) = false := decide_eq_false (by omega)
      have hne : ¬ (lead = false ∧ rest.length = 0) := fun h => by have := h.2; omega
      have HNE := Lib.hid hne
      obtain ⟨er, her⟩ : ∃ e, oneErr rest lead = e := ⟨_, rfl⟩
      have HER := Lib.hid her
      have HER2 := Lib.hid (show er = if bt rest 0 / 64 ≠ 2 then 20 else if (lead && !(bt rest 1 == 200 || bt rest 1 == 201)) = true then 60 else if rest.length < oneSz rest then 61 else if padFlag rest = true ∧ (padOk (oneBody rest) = false ∨ oneSz rest < rest.length) then 21 else 0 from by rw [← her]; unfold oneErr; rw [if_neg h4])
      clear her hne hc hcap q1
      go_upto_if 20 with (fail)
      by_cases hv : bt rest 0 / 64 = 2
      · have zv : (((bt rest 0 : Nat) : Int) / 64 != 2) = false := by simp; omega
        have HE2 := Lib.hid (show er = if (lead && !(bt rest 1 == 200 || bt rest 1 == 201)) = true then 60 else if rest.length < oneSz rest then 61 else if padFlag rest = true ∧ (padOk (oneBody rest) = false ∨ oneSz rest < rest.length) then 21 else 0 from by rw [HER2.out, if_neg (by omega)])
        have HV := Lib.hid hv
        clear hv HER2
        go_upto_region 8 with (fail)
        go_cut [40] (fun st wx => st = .bool (lead && !(bt rest 1 == 200 || bt rest 1 == 201)) ∧ wx = wr)
        case first =>
          cases lead
          · go_wp2_with fail
            go_meet
            exact ⟨rfl, rfl⟩
          · have k0 : k = 0 := by simpa using zk
            have b01 : bt rest 1 = bt bs 1 := by rw [B1, k0]
            have HB01 := Lib.hid b01
            have x1 : 1 < L := by omega
            have x1' : (1 : Int) < (L : Int) := by omega
            have e0 : (((bt bs 1 : Nat) : Int) != 200) = !(bt bs 1 == 200) := by rw [Bool.eq_iff_iff]; simp; omega
            have e1 : (((bt bs 1 : Nat) : Int) != 201) = !(bt bs 1 == 201) := by rw [Bool.eq_iff_iff]; simp; omega
            generalize hx0 : (bt bs 1 == 200) = x0 at *
            generalize hx1 : (bt bs 1 == 201) = x1 at *
            have HX0 := Lib.hid hx0
            have HX1 := Lib.hid hx1
            clear hx0 hx1 b01 B1 k0
            cases x0 <;> cases x1 <;> (go_wp2_with fail; go_meet; exact ⟨by rw [HB01.out, HX0.out, HX1.out]; rfl, rfl⟩)
        case rest =>
          obtain ⟨rfl, hwc⟩ := hcut
          subst hwc
          generalize wc = wr at *
          clear q01
          go_upto_if 40 with (fail)
          by_cases hF : (lead && !(bt rest 1 == 200 || bt rest 1 == 201)) = true
          · rw [hF]
            have h60 : er = 60 := by rw [HE2.out, if_pos hF]
            subst h60
            have HEQ := Lib.hid (show (spl true bs).1 = 60 from by rw [HP.out.eq, HLD.out, spl_bad HNE.out (by rw [HER.out]; decide), HER.out])
            clear hF
            go_wp2
            go_ret2
            exact ⟨HP.out.pure, .inl ⟨by rw [HEQ.out]; decide, by rw [HEQ.out]; rfl⟩⟩
          · rw [show (lead && !(bt rest 1 == 200 || bt rest 1 == 201)) = false from by simpa using hF]
            have HE3 := Lib.hid (show er = if rest.length < oneSz rest then 61 else if padFlag rest = true ∧ (padOk (oneBody rest) = false ∨ oneSz rest < rest.length) then 21 else 0 from by rw [HE2.out, if_neg hF])
            clear hF HE2
            have hw16 : w16 rest < 65536 := by
              unfold w16
              have := HBT.out (k + 2)
              have := HBT.out (k + 3)
              omega
            have hvu : vu ((bs.drop (k + 2)).take 2) = w16 rest := by
              rw [vu2 _ (by rw [List.length_take, List.length_drop, HL.out]; omega), bt_take (by decide), bt_take (by decide), bt_drop, bt_drop]
              unfold w16
              rw [B2, B3]
            have HVU := Lib.hid hvu
            clear hvu B0 B1 B2 B3
            go_wp2_with fail
            refine (value_is _ ((bs.drop (k + 2)).take 2) _ (src_cut (c := 0) (k + 2) 2 (HS.out.of_only HP.out.pure).cells_at (by rw [HL.out]; omega) rfl (by omega)) (fun x hx => HB.out x (List.mem_of_mem_drop (List.mem_of_mem_take hx))) (by rw [List.length_take]; omega)).mono ?_
            rw [HVU.out]
            rintro e wy ⟨rfl, rfl⟩
            obtain ⟨sz, hsz⟩ : ∃ sz, 4 + 4 * w16 rest = sz := ⟨_, rfl⟩
            have e1 : (k : Int) + 4 + 4 * ((w16 rest : Nat) : Int) = ((k + sz : Nat) : Int) := by omega
            have hszb : sz ≤ 262144 := by omega
            have hosz : oneSz rest = sz := hsz
            have HW16 := Lib.hid (show 4 * w16 rest = sz - 4 from by omega)
            have HSZ := Lib.hid hosz
            have HS4 := Lib.hid (show 4 ≤ sz from by omega)
            have s1 : IntKind.i64.wrap (4 * (w16 rest : Int)) = 4 * (w16 rest : Int) := IntWalk.i64_in _ (by omega)
            have s2 : IntKind.i64.wrap ((k : Int) + 4 + 4 * (w16 rest : Int)) = ((k + sz : Nat) : Int) := by rw [← e1]; exact IntWalk.i64_in _ (by omega)
            rw [hosz] at HE3
            generalize w16 rest = wd at *
            clear hsz hosz
            go_upto_if 56 with (fail)
            by_cases h61 : rest.length < sz
            · have z61 : decide ((L : Int) < (k : Int) + (sz : Int)) = true := decide_eq_true (by omega)
              have z61' : decide (L < k + sz) = true := decide_eq_true (by omega)
              have z61'' : ((L : Int) < (k : Int) + (sz : Int)) := by omega
              have he : er = 61 := by rw [HE3.out, if_pos h61]
              subst he
              have HEQ := Lib.hid (show (spl true bs).1 = 61 from by rw [HP.out.eq, HLD.out, spl_bad HNE.out (by rw [HER.out]; decide), HER.out])
              clear h61
              go_wp2
              go_ret2
              exact ⟨HP.out.pure, .inl ⟨by rw [HEQ.out]; decide, by rw [HEQ.out]; rfl⟩⟩
            · have z61 : decide ((L : Int) < (k : Int) + (sz : Int)) = false := decide_eq_false (by omega)
              have z61' : decide (L < k + sz) = false := decide_eq_false (by omega)
              have z61'' : ¬ ((L : Int) < (k : Int) + (sz : Int)) := by omega
              have HE4 := Lib.hid (show er = if padFlag rest = true ∧ (padOk (oneBody rest) = false ∨ sz < rest.length) then 21 else 0 from by rw [HE3.out, if_neg h61])
              have hsl : k + sz ≤ L := by omega
              clear h61 HE3
              have QQ := Lib.hid (show wr.cell? ⟨g, o + k, none⟩ = some (.int .u8 (bt rest 0 : Nat)) ∧ wr.cell? ⟨g, o + (k + 1), none⟩ = some (.int .u8 (bt rest 1 : Nat)) from ⟨q0, HQ1.out⟩)
              have GL := Lib.hid (show g < wr.heap.size from World.block_lt_of_cell? wr _ q0)
              have TM : Int.tmod ((bt rest 0 : Nat) : Int) 32 = ((bt rest 0 % 32 : Nat) : Int) := by
                rw [Int.tmod_eq_emod_of_nonneg (by omega)]
                omega
              have x0 : k < L := by omega
              have x0' : (k : Int) < (L : Int) := by omega
              have x1 : k + 1 < L := by omega
              have x1' : (k : Int) + 1 < (L : Int) := by omega
              have x1n : (0 : Int) ≤ (k : Int) + 1 := by omega
              have x1t : ((k : Int) + 1).toNat = k + 1 := by omega
              have x1w : IntKind.i64.wrap ((k : Int) + 1) = (k : Int) + 1 := IntWalk.i64_in _ (by omega)
              have HTM := Lib.hid TM
              clear q0 TM
              go_upto_region 13 with (fail)
              clear z61 z61' z61''
              refine wp_region_posts [[], [], [0, 1], [2, 0, 1], [3, 2, 0, 1], [], [], [6], [5, 7, 6], [8, 5, 7, 6], [4, 9, 3, 2, 0, 1, 8, 5, 7, 6], [], [11, 10, 0, 1, 2, 3, 4, 5, 6, 7, 8, 9]] [11, 12] [11, 12] [[], [], [], [], [], [], [], [], [], [], [], [], [11]] [[], [], [], [], [], [], [], [], [], [], [], [], [11]] [12] [] [] []
                  [some ?v0, some ?v1, some ?v2, some ?v3, some (.int .u8 (Int.tmod ((bt rest 0 : Nat) : Int) 32)), some ?v5, some ?v6, some ?v7, some ?v8, some ?v9, some (.agg #[.int .u8 (Int.tmod ((bt rest 0 : Nat) : Int) 32), .int .u8 ((bt rest 1 : Nat) : Int), .slice none 0 0, .int .u8 0]), none, none]
                  ?T (fun wx => (wx.cell? ⟨g, o + k, none⟩ = some (.int .u8 (bt rest 0 : Nat)) ∧ wx.cell? ⟨g, o + (k + 1), none⟩ = some (.int .u8 (bt rest 1 : Nat))) ∧ Only (fun _ => False) wr wx) ?W ?E (by kernel_rfl) (by kernel_rfl) (by kernel_rfl) (fun x => ?hT) ?hF ?hini (Reg.all_ops ?runs) ?pres ?fin
              case W => exact fun j x w' => match j with | 11 => ∃ pb, x 11 = .pointer (some ⟨pb, 0, none⟩) ∧ wr.heap.size ≤ pb ∧ Is w' pb 38 #[.int .u8 0, .int .u8 0, .slice none 0 0, .int .u8 0] | 12 => ∃ pb, x 11 = .pointer (some ⟨pb, 0, none⟩) ∧ wr.heap.size ≤ pb ∧ Is w' pb 38 #[.int .u8 (Int.tmod ((bt rest 0 : Nat) : Int) 32), .int .u8 ((bt rest 1 : Nat) : Int), .slice none 0 0, .int .u8 0] | _ => True
              case E => exact fun i w' w'' => match i with | 12 => True | _ => Only (fun _ => False) w' w''
              case hT =>
                simp only [Reg.fillV, Act.put, List.setIfInBounds_toArray, List.set_cons_zero, List.set_cons_succ]
                rfl
              case runs =>
                refine And.intro ?_ ?_
                · refine Reg.ob_pure (fun _ => rfl) rfl rfl rfl rfl (fun x w1 hF => ?_)
                  obtain ⟨⟨hq0, hq1⟩, hO⟩ := hF
                  go_simp
                  with_reducible rfl
                refine And.intro ?_ ?_
                · refine Reg.ob_pure (fun _ => rfl) rfl rfl rfl rfl (fun x w1 hF => ?_)
                  obtain ⟨⟨hq0, hq1⟩, hO⟩ := hF
                  go_simp
                  with_reducible rfl
                refine And.intro ?_ ?_
                · refine Reg.ob_pure (fun _ => rfl) rfl rfl rfl rfl (fun x w1 hF => ?_)
                  obtain ⟨⟨hq0, hq1⟩, hO⟩ := hF
                  go_simp
                  with_reducible rfl
                refine And.intro ?_ ?_
                · refine Reg.ob_pure (fun _ => rfl) rfl rfl rfl rfl (fun x w1 hF => ?_)
                  obtain ⟨⟨hq0, hq1⟩, hO⟩ := hF
                  go_simp
                  with_reducible rfl
                refine And.intro ?_ ?_
                · refine Reg.ob_pure (fun _ => rfl) rfl rfl rfl rfl (fun x w1 hF => ?_)
                  obtain ⟨⟨hq0, hq1⟩, hO⟩ := hF
                  go_simp
                refine And.intro ?_ ?_
                · refine Reg.ob_pure (fun _ => rfl) rfl rfl rfl rfl (fun x w1 hF => ?_)
                  obtain ⟨⟨hq0, hq1⟩, hO⟩ := hF
                  go_simp
                  with_reducible rfl
                refine And.intro ?_ ?_
                · refine Reg.ob_pure (fun _ => rfl) rfl rfl rfl rfl (fun x w1 hF => ?_)
                  obtain ⟨⟨hq0, hq1⟩, hO⟩ := hF
                  go_simp
                  with_reducible rfl
                refine And.intro ?_ ?_
                · refine Reg.ob_pure (fun _ => rfl) rfl rfl rfl rfl (fun x w1 hF => ?_)
                  obtain ⟨⟨hq0, hq1⟩, hO⟩ := hF
                  go_simp
                  with_reducible rfl
                refine And.intro ?_ ?_
                · refine Reg.ob_pure (fun _ => rfl) rfl rfl rfl rfl (fun x w1 hF => ?_)
                  obtain ⟨⟨hq0, hq1⟩, hO⟩ := hF
                  go_simp
                  with_reducible rfl
                refine And.intro ?_ ?_
                · refine Reg.ob_pure (fun _ => rfl) rfl rfl rfl rfl (fun x w1 hF => ?_)
                  obtain ⟨⟨hq0, hq1⟩, hO⟩ := hF
                  go_simp
                  with_reducible rfl
                refine And.intro ?_ ?_
                · refine Reg.ob_pure (fun _ => rfl) rfl rfl rfl rfl (fun x w1 hF => ?_)
                  go_simp
                refine And.intro ?_ ?_
                · refine Reg.ob_some (fun _ => rfl) rfl (fun x w1 hF hU K hK => ?_)
                  obtain ⟨⟨hq0, hq1⟩, hO⟩ := hF rfl
                  go_simp
                  have hk := hK (.pointer (some ⟨w1.heap.size, 0, none⟩)) (w1.alloc (.cells #[.int .u8 0, .int .u8 0, .slice none 0 0, .int .u8 0] 38)) (fun _ _ _ => ⟨⟨((Only.refl (fun _ => False) w1).alloc _ |>.cell (World.block_lt_of_cell? w1 _ hq0) (by simp)).trans hq0, ((Only.refl (fun _ => False) w1).alloc _ |>.cell (World.block_lt_of_cell? w1 _ hq1) (by simp)).trans hq1⟩, hO.alloc _⟩) ((Only.refl _ w1).alloc _) ⟨_, rfl, hO.size, Is.made _ _ _⟩
                  simp only [Act.put, List.setIfInBounds_toArray, List.set_cons_zero, List.set_cons_succ] at hk
                  exact hk
                refine And.intro ?_ ?_
                · refine Reg.ob_some (fun _ => rfl) rfl (fun x w1 hF hU K hK => ?_)
                  obtain ⟨⟨hq0, hq1⟩, hO⟩ := hF rfl
                  obtain ⟨⟨pb, h11, hpb, hI⟩, -⟩ := hU
                  have h11 : x 11 = .pointer (some ⟨pb, 0, none⟩) := h11
                  refine wp_store_row 38 _ _ rfl pb #[.int .u8 (Int.tmod ((bt rest 0 : Nat) : Int) 32), .int .u8 ((bt rest 1 : Nat) : Int), .slice none 0 0, .int .u8 0] (by simpa [Act.eval] using h11) rfl 38 _ hI Try.sizeRp rfl (by simp [Value.oneCell']) ?_
                  have ho : Only (fun j => j = pb) w1 (w1.setRow pb #[.int .u8 (Int.tmod ((bt rest 0 : Nat) : Int) 32), .int .u8 ((bt rest 1 : Nat) : Int), .slice none 0 0, .int .u8 0]) := Only.setRow (S := fun j => j = pb) (Only.refl _ w1) (fun _ => rfl) _
                  exact hK _ _ (fun _ _ _ => ⟨⟨(ho.cell (World.block_lt_of_cell? w1 _ hq0) (fun e => by have := GL.out; have e' : g = pb := e; omega)).trans hq0, (ho.cell (World.block_lt_of_cell? w1 _ hq1) (fun e => by have := GL.out; have e' : g = pb := e; omega)).trans hq1⟩, hO.trans ho (fun i hi e => by omega)⟩) trivial ⟨pb, h11, hpb, hI.setRow _⟩
                exact trivial
              case hF =>
                exact ⟨⟨QQ.out.1, QQ.out.2⟩, (Only.refl _ _).drewN 1⟩
              case hini =>
                exact trivial
              case pres =>
                intro i hi j hj hc x w1 w2 hF hE hW
                simp only [List.mem_cons, List.mem_nil_iff, or_false] at hi hj
                rcases hj with rfl | rfl <;> rcases hi with rfl | rfl
                all_goals first
                  | (exfalso; revert hc; decide)
                  | (obtain ⟨pb, h11, hpb, hI⟩ := hW; exact ⟨pb, h11, hpb, Is.only hI hE (fun h => h)⟩)
              case fin =>
                rintro x w1 hF ⟨⟨pb, h11, hpb, hI⟩, -⟩
                obtain ⟨-, hO⟩ := hF rfl
                have h11 : x 11 = .pointer (some ⟨pb, 0, none⟩) := h11
                rw [h11]
                rw [HTM.out] at hI
                have HLB := Lib.hid (show (oneBody rest).length = sz - 4 from by
                  have := HSZ.out
                  unfold oneSz at this
                  unfold oneBody
                  rw [List.length_take, List.length_drop]
                  omega)
                have HLP := Lib.hid (show 4 < sz → bt (oneBody rest) ((oneBody rest).length - 1) = bt bs (k + sz - 1) from fun h => by
                  have := HSZ.out
                  unfold oneSz at this
                  rw [HLB.out]
                  unfold oneBody
                  rw [bt_take (by omega), bt_drop, ← HRT.out, bt_drop]
                  congr 1
                  omega)
                have I1 := Lib.hid hI
                have O1 := Lib.hid hO
                have PB := Lib.hid hpb
                have q0 := (hO.cell (p := ⟨g, o + k, none⟩) GL.out (by simp)).trans QQ.out.1
                have e32 : ((((bt rest 0 : Nat) : Int) / 32 % 2) == 1) = padFlag rest := by unfold padFlag; rw [Bool.eq_iff_iff]; simp; omega
                clear hI hO h11 x1 x1' x1n x1t x1w
                go_upto_if 74 with (fail)
                clear q0 e32
                go_cut [] (fun wx => Is wx pb 38 #[.int .u8 ((bt rest 0 % 32 : Nat) : Int), .int .u8 (bt rest 1 : Nat), .slice none 0 0, .int .u8 (onePad rest : Nat)] ∧ Only (fun _ => False) wr wx ∧ ¬ (padFlag rest = true ∧ (padOk (oneBody rest) = false ∨ sz < rest.length)))
                case first =>
                  have HEP := Lib.hid (show onePad rest = if padFlag rest then bt (oneBody rest) ((oneBody rest).length - 1) else 0 from rfl)
                  have HPO := Lib.hid (show padOk (oneBody rest) = (decide (1 ≤ sz - 4) && decide (0 < bt (oneBody rest) ((oneBody rest).length - 1)) && (bt (oneBody rest) ((oneBody rest).length - 1) % 4 == 0) && decide (bt (oneBody rest) ((oneBody rest).length - 1) ≤ sz - 4)) from by unfold padOk; rw [HLB.out])
                  have HPF := Lib.hid (show ∀ er', er = er' → er' ≠ 0 → (spl true bs).1 = er' from fun er' h h0 => by rw [HP.out.eq, HLD.out, spl_bad HNE.out (by rw [HER.out, h]; exact h0), HER.out, h])
                  generalize onePad rest = pd at *
                  generalize bt (oneBody rest) ((oneBody rest).length - 1) = y at *
                  generalize padOk (oneBody rest) = ok at *
                  generalize hpf : padFlag rest = pf at *
                  cases pf
                  · go_wp2_with fail
                    go_meet
                    have hp0 : pd = 0 := HEP.out
                    subst hp0
                    exact ⟨I1.out, O1.out, by simp⟩
                  · have hpp : pd = y := HEP.out
                    have HPP := Lib.hid hpp
                    clear hpp
                    by_cases hbig : sz < rest.length
                    · have he : er = 21 := by rw [HE4.out, if_pos ⟨rfl, .inr hbig⟩]
                      have z1 : decide ((k : Int) + (sz : Int) < (L : Int)) = true := decide_eq_true (by omega)
                      have z1' : decide (k + sz < L) = true := decide_eq_true (by omega)
                      have HEQ := Lib.hid (HPF.out 21 he (by decide))
                      clear he hbig
                      go_wp2_with fail
                      go_ret2
                      exact ⟨only_more HP.out.pure O1.out, .inl ⟨by rw [HEQ.out]; decide, by rw [HEQ.out]; rfl⟩⟩
                    · have z1 : decide ((k : Int) + (sz : Int) < (L : Int)) = false := decide_eq_false (by omega)
                      have z1' : decide (k + sz < L) = false := decide_eq_false (by omega)
                      have z1'' : ¬ (k : Int) + (sz : Int) < (L : Int) := by omega
                      by_cases h4e : sz = 4
                      · have hok : ok = false := by rw [HPO.out, h4e]; simp
                        have he : er = 21 := by rw [HE4.out, if_pos ⟨rfl, .inl hok⟩]
                        have z2 : ((k : Int) + (sz : Int) == (k : Int) + 4) = true := by rw [beq_iff_eq]; omega
                        have HEQ := Lib.hid (HPF.out 21 he (by decide))
                        clear he h4e hok
                        go_wp2_with fail
                        go_ret2
                        exact ⟨only_more HP.out.pure O1.out, .inl ⟨by rw [HEQ.out]; decide, by rw [HEQ.out]; rfl⟩⟩
                      · have z2 : ((k : Int) + (sz : Int) == (k : Int) + 4) = false := by rw [beq_eq_false_iff_ne]; omega
                        have hyL := HLP.out (by omega)
                        have hyl : y ≤ 255 := by have := HBT.out (k + sz - 1); omega
                        have qy := (O1.out.cell (p := ⟨g, o + (k + sz - 1), none⟩) GL.out (by simp)).trans (HC.out (k + sz - 1) (by omega))
                        rw [← hyL] at qy
                        have x3 : k + sz - 1 < L := by omega
                        have x3' : (k : Int) + (sz : Int) - 1 < (L : Int) := by omega
                        have x3n : (0 : Int) ≤ (k : Int) + (sz : Int) - 1 := by omega
                        have x3t : ((k : Int) + (sz : Int) - 1).toNat = k + sz - 1 := by omega
                        have c3 := I1.out.cell 3
                        have f3 := I1.out.free 3
                        simp at c3
                        have HYL := Lib.hid hyL
                        clear hyL
                        go_upto_region 18 with (fail)
                        generalize hw2 : World.setCell w1 _ _ = w2
                        have I2 := Lib.hid (show Is w2 pb 38 #[.int .u8 ((bt rest 0 % 32 : Nat) : Int), .int .u8 (bt rest 1 : Nat), .slice none 0 0, .int .u8 (y : Nat)] from by rw [← hw2]; exact I1.out.put 3 _)
                        have O2 := Lib.hid (show Only (fun _ => False) wr w2 from by rw [← hw2]; exact Only.set (S := fun _ => False) (p := ⟨pb, 3, none⟩) O1.out (fun h => by have := PB.out; exact absurd h (by show ¬ pb < wr.heap.size; omega)) _)
                        have q3 := I2.out.cell 3
                        simp at q3
                        clear hw2 qy c3 f3 x3 x3' x3n x3t z1 z1' z1'' z2
                        have hbad : ok = false → (spl true bs).1 = 21 := fun h => HPF.out 21 (by rw [HE4.out, if_pos ⟨rfl, .inl h⟩]) (by decide)
                        have HBAD := Lib.hid hbad
                        clear hbad
                        by_cases y0 : y = 0
                        · have HEQ := Lib.hid (HBAD.out (by rw [HPO.out, y0]; simp))
                          have z3 : ((y : Int) == 0) = true := by rw [beq_iff_eq]; omega
                          clear y0
                          go_wp2_with fail
                          go_ret2
                          exact ⟨only_more HP.out.pure O2.out, .inl ⟨by rw [HEQ.out]; decide, by rw [HEQ.out]; rfl⟩⟩
                        · have z3 : ((y : Int) == 0) = false := by rw [beq_eq_false_iff_ne]; omega
                          by_cases y4 : y % 4 = 0
                          · have z4 : ((y : Int) % 4 != 0) = false := by simp; omega
                            have s4 : IntKind.i64.wrap ((k : Int) + (sz : Int) - (k : Int)) = (sz : Int) := by rw [IntWalk.i64_in _ (by omega)]; omega
                            by_cases yl : sz - 4 < y
                            · have HEQ := Lib.hid (HBAD.out (by rw [HPO.out, decide_eq_false (show ¬ y ≤ sz - 4 by omega)]; simp))
                              have z5 : decide ((sz : Int) - 4 < (y : Int)) = true := decide_eq_true (by omega)
                              have z6 : decide ((k : Int) + (sz : Int) - (k : Int) - 4 < (y : Int)) = true := decide_eq_true (by omega)
                              clear yl y4 y0
                              go_wp2_with fail
                              go_ret2
                              exact ⟨only_more HP.out.pure O2.out, .inl ⟨by rw [HEQ.out]; decide, by rw [HEQ.out]; rfl⟩⟩
                            · have hok : ok = true := by rw [HPO.out, decide_eq_true (show y ≤ sz - 4 by omega), decide_eq_true (show 0 < y by omega), decide_eq_true (show 1 ≤ sz - 4 by omega), y4]; rfl
                              have z5 : decide ((sz : Int) - 4 < (y : Int)) = false := decide_eq_false (by omega)
                              have z6 : decide ((k : Int) + (sz : Int) - (k : Int) - 4 < (y : Int)) = false := decide_eq_false (by omega)
                              have HOK := Lib.hid hok
                              have HNB := Lib.hid hbig
                              clear yl y4 y0 hok hbig
                              go_wp2_with fail
                              go_meet
                              rw [HPP.out]
                              exact ⟨I2.out, O2.out, fun h => h.2.elim (fun e => by rw [HOK.out] at e; cases e) HNB.out⟩
                          · have HEQ := Lib.hid (HBAD.out (by rw [HPO.out, show (y % 4 == 0) = false from by rw [beq_eq_false_iff_ne]; exact y4]; simp))
                            have z4 : ((y : Int) % 4 != 0) = true := by simp; omega
                            clear y4 y0
                            go_wp2_with fail
                            go_ret2
                            exact ⟨only_more HP.out.pure O2.out, .inl ⟨by rw [HEQ.out]; decide, by rw [HEQ.out]; rfl⟩⟩
                case rest =>
                  obtain ⟨hI, hO, hnb⟩ := hcut
                  generalize wc = w2 at *
                  have he : er = 0 := by rw [HE4.out, if_neg hnb]
                  have hpl : onePad rest ≤ sz - 4 ∧ onePad rest < 256 := by
                    unfold onePad
                    cases hpf : padFlag rest
                    · simp
                    · have hk : padOk (oneBody rest) = true := by
                        cases hk : padOk (oneBody rest)
                        · exact absurd ⟨hpf, .inl hk⟩ hnb
                        · rfl
                      unfold padOk at hk
                      simp only [Bool.and_eq_true, decide_eq_true_eq] at hk
                      have := HLB.out
                      have h0 : ∀ x ∈ oneBody rest, x < 256 := fun x hx => HP.out.bytes x (List.mem_of_mem_drop (List.mem_of_mem_take hx))
                      have := bt_lt h0 ((oneBody rest).length - 1)
                      simp only [if_true]
                      omega
                  obtain ⟨hpl1, hpl2⟩ := hpl
                  have LR := Lib.hid (show (oneRest rest).length = sz - 4 - onePad rest from by unfold oneRest; rw [List.length_take, HLB.out]; omega)
                  have HEQ := Lib.hid (show spl true bs = ((spl false (rest.drop sz)).1, (done ++ [pkOf rest]) ++ (spl false (rest.drop sz)).2) from by rw [HP.out.eq, HLD.out, spl_go HNE.out (by rw [HER.out, he]), HSZ.out]; simp)
                  have SR := Lib.hid (show ∀ wx, Only (fun _ => False) wr wx → ∀ n d, n = sz - 4 - onePad rest → n ≤ d → Src wx (.slice (some ⟨g, o + (k + 4), none⟩) n d) (oneRest rest) from fun wx hx n d hn hd => by
                    have h1 : oneRest rest = (bs.drop (k + 4)).take (sz - 4 - onePad rest) := by
                      have := HSZ.out
                      unfold oneSz at this
                      unfold oneRest
                      rw [HLB.out]
                      unfold oneBody
                      rw [show 4 * w16 rest = sz - 4 from by omega, ← HRT.out, List.take_take, List.drop_drop, Nat.min_eq_left (by omega)]
                    rw [h1]
                    exact src_cut (c := 0) (k + 4) (sz - 4 - onePad rest) (HS.out.of_only (only_more HP.out.pure hx)).cells_at (by rw [HL.out]; omega) hn (by omega))
                  have SZ2 := Lib.hid (show w.heap.size ≤ w2.heap.size from Nat.le_trans HP.out.pure.size hO.size)
                  have HPKT := Lib.hid (show pkOf rest = ⟨bt rest 0 % 32, bt rest 1, onePad rest, oneRest rest⟩ from rfl)
                  generalize onePad rest = pd at *
                  generalize bt rest 0 % 32 = cn at *
                  generalize bt rest 1 = kn at *
                  have I2 := Lib.hid hI
                  have O2 := Lib.hid hO
                  have Q2 := Lib.hid (hI.cell 2)
                  have Q3 := Lib.hid (hI.cell 3)
                  have x4 : (0 : Int) ≤ (k : Int) + 4 := by omega
                  have x4t : ((k : Int) + 4).toNat = k + 4 := by omega
                  have x4w : IntKind.i64.wrap ((k : Int) + 4) = (k : Int) + 4 := IntWalk.i64_in _ (by omega)
                  have x5 : (0 : Int) ≤ (k : Int) + (sz : Int) - (pd : Int) := by omega
                  have x5t : ((k : Int) + (sz : Int) - (pd : Int)).toNat = k + sz - pd := by omega
                  have x5w : IntKind.i64.wrap ((k : Int) + (sz : Int) - (pd : Int)) = (k : Int) + (sz : Int) - (pd : Int) := IntWalk.i64_in _ (by omega)
                  have x6 : (k : Int) + 4 ≤ (k : Int) + (sz : Int) - (pd : Int) := by omega
                  have x6' : k + 4 ≤ k + sz - pd := by omega
                  have x7 : (k : Int) + (sz : Int) - (pd : Int) ≤ (c : Int) := by omega
                  have x7' : k + sz - pd ≤ c := by omega
                  have x5p : IntKind.i64.wrap (pd : Int) = (pd : Int) := IntWalk.i64_in _ (by omega)
                  have x5u : k + sz - pd - (k + 4) = sz - 4 - pd := by omega
                  obtain ⟨a0, ha0, hsr0⟩ : ∃ a0 : Addr, (if c = k + 4 then some (⟨g, o, none⟩ : Addr) else some ⟨g, o + (k + 4), none⟩) = some a0 ∧ ∀ wx, Only (fun _ => False) wr wx → Src wx (.slice (some a0) (sz - 4 - pd) (c - (k + 4))) (oneRest rest) := by
                    by_cases hck : c = k + 4
                    · exact ⟨_, if_pos hck, fun wx _ => src_nil rfl (by omega) (List.eq_nil_of_length_eq_zero (by have := LR.out; omega))⟩
                    · exact ⟨_, if_neg hck, fun wx hx => SR.out wx hx _ _ rfl (by omega)⟩
                  have SR0 := Lib.hid hsr0
                  clear hI hO he hnb hsr0
                  go_upto_region 20 with (fail)
                  refine wp_region_posts [[], [0], [], [], [3], [], [], [6], [7, 6], [5, 8, 7, 6], [2, 4, 9, 3, 5, 8, 7, 6], [1, 10, 0, 2, 4, 9, 3, 5, 8, 7, 6], [0, 1, 2, 3, 4, 5, 6, 7, 8, 9, 10, 11], [12, 11, 0, 1, 2, 3, 4, 5, 6, 7, 8, 9, 10]] [11, 13] [11, 13] [[], [], [], [], [], [], [], [], [], [], [], [], [], [11]] [[], [], [], [], [], [], [], [], [], [], [], [], [], [11]] [13] [13] [] []
                      [some ?vb0, some ?vb1, some ?vb2, some ?vb3, some ?vb4, some ?vb5, some ?vb6, some ?vb7, some ?vb8, some ?vb9, some ?vb10, none, some ?vb12, none]
                      ?Tb (fun wx => ((wx.cell? ⟨pb, 2, none⟩ = some (.slice none 0 0) ∧ wx.cell? ⟨pb, 3, none⟩ = some (.int .u8 (pd : Nat))) ∧ Is wx pb 38 #[.int .u8 (cn : Nat), .int .u8 (kn : Nat), .slice none 0 0, .int .u8 (pd : Nat)]) ∧ Only (fun _ => False) w2 wx) ?Wb ?Eb (by kernel_rfl) (by kernel_rfl) (by kernel_rfl) (fun x => ?hTb) ?hFb ?hinib (Reg.all_ops ?runsb) ?presb ?finb
                  case Wb => exact fun j x w' => match j with | 11 => (∃ A c, x 11 = .slice A (oneRest rest).length c) ∧ w'.ownsRow w2.heap.size 5 1 (x 11) (oneRest rest).length (cellsOf (oneRest rest)) | 13 => (∃ A c, x 11 = .slice A (oneRest rest).length c) ∧ w'.ownsRow w2.heap.size 5 1 (x 11) (oneRest rest).length (cellsOf (oneRest rest)) ∧ Is w' pb 38 #[.int .u8 (cn : Nat), .int .u8 (kn : Nat), x 11, .int .u8 (pd : Nat)] ∧ Only (fun j => j = pb) w2 w' | _ => True
                  case Eb => exact fun i w' w'' => True
                  case hTb =>
                    simp only [Reg.fillV, Act.put, List.setIfInBounds_toArray, List.set_cons_zero, List.set_cons_succ]
                    rfl
                  case runsb =>
                    refine And.intro ?_ ?_
                    · refine Reg.ob_pure (fun _ => rfl) rfl rfl rfl rfl (fun x w1 hF => ?_)
                      obtain ⟨⟨⟨hq2, hq3⟩, hI⟩, hO⟩ := hF
                      go_simp
                      with_reducible rfl
                    refine And.intro ?_ ?_
                    · refine Reg.ob_pure (fun _ => rfl) rfl rfl rfl rfl (fun x w1 hF => ?_)
                      obtain ⟨⟨⟨hq2, hq3⟩, hI⟩, hO⟩ := hF
                      go_simp
                      with_reducible rfl
                    refine And.intro ?_ ?_
                    · refine Reg.ob_pure (fun _ => rfl) rfl rfl rfl rfl (fun x w1 hF => ?_)
                      obtain ⟨⟨⟨hq2, hq3⟩, hI⟩, hO⟩ := hF
                      go_simp
                      with_reducible rfl
                    refine And.intro ?_ ?_
                    · refine Reg.ob_pure (fun _ => rfl) rfl rfl rfl rfl (fun x w1 hF => ?_)
                      obtain ⟨⟨⟨hq2, hq3⟩, hI⟩, hO⟩ := hF
                      go_simp
                      with_reducible rfl
                    refine And.intro ?_ ?_
                    · refine Reg.ob_pure (fun _ => rfl) rfl rfl rfl rfl (fun x w1 hF => ?_)
                      obtain ⟨⟨⟨hq2, hq3⟩, hI⟩, hO⟩ := hF
                      go_simp
                      with_reducible rfl
                    refine And.intro ?_ ?_
                    · refine Reg.ob_pure (fun _ => rfl) rfl rfl rfl rfl (fun x w1 hF => ?_)
                      obtain ⟨⟨⟨hq2, hq3⟩, hI⟩, hO⟩ := hF
                      go_simp
                      with_reducible rfl
                    refine And.intro ?_ ?_
                    · refine Reg.ob_pure (fun _ => rfl) rfl rfl rfl rfl (fun x w1 hF => ?_)
                      obtain ⟨⟨⟨hq2, hq3⟩, hI⟩, hO⟩ := hF
                      go_simp
                      with_reducible rfl
                    refine And.intro ?_ ?_
                    · refine Reg.ob_pure (fun _ => rfl) rfl rfl rfl rfl (fun x w1 hF => ?_)
                      obtain ⟨⟨⟨hq2, hq3⟩, hI⟩, hO⟩ := hF
                      go_simp
                      with_reducible rfl
                    refine And.intro ?_ ?_
                    · refine Reg.ob_pure (fun _ => rfl) rfl rfl rfl rfl (fun x w1 hF => ?_)
                      obtain ⟨⟨⟨hq2, hq3⟩, hI⟩, hO⟩ := hF
                      go_simp
                      with_reducible rfl
                    refine And.intro ?_ ?_
                    · refine Reg.ob_pure (fun _ => rfl) rfl rfl rfl rfl (fun x w1 hF => ?_)
                      obtain ⟨⟨⟨hq2, hq3⟩, hI⟩, hO⟩ := hF
                      go_simp
                      with_reducible rfl
                    refine And.intro ?_ ?_
                    · refine Reg.ob_pure (fun _ => rfl) rfl rfl rfl rfl (fun x w1 hF => ?_)
                      obtain ⟨⟨⟨hq2, hq3⟩, hI⟩, hO⟩ := hF
                      go_simp
                      with_reducible rfl
                    refine And.intro ?_ ?_
                    · refine Reg.ob_some (fun _ => rfl) rfl (fun x w1 hF hU K hK => ?_)
                      obtain ⟨⟨⟨hq2, hq3⟩, hI⟩, hO⟩ := hF rfl
                      refine wp_append_src w1 (.tmp 111) (.tmp 120) rfl w2.heap.size (.slice none 0 0) [] rfl (World.ownsRow_nil _ _ _ _) _ (oneRest rest) rfl (SR0.out w1 (only_more O2.out hO)) (by simp only [List.length_nil]; have := LR.out; omega) hO.size ?_
                      intro v' w' hown hg
                      have ho : Only (fun _ => False) w1 w' := (Only.refl _ w1).grown hg (fun i hi _ => by simp [Value.ownBlock] at hi)
                      have hI' := hI.only ho (by simp)
                      have hown' : w'.ownsRow w2.heap.size 5 1 v' (oneRest rest).length (cellsOf (oneRest rest)) := by simpa [cellsOf] using hown
                      obtain ⟨A1, k1, rfl, -⟩ := own_slice hown'
                      exact hK _ w' (fun _ _ _ => ⟨⟨⟨hI'.cell 2, hI'.cell 3⟩, hI'⟩, only_more hO ho⟩) trivial ⟨⟨A1, k1, rfl⟩, hown'⟩
                    refine And.intro ?_ ?_
                    · refine Reg.ob_pure (fun _ => rfl) rfl rfl rfl rfl (fun x w1 hF => ?_)
                      obtain ⟨⟨⟨hq2, hq3⟩, hI⟩, hO⟩ := hF
                      go_simp
                      with_reducible rfl
                    refine And.intro ?_ ?_
                    · refine Reg.ob_some (fun _ => rfl) rfl (fun x w1 hF hU K hK => ?_)
                      obtain ⟨⟨⟨hq2, hq3⟩, hI⟩, hO⟩ := hF rfl
                      obtain ⟨⟨⟨A1, k1, h11⟩, hown⟩, -⟩ := hU
                      have h11 : x 11 = .slice A1 (oneRest rest).length k1 := h11
                      have hown : w1.ownsRow w2.heap.size 5 1 (x 11) (oneRest rest).length (cellsOf (oneRest rest)) := hown
                      have hf := hI.free 2
                      revert hK
                      simp only [Nat.reduceAdd, h11]
                      intro hK
                      go_simp
                      have hO' : Only (fun j => j = pb) w1 (w1.setCell ⟨pb, 2, none⟩ (.slice A1 (oneRest rest).length k1)) := Only.set (S := fun j => j = pb) (p := ⟨pb, 2, none⟩) (Only.refl _ w1) (fun _ => rfl) _
                      refine hK undef _ (fun _ h _ => by cases h) trivial ⟨⟨A1, k1, h11⟩, ?_, ?_, (hO.mono (fun _ _ h => h.elim)).trans hO' (fun i _ e => e)⟩
                      · have hu : (w1.setCell ⟨pb, 2, none⟩ (.slice A1 (oneRest rest).length k1)).ownsRow w2.heap.size 5 1 (x 11) (oneRest rest).length (cellsOf (oneRest rest)) := own_only hown hO' (fun q hq e => row_apart hI hown (by decide) (by rw [hq, e]))
                        exact hu
                      · have hJ : Is (w1.setCell ⟨pb, 2, none⟩ (.slice A1 (oneRest rest).length k1)) pb 38 #[.int .u8 (cn : Nat), .int .u8 (kn : Nat), x 11, .int .u8 (pd : Nat)] := by rw [h11]; exact hI.put 2 _
                        exact hJ
                    exact trivial
                  case hFb =>
                    exact ⟨⟨⟨Q2.out, Q3.out⟩, I2.out⟩, (Only.refl _ _).drewN 1⟩
                  case hinib =>
                    exact trivial
                  case presb =>
                    intro i hi j hj hc x w1 w2 hF hE hW
                    simp only [List.mem_cons, List.mem_nil_iff, or_false] at hi hj
                    rcases hj with rfl | rfl <;> rcases hi with rfl | rfl
                    all_goals (exfalso; revert hc; decide)
                  case finb =>
                    rintro x w1 - ⟨⟨⟨A1, k1, h11⟩, hown, hI, hO⟩, -⟩
                    have h11 : x 11 = .slice A1 (oneRest rest).length k1 := h11
                    have hown : w1.ownsRow w2.heap.size 5 1 (x 11) (oneRest rest).length (cellsOf (oneRest rest)) := hown
                    have hI : Is w1 pb 38 #[.int .u8 (cn : Nat), .int .u8 (kn : Nat), x 11, .int .u8 (pd : Nat)] := hI
                    have hO : Only (fun j => j = pb) w2 w1 := hO
                    simp only [Nat.reduceAdd, h11] at hown hI ⊢
                    have U3 := Lib.hid (own_only hown (Only.refl (fun _ => False) w1) (by simp))
                    have I3 := Lib.hid hI
                    have O3 := Lib.hid (show Only (fun _ => False) wr w1 from O2.out.trans hO (fun i hi e => by have := PB.out; omega))
                    have SZ3 := Lib.hid (show w.heap.size ≤ w1.heap.size from Nat.le_trans SZ2.out hO.size)
                    have LX := Lib.hid (show (List.zipWith Pkt.lst done vs).length ≤ 100000 from by rw [HP.out.pks.zip]; have := HLN.out; omega)
                    have ROW := Lib.hid (HP.out.pks.row.only O3.out (by simp))
                    clear hown hI hO h11 x4 x4t x4w x5 x5t x5w x6 x6' x7 x7' x5p x5u ha0
                    go_wp2_with (first | (refine wpList_load_want (o := ⟨some 124, _, _, _, _, _⟩) rfl _ _ rfl pb rfl _ _ _ I3.out Try.underlying38 rfl Try.sizeRp ?_) | (at_builtin; refine wpList_append_pk sty_rp _ rfl _ _ rfl w.heap.size (.slice A4 done.length c4) (List.zipWith Pkt.lst done vs) ⟨cn, kn, pd, oneRest rest⟩ (.slice A1 (oneRest rest).length k1) ⟨_, _, _, rfl⟩ rfl ROW.out rfl LX.out SZ3.out ?_; intro v4 w4 hr4 hp4))
                    have hne0 : ¬ k + sz = 0 := by have := HS4.out; omega
                    refine ⟨⟨k + sz, done ++ [pkOf rest], vs ++ [.slice A1 (oneRest rest).length k1], by go_num, hsl, ?_, ?_⟩, ?_⟩
                    · rw [List.length_append]
                      simp
                      omega
                    · have hn := spl_next (T := 38) (by decide) (p := pkOf rest) HP.out O3.out (owned_low U3.out O2.out.size) (Only.refl _ w1) (by rw [HPKT.out]; exact hr4) ⟨hp4.os, hp4.tape, hp4.output, hp4.size, hp4.same⟩ HS4.out (by omega) HEQ.out
                      rw [← List.drop_drop, HRT.out]
                      exact hn
                    · simp [intOf]
                      have := HS4.out
                      omega
      · have h20 : er = 20 := by rw [HER2.out, if_pos hv]
        subst h20
        have HEQ := Lib.hid (show (spl true bs).1 = 20 from by rw [HP.out.eq, HLD.out, spl_bad HNE.out (by rw [HER.out]; decide), HER.out])
        have zv : (((bt rest 0 : Nat) : Int) / 64 != 2) = true := by simp; omega
        go_wp2
        go_ret2
        exact ⟨HP.out.pure, .inl ⟨by rw [HEQ.out]; decide, by rw [HEQ.out]; rfl⟩⟩
end Go.Proofs.Ytdhkcffjhcoloaa
