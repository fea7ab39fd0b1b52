/- RosterPlays' walk. Conditions: as each says. -/
import Derived.Test.YtglgmhdajmncjaaRyR
set_option linter.unusedVariables false
set_option linter.unusedSimpArgs false
namespace Go.Proofs.Ytglgmhdajmncjaa
open Go Go.RowKit

/-- A row of calls that is read. -/
def RdC (w : World) (v : Value) (l : List A14) : Prop := ∃ A c, v = .slice A l.length c ∧ l.length ≤ c ∧ (0 < l.length → ∃ g o, A = some ⟨g, o, none⟩ ∧ ∀ (i : Nat) x, l[i]? = some x → w.rangeAt g (o + i * 5) x.cells)
/-- The program's roster and the reference's, side by side. -/
structure Sd (w : World) (n b mb xb : Nat) (r : Ro) (v : Value) (wx : World) : Prop where
  rs : Rs w b mb r (fun j => j = xb ∨ v.ownBlock = some j) wx
  own : OwnS wx w.heap.size 65 4 v (mbRows r.l)
  most : r.most = n
theorem Sd.go {w : World} {n b mb xb : Nat} {r : Ro} {v : Value} {wx wy : World} (h : Sd w n b mb xb r v wx) (ho : Only (fun _ => False) wx wy) : Sd w n b mb xb r v wy := ⟨h.rs.go ho, h.own.only ho (by simp), h.most⟩
/-- The reference's roster is stored. -/
theorem Sd.put {w : World} {n b mb xb : Nat} {r : Ro} {v : Value} {wx wy : World} (h : Sd w n b mb xb r v wx) (hx : w.heap.size ≤ xb) (hI : ∃ ds, Is wx xb 54 ds) (ho : Only (fun j => j = xb) wx wy) : Sd w n b mb xb r v wy := by
  obtain ⟨ds, hI⟩ := hI
  refine ⟨h.rs.wrote (ho.mono (fun _ _ e => .inl e)) (fun k hk => ?_), h.own.only ho (fun j hj e => owned_off h.own.1 hI (by decide) (by rw [hj, e])), h.most⟩
  rcases hk with e | e
  · omega
  · exact (h.own.lt k e).1
/-- The reference has answered. -/
theorem Sd.ans {w : World} {n b mb xb : Nat} {r' : Ro} {v v' : Value} {wx wy : World} (h : Rs w b mb r' (fun j => j = xb ∨ v.ownBlock = some j) wx) (hm : r'.most = n) (hw : OwnS wy w.heap.size 65 4 v' (mbRows r'.l)) (ho : Only (fun _ => False) wx wy) (hn : ∀ k, v'.ownBlock = some k → v.ownBlock = some k ∨ wx.heap.size ≤ k) : Sd w n b mb xb r' v' wy :=
  ⟨h.more ho (fun k hk => by
    rcases hk with e | e
    · exact .inl (.inl e)
    · rcases hn k e with q | q
      · exact .inl (.inr q)
      · exact .inr ⟨q, (hw.lt k e).2⟩), hw, hm⟩
theorem join_most (r : Ro) (m : Mb) : (r.join m).1.most = r.most := by
  unfold Ro.join
  repeat' split
  all_goals rfl
theorem leave_most (r : Ro) (id : Int) : (r.leave id).1.most = r.most := by
  unfold Ro.leave
  split <;> rfl
theorem sd_is {w : World} {n b mb xb : Nat} {r : Ro} {v : Value} {wx : World} (h : Sd w n b mb xb r v wx) (id : Int) (s : Nat) (hs : s < 4294967296) : Calls Try.prog 26 #[ptr b, rrV (n : Int) v, .int .i64 id, .int .u32 (s : Int)] wx (SaysR (.bool true) wx) := by
  rw [← h.most]
  exact rs_look h.rs fun vl h1 => mis_is _ b mb _ r vl v id s wx h1 h.rs.1 h.own hs
theorem sd_leave {w : World} {n b mb xb : Nat} {r : Ro} {id : Int} {v : Value} {wx : World} (h : Rs w b mb (r.leave id).1 (fun j => j = xb ∨ v.ownBlock = some j) wx) (hr : r.l.length ≤ 1000) (hm : r.most = n) (hv : OwnS wx w.heap.size 65 4 v (mbRows r.l)) (w1 : World) (ho : Only (fun _ => False) wx w1) :
    Calls Try.prog 22 #[rrV (n : Int) v, .int .i64 id] w1 (fun e w2 => ∃ v', e = .returned (.tuple #[rrV (n : Int) v', .int .i64 ((r.leave id).2 : Int)]) ∧ Sd w n b mb xb (r.leave id).1 v' w2 ∧ Only (fun _ => False) w1 w2) := by
  rw [← hm]
  refine (rleave14_is _ id r v w1 (hv.only ho (by simp)) hr (Nat.le_trans h.only.size ho.size)).mono ?_
  rintro e w2 ⟨v', rfl, h1, h2, h3⟩
  exact ⟨v', rfl, Sd.ans (h.go ho) (leave_most r id) h1 h2 h3, h2⟩
theorem sd_join {w : World} {n b mb xb : Nat} {r : Ro} {m : Mb} {v : Value} {wx : World} (h : Rs w b mb (r.join m).1 (fun j => j = xb ∨ v.ownBlock = some j) wx) (hr : r.l.length ≤ 1000) (hm : r.most = n) (hv : OwnS wx w.heap.size 65 4 v (mbRows r.l)) (w1 : World) (ho : Only (fun _ => False) wx w1) :
    Calls Try.prog 24 #[rrV (n : Int) v, mbV m] w1 (fun e w2 => ∃ v', e = .returned (.tuple #[rrV (n : Int) v', .int .i64 ((r.join m).2 : Int)]) ∧ Sd w n b mb xb (r.join m).1 v' w2 ∧ Only (fun _ => False) w1 w2) := by
  rw [← hm]
  refine (rjoin14_is _ m r v w1 (hv.only ho (by simp)) hr (Nat.le_trans h.only.size ho.size)).mono ?_
  rintro e w2 ⟨v', rfl, h1, h2, h3⟩
  exact ⟨v', rfl, Sd.ans (h.go ho) (join_most r m) h1 h2 h3, h2⟩
theorem sd_cell {w : World} {n b mb xb : Nat} {r : Ro} : ∀ (v' : Value) (wz : World), Sd w n b mb xb r v' wz → v'.oneCell' = true ∧ True := fun v' wz h => by
  obtain ⟨A, c, rfl, -⟩ := h.own.slice
  exact ⟨rfl, trivial⟩
set_option maxRecDepth 100000 in
set_option maxHeartbeats 16000000 in
theorem rplays14_walk (z id : Int) (s : Nat) (v : Value) (l : List A14) (w : World) (hs : s < 4294967296) (hv : RdC w v l) (hf : ∀ x ∈ l, x.m.Fits) :
    Calls Try.prog 5 #[.int .i64 z, v, .int .i64 id, .int .u32 (s : Int)] w (SaysR (.bool true) w) := by
  obtain ⟨A0, c0, rfl, hlc, hrow⟩ := hv
  have HROW := Lib.hid hrow
  have HFIT := Lib.hid hf
  have HS := Lib.hid hs
  obtain ⟨L, hL⟩ : ∃ L, l.length = L := ⟨_, rfl⟩
  have HL := Lib.hid hL
  rw [hL] at hlc ⊢
  clear hrow hf hL hs
  have HW := Lib.hid rworks_is
  by_cases h80 : L > 80
  · have h80I : (L : Int) > 80 := by omega
    go_enter Try.func5, Try.ntmps5
    go_wp2_with fail
    refine (HW.out _).mono ?_
    rintro e w1 ⟨rfl, ho⟩
    have HO := Lib.hid ho
    clear ho
    go_wp2
    go_ret
    exact ⟨rfl, HO.out⟩
  have h80I : ¬ (L : Int) > 80 := by omega
  by_cases hz : z < 0 ∨ 32 < z
  · have HN := Lib.hid (mnew_no z w hz)
    have HR := Lib.hid (rnew14_no z w hz)
    clear hz
    go_enter Try.func5, Try.ntmps5
    go_wp2_with fail
    refine HN.out.mono ?_
    rintro e w1 ⟨rfl, rfl⟩
    go_wp2_with fail
    refine HR.out.mono ?_
    rintro e w1 ⟨rfl, ho⟩
    have HO := Lib.hid ho
    clear ho HN HR
    go_wp2
    go_loopw [13] (fun s13 wr => s13 = .int .i64 0 ∧ Hid (Only (fun _ => False) w wr)) (fun _ _ => 0)
    case atStart => exact ⟨rfl, Lib.hid (HO.out.alloc _)⟩
    case round =>
      obtain ⟨rfl, hO⟩ := hrel
      by_cases h0 : (0 : Int) < (L : Int)
      · go_wp2_with fail
        refine (HW.out _).mono ?_
        rintro e w2 ⟨rfl, ho⟩
        have HO2 := Lib.hid (hO.out.trans ho (fun _ _ e => e))
        clear ho
        go_wp2
        go_ret
        exact ⟨rfl, HO2.out⟩
      · go_wp2_with fail
        refine (HW.out _).mono ?_
        rintro e w2 ⟨rfl, ho⟩
        have HO2 := Lib.hid (hO.out.trans ho (fun _ _ e => e))
        clear ho
        go_wp2
        go_ret
        exact ⟨rfl, HO2.out⟩
  obtain ⟨n, rfl⟩ : ∃ n : Nat, z = (n : Int) := ⟨z.toNat, by omega⟩
  have hn : n ≤ 32 := by omega
  have HN := Lib.hid (mnew_yes n w hn)
  have HR := Lib.hid (fun w => rnew14_yes n w hn)
  clear hz
  go_enter Try.func5, Try.ntmps5
  go_wp2_with fail
  refine HN.out.mono ?_
  rintro e w1 ⟨b, mb, rfl, h, ho⟩
  have H := Lib.hid (rs_new hn h ho)
  clear h ho HN
  go_wp2_with fail
  refine (HR.out w1).mono ?_
  rintro e w2 ⟨rfl, ho⟩
  replace H := Lib.hid (H.out.go ho)
  clear ho HR
  go_upto_region 5 with (fail)
  have ha := (Only.refl (fun _ => False) w2).alloc (.cells #[.int .i64 (n : Int), .slice none 0 0] 54)
  have I0 := Lib.hid (Is.made w2 54 #[.int .i64 (n : Int), .slice none 0 0])
  have HX := Lib.hid H.out.only.size
  have H0 := Lib.hid (show Sd w n b mb w2.heap.size ⟨n, []⟩ (.slice none 0 0) (w2.alloc (.cells #[.int .i64 (n : Int), .slice none 0 0] 54)) from
    ⟨H.out.more ha (fun k hk => by
      rcases hk with e | e
      · exact .inr (by rw [e]; simp)
      · cases e), OwnS.nil _ _ _ _, rfl⟩)
  generalize w2.alloc (.cells #[.int .i64 (n : Int), .slice none 0 0] 54) = w3 at *
  generalize w2.heap.size = xb at *
  clear ha H
  go_wp2
  go_loopw [13] (fun s13 wr => ∃ k : Nat, k ≤ L ∧ s13 = .int .i64 (k : Int) ∧ ∃ (r : Ro) (v : Value), Hid (Sd w n b mb xb r v wr ∧ Is wr xb 54 #[.int .i64 (n : Int), v])) (fun s13 _ => L - (intOf s13).toNat)
  case atStart => exact ⟨0, by omega, rfl, _, _, Lib.hid ⟨H0.out, I0.out⟩⟩
  case round =>
    obtain ⟨k, hk, rfl, r, v, hR⟩ := hrel
    have HSD := Lib.hid hR.out.1
    have HI := Lib.hid hR.out.2
    clear hR
    by_cases hkl : k < L
    · have hkI : (k : Int) < (L : Int) := by omega
      have hkx : k < l.length := by rw [HL.out]; exact hkl
      obtain ⟨g, o, hA, hcells⟩ := HROW.out (by omega)
      subst hA
      have hx : l[k]? = some l[k] := List.getElem?_eq_getElem hkx
      have HFX := Lib.hid (HFIT.out _ (List.getElem_mem hkx))
      have hGa : Ga g (o + k * 5) l[k] w := ⟨hcells k _ hx, World.block_lt_of_cell? _ _ (hcells k _ hx 0 _ rfl)⟩
      have HGA := Lib.hid hGa
      have HGW := Lib.hid (fun (wx : World) (h : Only (fun _ => False) w wx) => hGa.go h (by simp))
      generalize l[k] = x at *
      have a0 : wr.cell? ⟨g, o + k * 5, none⟩ = some (.bool x.lv) := range_cell (j := 0) (HGW.out wr HSD.out.rs.only).rg rfl
      have a1 : wr.cell? ⟨g, o + k * 5 + 1, none⟩ = some (.int .i64 x.m.id) := (HGW.out wr HSD.out.rs.only).c1
      have hgx : ¬ g = xb := by
        have := HGA.out.lt
        have := HX.out
        omega
      have HM := Lib.hid HSD.out.rs.small
      clear hcells hx hkx hGa
      cases hlv : x.lv with
      | true =>
        rw [hlv] at a0
        clear hlv
        go_wp2_with fail
        refine (rs_leave HSD.out.rs).mono ?_
        rintro e w4 ⟨rfl, h4, ho4⟩
        have H4 := Lib.hid h4
        have HI4 := Lib.hid (HI.out.only ho4 (by simp))
        have HV4 := Lib.hid (HSD.out.own.only ho4 (fun j hj e => e (.inr hj)))
        clear h4 ho4 a0 a1
        go_upto_region 13 with (fail)
        refine rp13 (n : Int) v g o k L c0 xb (r.leave x.m.id).2 x (fun v' wz => Sd w n b mb xb (r.leave x.m.id).1 v' wz) w4 hkI hgx (fun w1 ho => sd_leave H4.out HM.out HSD.out.most HV4.out w1 ho) sd_cell (fun _ _ _ h ho => h.go ho) (fun _ _ _ h hI ho => h.put HX.out hI ho) _ _ _ _ _ _ _ _ _ _ _ _ _ _ _ _ _ _ _ _ _ _ _ _ _ _ _ _ _ _ _ _ _ _ _ _ _ _ _ _ _ _ _ _ _ _ _ _ _ _ _ _ _ _ _ _ _ _ _ _ _ _ _ _ _ _ _ _ _ _ _ _ _ _ _ _ _ _ _ _ _ _ _ _ _ _ _ _ _ _ _ _ _ _ _ _ _ _ _ _ _ _ _ _ _ _ _ _ _ _ _ _ _ _ _ _ _ _ _ _ _ _ _ _ _ _ _ _ _ _ _ _ _ w4 (Only.refl _ _) HI4.out (HGW.out w4 H4.out.only) ?_
        rintro y63 y64 y65 y66 y67 y68 y69 y70 y71 y72 y73 w5 ⟨v', hI5, hS5, -⟩
        have HI5 := Lib.hid hI5
        have HS5 := Lib.hid hS5
        clear hI5 hS5 H4 HI4 HV4
        go_upto_region 16 with (fail)
        refine rp16 (n : Int) id v' g o k L c0 b xb (r.leave x.m.id).2 s x (fun wz => Sd w n b mb xb _ v' wz) w5 hkI HS.out HFX.out.co HFX.out.ca (fun _ _ h ho => h.go ho) (fun w1 id s h hs => sd_is h id s hs) _ _ _ _ _ _ _ _ _ _ _ _ _ _ _ _ _ _ _ _ _ _ _ _ _ _ _ _ _ _ _ _ _ _ _ _ _ _ _ _ _ _ _ _ _ _ _ _ _ _ _ _ _ _ _ _ _ _ _ _ _ _ _ _ _ _ _ _ _ _ _ _ _ _ _ _ _ _ _ _ _ _ _ _ _ _ _ _ _ _ _ _ _ _ _ _ _ _ _ _ _ _ _ _ _ _ _ _ _ _ _ _ _ _ _ _ _ _ _ _ _ _ _ _ _ _ _ _ w5 (Only.refl _ _) HI5.out (HGW.out w5 HS5.out.rs.only) HS5.out ?_
        rintro y92 y93 y94 y95 y96 y97 y98 y99 y100 y101 y102 y103 y104 y105 y106 y107 y108 y109 y110 y111 y112 y113 y114 y115 y116 y117 y118 y119 y120 y121 y122 y123 y124 y125 y126 y127 y128 y129 y130 y131 y132 w6 ⟨hI6, hS6, -⟩
        have HI6 := Lib.hid hI6
        have HS6 := Lib.hid hS6
        clear hI6 hS6
        go_wp2
        refine ⟨?_, by simp [intOf]; omega⟩
        repeat apply Exists.intro
        refine ⟨?_, rfl⟩
        exact ⟨k + 1, by omega, by go_num, _, v', Lib.hid ⟨HS6.out, HI6.out⟩⟩
      | false =>
        rw [hlv] at a0
        clear hlv
        have HT := Lib.hid (act_tail (HGW.out wr HSD.out.rs.only).rg)
        go_wp2_with (refine wpList_load_mid rfl 58 _ rfl g (o + k * 5 + 1) rfl (mbA x.m).toList _ HT.out Try.underlying58 rfl Try.sizeMb ?_)
        refine (rs_join HSD.out.rs HFX.out).mono ?_
        rintro e w4 ⟨rfl, h4, ho4⟩
        have H4 := Lib.hid h4
        have HI4 := Lib.hid (HI.out.only ho4 (by simp))
        have HV4 := Lib.hid (HSD.out.own.only ho4 (fun j hj e => e (.inr hj)))
        clear h4 ho4 a0 a1
        go_upto_region 15 with (fail)
        refine rp15 (n : Int) v g o k L c0 xb (r.join x.m).2 x (fun v' wz => Sd w n b mb xb (r.join x.m).1 v' wz) w4 hkI hgx (fun w1 ho => sd_join H4.out HM.out HSD.out.most HV4.out w1 ho) sd_cell (fun _ _ _ h ho => h.go ho) (fun _ _ _ h hI ho => h.put HX.out hI ho) _ _ _ _ _ _ _ _ _ _ _ _ _ _ _ _ _ _ _ _ _ _ _ _ _ _ _ _ _ _ _ _ _ _ _ _ _ _ _ _ _ _ _ _ _ _ _ _ _ _ _ _ _ _ _ _ _ _ _ _ _ _ _ _ _ _ _ _ _ _ _ _ _ _ _ _ _ _ _ _ _ _ _ _ _ _ _ _ _ _ _ _ _ _ _ _ _ _ _ _ _ _ _ _ _ _ _ _ _ _ _ _ _ _ _ _ _ _ _ _ _ _ _ _ _ _ _ _ _ _ _ _ _ w4 (Only.refl _ _) HI4.out (HGW.out w4 H4.out.only) ?_
        rintro y81 y82 y83 y84 y85 y86 y87 y88 y89 y90 y91 w5 ⟨v', hI5, hS5, -⟩
        have HI5 := Lib.hid hI5
        have HS5 := Lib.hid hS5
        clear hI5 hS5 H4 HI4 HV4
        go_upto_region 16 with (fail)
        refine rp16 (n : Int) id v' g o k L c0 b xb (r.join x.m).2 s x (fun wz => Sd w n b mb xb _ v' wz) w5 hkI HS.out HFX.out.co HFX.out.ca (fun _ _ h ho => h.go ho) (fun w1 id s h hs => sd_is h id s hs) _ _ _ _ _ _ _ _ _ _ _ _ _ _ _ _ _ _ _ _ _ _ _ _ _ _ _ _ _ _ _ _ _ _ _ _ _ _ _ _ _ _ _ _ _ _ _ _ _ _ _ _ _ _ _ _ _ _ _ _ _ _ _ _ _ _ _ _ _ _ _ _ _ _ _ _ _ _ _ _ _ _ _ _ _ _ _ _ _ _ _ _ _ _ _ _ _ _ _ _ _ _ _ _ _ _ _ _ _ _ _ _ _ _ _ _ _ _ _ _ _ _ _ _ _ _ _ _ w5 (Only.refl _ _) HI5.out (HGW.out w5 HS5.out.rs.only) HS5.out ?_
        rintro y92 y93 y94 y95 y96 y97 y98 y99 y100 y101 y102 y103 y104 y105 y106 y107 y108 y109 y110 y111 y112 y113 y114 y115 y116 y117 y118 y119 y120 y121 y122 y123 y124 y125 y126 y127 y128 y129 y130 y131 y132 w6 ⟨hI6, hS6, -⟩
        have HI6 := Lib.hid hI6
        have HS6 := Lib.hid hS6
        clear hI6 hS6
        go_wp2
        refine ⟨?_, by simp [intOf]; omega⟩
        repeat apply Exists.intro
        refine ⟨?_, rfl⟩
        exact ⟨k + 1, by omega, by go_num, _, v', Lib.hid ⟨HS6.out, HI6.out⟩⟩
    · obtain rfl : k = L := by omega
      have HO := Lib.hid HSD.out.rs.only
      go_wp2_with fail
      refine (HW.out _).mono ?_
      rintro e w4 ⟨rfl, ho⟩
      have HO2 := Lib.hid (HO.out.trans ho (fun _ _ e => e))
      clear ho
      go_wp2
      go_ret
      exact ⟨rfl, HO2.out⟩
end Go.Proofs.Ytglgmhdajmncjaa
