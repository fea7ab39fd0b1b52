/- RosterSources' walk. Conditions: as each says. -/
import Derived.Test.YtglgmhdajmncjaaRyU
import Derived.Test.YtglgmhdajmncjaaRyT
set_option linter.unusedVariables false
set_option linter.unusedSimpArgs false
namespace Go.Proofs.Ytglgmhdajmncjaa
open Go Go.RowKit

/-- Blocks that are no part of it are written, and new ones are told apart. -/
theorem Rs.grown {w wx wy : World} {b mb : Nat} {r : Ro} {S T : Nat → Prop} (h : Rs w b mb r S wx) (ho : Only S wx wy) (hn : ∀ k, S k → w.heap.size ≤ k) (hT : ∀ k, T k → S k ∨ wx.heap.size ≤ k ∧ k < wy.heap.size) : Rs w b mb r T wy := by
  obtain ⟨h0, vl, h1, h2, h3⟩ := h
  refine ⟨h0, vl, h1.only ho (fun k hk hs => (h3 k hs).2 hk), h2.trans ho (fun i hi hs => absurd (hn i hs) (by omega)), fun k hk => ?_⟩
  rcases hT k hk with h | ⟨h4, h5⟩
  · exact ⟨Nat.lt_of_lt_of_le (h3 k h).1 ho.size, (h3 k h).2⟩
  · exact ⟨h5, fun hf => by have := (h1.foot hf).2; omega⟩
theorem join_two (r : Ro) (m : Mb) : ((r.join m).2 = 0 ∧ (r.join m).1.l = r.l ++ [m]) ∨ ((r.join m).2 ≠ 0 ∧ (r.join m).1.l = r.l) := by
  unfold Ro.join
  repeat' split
  · exact .inr ⟨by simp, rfl⟩
  · exact .inr ⟨by simp, rfl⟩
  · exact .inr ⟨by simp, rfl⟩
  · exact .inr ⟨by simp, rfl⟩
  · exact .inl ⟨rfl, rfl⟩
theorem leave_look {r : Ro} (h : r.Fit) (id : Int) : ∃ (gx : Mb) (s1 : Bool) (x1 x2 : Mb) (o1 o2 s2 s3 : Bool), getV (getM r.l id) = .tuple #[mbV gx, .bool s1] ∧ gx.co < 4294967296 ∧ gx.ca < 4294967296 ∧ ((r.leave id).2 = if s1 then 0 else 130) ∧
    srcV (ownM (r.leave id).1.l gx.co) gx.co = .tuple #[mbV x1, .bool o1, .bool s2] ∧ srcV (ownM (r.leave id).1.l gx.ca) gx.ca = .tuple #[mbV x2, .bool o2, .bool s3] ∧ (s1 = true → s2 = false ∧ s3 = false) := by
  rcases hg : getM r.l id with _ | m
  · obtain ⟨x1, o1, e1⟩ := srcV_form (ownM (r.leave id).1.l mb0.co) mb0.co
    obtain ⟨x2, o2, e2⟩ := srcV_form (ownM (r.leave id).1.l mb0.ca) mb0.ca
    exact ⟨mb0, false, x1, x2, o1, o2, _, _, rfl, by decide, by decide, by unfold Ro.leave; rw [hg]; rfl, e1, e2, fun e => by cases e⟩
  · obtain ⟨q1, q2⟩ := gone_own h hg
    have hf := h.fits m (getM_mem hg).1
    exact ⟨m, true, mb0, mb0, false, false, false, false, rfl, hf.co, hf.ca, by unfold Ro.leave; rw [hg]; rfl, by rw [q1]; rfl, by rw [q2]; rfl, fun _ => ⟨rfl, rfl⟩⟩
set_option maxRecDepth 100000 in
set_option maxHeartbeats 32000000 in
theorem rsources_walk (z : Int) (v : Value) (l : List A14) (w : World) (hv : RdC w v l) (hf : ∀ x ∈ l, x.m.Fits) :
    Calls Try.prog 6 #[.int .i64 z, v] w (SaysR (.bool true) w) := by
  obtain ⟨A0, c0, rfl, hlc, hrow⟩ := hv
  have HROW := Lib.hid hrow
  have HFIT := Lib.hid hf
  obtain ⟨L, hL⟩ : ∃ L, l.length = L := ⟨_, rfl⟩
  have HL := Lib.hid hL
  rw [hL] at hlc ⊢
  clear hrow hf hL
  have HW := Lib.hid rworks_is
  by_cases hz : z < 0 ∨ 32 < z
  · have HN := Lib.hid (mnew_no z w hz)
    clear hz
    go_enter Try.func6, Try.ntmps6
    go_wp2_with fail
    refine HN.out.mono ?_
    rintro e w1 ⟨rfl, rfl⟩
    go_wp2_with fail
    refine (HW.out _).mono ?_
    rintro e w2 ⟨rfl, ho⟩
    have HO2 := Lib.hid ho
    clear ho
    go_wp2
    go_ret
    exact ⟨rfl, HO2.out⟩
  obtain ⟨n, rfl⟩ : ∃ n : Nat, z = (n : Int) := ⟨z.toNat, by omega⟩
  have hn : n ≤ 32 := by omega
  have HN := Lib.hid (mnew_yes n w hn)
  clear hz
  by_cases h80 : L > 80
  · have h80I : (L : Int) > 80 := by omega
    go_enter Try.func6, Try.ntmps6
    go_wp2_with fail
    refine HN.out.mono ?_
    rintro e w1 ⟨b, mb, rfl, -, ho1⟩
    have HO1 := Lib.hid ho1
    clear ho1
    go_wp2_with fail
    refine (HW.out _).mono ?_
    rintro e w2 ⟨rfl, ho⟩
    have HO2 := Lib.hid (HO1.out.trans ho (fun _ _ e => e))
    clear ho
    go_wp2
    go_ret
    exact ⟨rfl, HO2.out⟩
  have h80I : ¬ 80 < L := h80
  have h80J : ¬ (80 : Int) < (L : Int) := by omega
  go_enter Try.func6, Try.ntmps6
  go_wp2_with fail
  refine HN.out.mono ?_
  rintro e w1 ⟨b, mb, rfl, h, ho⟩
  have H0 := Lib.hid (show Rs w b mb ⟨n, []⟩ (fun j => Value.ownBlock (.slice none 0 0) = some j) w1 from (rs_new hn h ho).sub (fun k hk => by cases hk))
  clear h ho HN
  go_wp2
  go_loopw [7, 8] (fun s7 s8 wr => ∃ k : Nat, k ≤ L ∧ s8 = .int .i64 (k : Int) ∧ (∃ A m c, s7 = .slice A m c) ∧ ∃ r : Ro, Hid (Rs w b mb r (fun j => s7.ownBlock = some j) wr ∧ OwnS wr w.heap.size 58 4 s7 (mbRows r.l) ∧ r.most = n)) (fun _ s8 _ => L - (intOf s8).toNat)
  case atStart => exact ⟨0, by omega, rfl, ⟨_, _, _, rfl⟩, ⟨n, []⟩, Lib.hid ⟨H0.out, OwnS.nil _ _ _ _, rfl⟩⟩
  case round =>
    obtain ⟨k, hk, rfl, ⟨A7, m7, c7, rfl⟩, r, hR⟩ := hrel
    have HRS := Lib.hid hR.out.1
    have HV := Lib.hid hR.out.2.1
    have HMO := Lib.hid hR.out.2.2
    clear hR
    by_cases hkl : k < L
    · have hkI : (k : Int) < (L : Int) := by omega
      have hkx : k < l.length := by rw [HL.out]; exact hkl
      obtain ⟨g, o, hA, hcells⟩ := HROW.out (by omega)
      subst hA
      have hx : l[k]? = some l[k] := List.getElem?_eq_getElem hkx
      have HFX := Lib.hid (HFIT.out _ (List.getElem_mem hkx))
      have hGa : Ga g (o + k * 5) l[k] w := ⟨hcells k _ hx, World.block_lt_of_cell? _ _ (hcells k _ hx 0 _ rfl)⟩
      have HGW := Lib.hid (fun (wx : World) (h : Only (fun _ => False) w wx) => hGa.go h (by simp))
      generalize l[k] = x at *
      have a0 : wr.cell? ⟨g, o + k * 5, none⟩ = some (.bool x.lv) := range_cell (j := 0) (HGW.out wr HRS.out.only).rg rfl
      have a1 : wr.cell? ⟨g, o + k * 5 + 1, none⟩ = some (.int .i64 x.m.id) := (HGW.out wr HRS.out.only).c1
      have HSM := Lib.hid HRS.out.small
      clear hcells hx hkx hGa
      cases hlv : x.lv with
      | true =>
        rw [hlv] at a0
        clear hlv
        obtain ⟨gx, s1, x1, x2, o1, o2, s2, s3, e1, hc1, hc2, e2, e3, e4, e5⟩ := leave_look HRS.out.1 x.m.id
        have E5 := Lib.hid e5
        have HG := Lib.hid (e1 ▸ rs_get (id := x.m.id) HRS.out)
        have HS1 := Lib.hid (fun (S : Nat → Prop) (wx : World) (h : Rs w b mb (r.leave x.m.id).1 S wx) => e3 ▸ rs_source (s := gx.co) h hc1)
        have HS2 := Lib.hid (fun (S : Nat → Prop) (wx : World) (h : Rs w b mb (r.leave x.m.id).1 S wx) => e4 ▸ rs_source (s := gx.ca) h hc2)
        have E2 := Lib.hid e2
        clear e1 e2 e3 e4 e5 hc1 hc2
        go_wp2_with fail
        refine HG.out.mono ?_
        rintro e w2 ⟨rfl, ho⟩
        have H2 := Lib.hid (HRS.out.go ho)
        have HV2 := Lib.hid (HV.out.only ho (by simp))
        clear ho a0 a1 HG
        go_upto_region 10 with (fail)
        have hal := (Only.refl (fun _ => False) w2).alloc (.cells #[.int .i64 gx.id, .int .u32 (gx.co : Int), .int .u32 (gx.ca : Int), .bool gx.mo] 58)
        have I9 := Lib.hid (Is.made w2 58 #[.int .i64 gx.id, .int .u32 (gx.co : Int), .int .u32 (gx.ca : Int), .bool gx.mo])
        have H3 := Lib.hid (H2.out.more (T := fun j => j = w2.heap.size ∨ Value.ownBlock (.slice A7 m7 c7) = some j) hal (fun k hk => by
          rcases hk with e | e
          · exact .inr (by rw [e]; simp)
          · exact .inl e))
        have HV3 := Lib.hid (HV2.out.only hal (by simp))
        generalize w2.alloc (.cells #[.int .i64 gx.id, .int .u32 (gx.co : Int), .int .u32 (gx.ca : Int), .bool gx.mo] 58) = w3 at *
        generalize w2.heap.size = m9 at *
        clear hal H2 HV2
        have a1 : w3.cell? ⟨g, o + k * 5 + 1, none⟩ = some (.int .i64 x.m.id) := (HGW.out w3 H3.out.only).c1
        go_wp2_with fail
        refine (rs_leave H3.out).mono ?_
        rintro e w4 ⟨rfl, h4, ho4⟩
        have H4 := Lib.hid h4
        have I94 := Lib.hid (I9.out.only ho4 (fun e => e (.inl rfl)))
        have HV4 := Lib.hid (HV3.out.only ho4 (fun j hj e => e (.inr hj)))
        rw [E2.out]
        clear h4 ho4 a1 I9 HV3 H3
        have cc : w4.cell? ⟨m9, 1, none⟩ = some (.int .u32 (gx.co : Int)) := I94.out.cell 1
        cases s1 with
        | true =>
          obtain ⟨rfl, rfl⟩ := E5.out rfl
          simp only [if_true]
          go_wp2_with fail
          refine (HS1.out _ w4 H4.out).mono ?_
          rintro e w5 ⟨rfl, ho⟩
          have H5 := Lib.hid (H4.out.go ho)
          have I95 := Lib.hid (I94.out.only ho (by simp))
          have HV5 := Lib.hid (HV4.out.only ho (by simp))
          clear ho cc H4 I94 HV4 HS1
          go_upto_region 14 with (fail)
          have hal := (Only.refl (fun _ => False) w5).alloc (.cells #[.int .i64 x1.id, .int .u32 (x1.co : Int), .int .u32 (x1.ca : Int), .bool x1.mo] 58)
          have H6 := Lib.hid (H5.out.go hal)
          have I96 := Lib.hid (I95.out.only hal (by simp))
          have HV6 := Lib.hid (HV5.out.only hal (by simp))
          generalize w5.alloc (.cells #[.int .i64 x1.id, .int .u32 (x1.co : Int), .int .u32 (x1.ca : Int), .bool x1.mo] 58) = w6 at *
          clear hal H5 I95 HV5
          have cc : w6.cell? ⟨m9, 2, none⟩ = some (.int .u32 (gx.ca : Int)) := I96.out.cell 2
          go_wp2_with fail
          refine (HS2.out _ w6 H6.out).mono ?_
          rintro e w7 ⟨rfl, ho⟩
          have H7 := Lib.hid (H6.out.go ho)
          have HV7 := Lib.hid (HV6.out.only ho (by simp))
          clear ho cc H6 I96 HV6 HS2
          go_upto_region 15 with (fail)
          have hal := (Only.refl (fun _ => False) w7).alloc (.cells #[.int .i64 x2.id, .int .u32 (x2.co : Int), .int .u32 (x2.ca : Int), .bool x2.mo] 58)
          have H8 := Lib.hid (H7.out.go hal)
          have HV8 := Lib.hid (HV7.out.only hal (by simp))
          generalize w7.alloc (.cells #[.int .i64 x2.id, .int .u32 (x2.co : Int), .int .u32 (x2.ca : Int), .bool x2.mo] 58) = w8 at *
          clear hal H7 HV7
          have HGA8 := Lib.hid (HGW.out w8 H8.out.only)
          have HLL := Lib.hid HSM.out
          obtain ⟨N, hN⟩ : ∃ N, r.l.length = N := ⟨_, rfl⟩
          have HN := Lib.hid hN
          have hNN : N ≤ 1000 := by rw [← hN]; exact HSM.out
          have hm7 : m7 = N := by
            obtain ⟨A2, c2, he, -⟩ := HV8.out.slice
            have := (Value.slice.inj he).2.1
            rw [this, mbRows_length, hN]
          subst hm7
          clear hN
          go_wp2
          go_loopw [18, 19] (fun s18 s19 wr => ∃ j : Nat, j ≤ m7 ∧ s19 = .int .i64 (j : Int) ∧ (∃ A m c, s18 = .slice A m c) ∧ Hid (Only (fun _ => False) w8 wr ∧ OwnS wr w8.heap.size 58 4 s18 (mbRows ((r.l.take j).filter fun y => y.id != x.m.id)))) (fun _ s19 _ => m7 - (intOf s19).toNat)
          case atStart => exact ⟨0, by omega, rfl, ⟨_, _, _, rfl⟩, Lib.hid ⟨Only.refl _ _, OwnS.nil _ _ _ _⟩⟩
          case round =>
            obtain ⟨j, hj, rfl, ⟨A8, m8, c8, rfl⟩, hQ⟩ := hrel
            by_cases hjl : j < m7
            · have hjI : (j : Int) < (m7 : Int) := by omega
              have hjx : j < r.l.length := by rw [HN.out]; exact hjl
              have h7 := HV8.out.only hQ.out.1 (by simp)
              obtain ⟨g7, c', e1, -⟩ := h7.place (by rw [mbRows_length]; omega)
              obtain ⟨hA1, -, -⟩ := Value.slice.inj e1
              subst hA1
              clear e1
              have hy : r.l[j]? = some r.l[j] := List.getElem?_eq_getElem hjx
              have HRG := Lib.hid (h7.range (g := g7) rfl (mbRows_get hy))
              have HRL := Lib.hid (h7.lt g7 rfl).2
              have HT := Lib.hid (show (r.l.take (j + 1)).filter (fun y => y.id != x.m.id) = (r.l.take j).filter (fun y => y.id != x.m.id) ++ [r.l[j]].filter (fun y => y.id != x.m.id) from by rw [List.take_add_one, hy, List.filter_append]; rfl)
              generalize r.l[j] = y at *
              obtain ⟨yi, yo, ya, ym⟩ := y
              have r0 : wr.cell? ⟨g7, j * 4, none⟩ = some (.int .i64 yi) := range_cell (j := 0) HRG.out rfl
              have a1 : wr.cell? ⟨g, o + k * 5 + 1, none⟩ = some (.int .i64 x.m.id) := (HGA8.out.go hQ.out.1 (by simp)).c1
              clear hy hjx h7
              by_cases hx : yi = x.m.id
              · have HE := Lib.hid (show (r.l.take (j + 1)).filter (fun y => y.id != x.m.id) = (r.l.take j).filter (fun y => y.id != x.m.id) from by rw [HT.out]; simp [hx])
                have hb : (yi == x.m.id) = true := by simpa using hx
                have hb2 : (yi != x.m.id) = false := by simpa using hx
                clear hx
                go_upto_region 21 with (fail)
                go_quiet (fail)
                go_wp2
                exact ⟨⟨j + 1, by omega, by go_num, ⟨_, _, _, rfl⟩, Lib.hid ⟨hQ.out.1.trans ((Only.refl _ _).drewN _) (fun _ _ e => e), by rw [HE.out]; exact hQ.out.2.only ((Only.refl (fun _ => False) _).drewN _) (by simp)⟩⟩, by simp [intOf]; omega⟩
              · have HE := Lib.hid (show (r.l.take (j + 1)).filter (fun y => y.id != x.m.id) = (r.l.take j).filter (fun y => y.id != x.m.id) ++ [⟨yi, yo, ya, ym⟩] from by rw [HT.out]; simp [hx])
                have hb : (yi == x.m.id) = false := by simpa using hx
                have hb2 : (yi != x.m.id) = true := by simpa using hx
                have HLEN := Lib.hid (show (mbRows ((r.l.take j).filter fun y => y.id != x.m.id)).length ≤ 100000 from by
                  rw [mbRows_length]
                  have := List.length_filter_le (fun y : Mb => y.id != x.m.id) (r.l.take j)
                  rw [List.length_take] at this
                  omega)
                clear hx
                obtain ⟨F, hF⟩ : ∃ F, (r.l.take j).filter (fun y => y.id != x.m.id) = F := ⟨_, rfl⟩
                rw [hF] at HE HLEN hQ
                obtain ⟨X, hX⟩ : ∃ X, mbRows F = X := ⟨_, rfl⟩
                have HX := Lib.hid hX
                rw [hX] at HLEN hQ
                clear hF hX
                go_upto_region 21 with (fail)
                go_quiet (fail)
                have hdr := (Only.refl (fun _ => False) wr).drewN nq
                have HRG2 := Lib.hid (range_only HRG.out HRL.out hdr (by simp))
                have HQ1 := Lib.hid (hQ.out.1.trans hdr (fun _ _ e => e))
                have HQ2 := Lib.hid (hQ.out.2.only hdr (by simp))
                generalize wr.drewN nq = wd at *
                clear hdr
                go_wp2_with (first
                  | (refine wpList_load_mid rfl 58 _ rfl g7 (j * 4) rfl [.int .i64 yi, .int .u32 (yo : Int), .int .u32 (ya : Int), .bool ym] _ HRG2.out Try.underlying58 rfl Try.sizeMb ?_)
                  | (at_builtin; refine wpList_append_structN _ rfl _ _ sty_mb rfl w8.heap.size _ _ rfl (OwnS.only HQ2.out ((Only.refl (fun _ => False) wd).alloc _) (by simp)) wd.heap.size [.int .i64 yi, .int .u32 (yo : Int), .int .u32 (ya : Int), .bool ym] rfl (Is.made wd _ _) rfl (by simp [Value.oneCell']) HLEN.out (by decide) (by have := HQ1.out.size; simp; omega) ?_; intro A5 c5 w5 hown5 ho5 hn5; replace hown5 := Lib.hid hown5; replace ho5 := Lib.hid ho5; clear hn5))
                have KO := Lib.hid ((HQ1.out.alloc (.cells #[.int .i64 yi, .int .u32 (yo : Int), .int .u32 (ya : Int), .bool ym] 58)).trans ho5.out (fun i hi e => by have := (HQ2.out.lt i e).1; omega))
                have KV := Lib.hid (show OwnS w5 w8.heap.size 58 4 (.slice A5 (X.length + 1) c5) (mbRows ((r.l.take (j + 1)).filter fun y => y.id != x.m.id)) from by rw [HE.out, mbRows_snoc, HX.out]; exact hown5.out)
                exact ⟨⟨j + 1, by omega, by go_num, ⟨_, _, _, rfl⟩, Lib.hid ⟨KO.out, KV.out⟩⟩, by simp [intOf]; omega⟩
            · obtain rfl : j = m7 := by omega
              have hTK : (r.l.take j).filter (fun y => y.id != x.m.id) = (r.leave x.m.id).1.l := by rw [leave_l, ← HN.out, List.take_length]
              have hv := hQ.out.2
              rw [hTK] at hv
              have HV9 := Lib.hid (show OwnS wr w.heap.size 58 4 (.slice A8 m8 c8) (mbRows (r.leave x.m.id).1.l) from ⟨owned_low hv.1 H8.out.only.size, hv.2⟩)
              have H9 := Lib.hid (H8.out.more (T := fun j => Value.ownBlock (.slice A8 m8 c8) = some j) hQ.out.1 (fun k hk => .inr ⟨(hv.lt k hk).1, (hv.lt k hk).2⟩))
              have HTM := Lib.hid ((leave_most r x.m.id).trans HMO.out)
              clear hv hTK
              go_upto_region 26 with (fail)
              refine pzE b mb n w.heap.size (r.leave x.m.id).1 _ _ w HTM.out _ _ _ _ _ _ _ _ _ _ _ _ _ _ _ _ _ _ _ _ _ _ _ _ _ _ _ _ _ _ _ _ _ _ _ _ _ _ _ _ _ _ _ _ _ _ _ _ _ _ _ _ _ _ _ _ _ _ _ _ _ _ _ _ _ _ _ _ _ _ _ _ _ _ _ _ _ _ _ _ _ _ _ _ _ _ _ _ _ _ _ _ _ _ _ _ _ _ _ _ _ _ _ _ _ _ _ _ _ _ _ _ _ _ _ _ _ _ _ _ _ _ _ _ _ _ _ _ _ _ _ _ _ _ _ _ _ _ _ _ _ _ _ _ _ _ _ _ _ _ _ _ _ _ _ _ _ _ _ _ _ _ _ _ _ _ _ _ _ _ _ _ _ _ _ _ _ _ _ _ _ _ _ _ _ _ _ _ _ _ _ _ _ _ _ _ _ _ _ _ _ _ _ _ _ _ _ _ _ _ _ _ _ _ _ _ _ _ _ _ _ wr H9.out HV9.out (by assumption) ?_
              rintro y4 y20 y21 y22 y23 y24 y25 y26 y27 y140 y141 y142 y143 y144 y145 y146 y147 y148 y149 y150 y151 y152 y153 y154 y155 y156 y157 y158 y159 y160 y161 y162 y163 y164 y165 y166 y167 y168 y169 y170 y171 y172 y173 y174 y175 y176 y177 y178 y179 y180 y181 y182 y183 y184 y185 y186 y187 y188 y189 y190 y191 y192 y193 y194 y195 y196 y197 y198 y199 y200 y201 y202 y203 y204 y205 y206 y207 y208 y209 y210 y211 y212 y213 y214 y215 y216 y217 y218 y219 y220 w9 ho9
              have H10 := Lib.hid (And.intro (H9.out.go ho9) (HV9.out.only ho9 (by simp)))
              clear ho9
              go_wp2
              refine ⟨?_, by simp [intOf]; omega⟩
              repeat apply Exists.intro
              refine ⟨?_, rfl⟩
              exact ⟨k + 1, by omega, by go_num, ⟨_, _, _, rfl⟩, _, Lib.hid ⟨H10.out.1, H10.out.2, HTM.out⟩⟩
        | false =>
          clear E5
          simp only [Bool.false_eq_true, if_false]
          go_wp2_with fail
          refine (HS1.out _ w4 H4.out).mono ?_
          rintro e w5 ⟨rfl, ho⟩
          have H5 := Lib.hid (H4.out.go ho)
          have I95 := Lib.hid (I94.out.only ho (by simp))
          have HV5 := Lib.hid (HV4.out.only ho (by simp))
          clear ho cc H4 I94 HV4 HS1
          go_upto_region 14 with (fail)
          have hal := (Only.refl (fun _ => False) w5).alloc (.cells #[.int .i64 x1.id, .int .u32 (x1.co : Int), .int .u32 (x1.ca : Int), .bool x1.mo] 58)
          have H6 := Lib.hid (H5.out.go hal)
          have I96 := Lib.hid (I95.out.only hal (by simp))
          have HV6 := Lib.hid (HV5.out.only hal (by simp))
          generalize w5.alloc (.cells #[.int .i64 x1.id, .int .u32 (x1.co : Int), .int .u32 (x1.ca : Int), .bool x1.mo] 58) = w6 at *
          clear hal H5 I95 HV5
          have cc : w6.cell? ⟨m9, 2, none⟩ = some (.int .u32 (gx.ca : Int)) := I96.out.cell 2
          go_wp2_with fail
          refine (HS2.out _ w6 H6.out).mono ?_
          rintro e w7 ⟨rfl, ho⟩
          have H7 := Lib.hid (H6.out.go ho)
          have HV7 := Lib.hid (HV6.out.only ho (by simp))
          clear ho cc H6 I96 HV6 HS2
          go_upto_region 15 with (fail)
          have hal := (Only.refl (fun _ => False) w7).alloc (.cells #[.int .i64 x2.id, .int .u32 (x2.co : Int), .int .u32 (x2.ca : Int), .bool x2.mo] 58)
          have H8 := Lib.hid (H7.out.go hal)
          have HV8 := Lib.hid (HV7.out.only hal (by simp))
          generalize w7.alloc (.cells #[.int .i64 x2.id, .int .u32 (x2.co : Int), .int .u32 (x2.ca : Int), .bool x2.mo] 58) = w8 at *
          clear hal H7 HV7
          have HGA8 := Lib.hid (HGW.out w8 H8.out.only)
          have HLL := Lib.hid HSM.out
          obtain ⟨N, hN⟩ : ∃ N, r.l.length = N := ⟨_, rfl⟩
          have HN := Lib.hid hN
          have hNN : N ≤ 1000 := by rw [← hN]; exact HSM.out
          have hm7 : m7 = N := by
            obtain ⟨A2, c2, he, -⟩ := HV8.out.slice
            have := (Value.slice.inj he).2.1
            rw [this, mbRows_length, hN]
          subst hm7
          clear hN
          go_wp2
          go_loopw [18, 19] (fun s18 s19 wr => ∃ j : Nat, j ≤ m7 ∧ s19 = .int .i64 (j : Int) ∧ (∃ A m c, s18 = .slice A m c) ∧ Hid (Only (fun _ => False) w8 wr ∧ OwnS wr w8.heap.size 58 4 s18 (mbRows ((r.l.take j).filter fun y => y.id != x.m.id)))) (fun _ s19 _ => m7 - (intOf s19).toNat)
          case atStart => exact ⟨0, by omega, rfl, ⟨_, _, _, rfl⟩, Lib.hid ⟨Only.refl _ _, OwnS.nil _ _ _ _⟩⟩
          case round =>
            obtain ⟨j, hj, rfl, ⟨A8, m8, c8, rfl⟩, hQ⟩ := hrel
            by_cases hjl : j < m7
            · have hjI : (j : Int) < (m7 : Int) := by omega
              have hjx : j < r.l.length := by rw [HN.out]; exact hjl
              have h7 := HV8.out.only hQ.out.1 (by simp)
              obtain ⟨g7, c', e1, -⟩ := h7.place (by rw [mbRows_length]; omega)
              obtain ⟨hA1, -, -⟩ := Value.slice.inj e1
              subst hA1
              clear e1
              have hy : r.l[j]? = some r.l[j] := List.getElem?_eq_getElem hjx
              have HRG := Lib.hid (h7.range (g := g7) rfl (mbRows_get hy))
              have HRL := Lib.hid (h7.lt g7 rfl).2
              have HT := Lib.hid (show (r.l.take (j + 1)).filter (fun y => y.id != x.m.id) = (r.l.take j).filter (fun y => y.id != x.m.id) ++ [r.l[j]].filter (fun y => y.id != x.m.id) from by rw [List.take_add_one, hy, List.filter_append]; rfl)
              generalize r.l[j] = y at *
              obtain ⟨yi, yo, ya, ym⟩ := y
              have r0 : wr.cell? ⟨g7, j * 4, none⟩ = some (.int .i64 yi) := range_cell (j := 0) HRG.out rfl
              have a1 : wr.cell? ⟨g, o + k * 5 + 1, none⟩ = some (.int .i64 x.m.id) := (HGA8.out.go hQ.out.1 (by simp)).c1
              clear hy hjx h7
              by_cases hx : yi = x.m.id
              · have HE := Lib.hid (show (r.l.take (j + 1)).filter (fun y => y.id != x.m.id) = (r.l.take j).filter (fun y => y.id != x.m.id) from by rw [HT.out]; simp [hx])
                have hb : (yi == x.m.id) = true := by simpa using hx
                have hb2 : (yi != x.m.id) = false := by simpa using hx
                clear hx
                go_upto_region 21 with (fail)
                go_quiet (fail)
                go_wp2
                exact ⟨⟨j + 1, by omega, by go_num, ⟨_, _, _, rfl⟩, Lib.hid ⟨hQ.out.1.trans ((Only.refl _ _).drewN _) (fun _ _ e => e), by rw [HE.out]; exact hQ.out.2.only ((Only.refl (fun _ => False) _).drewN _) (by simp)⟩⟩, by simp [intOf]; omega⟩
              · have HE := Lib.hid (show (r.l.take (j + 1)).filter (fun y => y.id != x.m.id) = (r.l.take j).filter (fun y => y.id != x.m.id) ++ [⟨yi, yo, ya, ym⟩] from by rw [HT.out]; simp [hx])
                have hb : (yi == x.m.id) = false := by simpa using hx
                have hb2 : (yi != x.m.id) = true := by simpa using hx
                have HLEN := Lib.hid (show (mbRows ((r.l.take j).filter fun y => y.id != x.m.id)).length ≤ 100000 from by
                  rw [mbRows_length]
                  have := List.length_filter_le (fun y : Mb => y.id != x.m.id) (r.l.take j)
                  rw [List.length_take] at this
                  omega)
                clear hx
                obtain ⟨F, hF⟩ : ∃ F, (r.l.take j).filter (fun y => y.id != x.m.id) = F := ⟨_, rfl⟩
                rw [hF] at HE HLEN hQ
                obtain ⟨X, hX⟩ : ∃ X, mbRows F = X := ⟨_, rfl⟩
                have HX := Lib.hid hX
                rw [hX] at HLEN hQ
                clear hF hX
                go_upto_region 21 with (fail)
                go_quiet (fail)
                have hdr := (Only.refl (fun _ => False) wr).drewN nq
                have HRG2 := Lib.hid (range_only HRG.out HRL.out hdr (by simp))
                have HQ1 := Lib.hid (hQ.out.1.trans hdr (fun _ _ e => e))
                have HQ2 := Lib.hid (hQ.out.2.only hdr (by simp))
                generalize wr.drewN nq = wd at *
                clear hdr
                go_wp2_with (first
                  | (refine wpList_load_mid rfl 58 _ rfl g7 (j * 4) rfl [.int .i64 yi, .int .u32 (yo : Int), .int .u32 (ya : Int), .bool ym] _ HRG2.out Try.underlying58 rfl Try.sizeMb ?_)
                  | (at_builtin; refine wpList_append_structN _ rfl _ _ sty_mb rfl w8.heap.size _ _ rfl (OwnS.only HQ2.out ((Only.refl (fun _ => False) wd).alloc _) (by simp)) wd.heap.size [.int .i64 yi, .int .u32 (yo : Int), .int .u32 (ya : Int), .bool ym] rfl (Is.made wd _ _) rfl (by simp [Value.oneCell']) HLEN.out (by decide) (by have := HQ1.out.size; simp; omega) ?_; intro A5 c5 w5 hown5 ho5 hn5; replace hown5 := Lib.hid hown5; replace ho5 := Lib.hid ho5; clear hn5))
                have KO := Lib.hid ((HQ1.out.alloc (.cells #[.int .i64 yi, .int .u32 (yo : Int), .int .u32 (ya : Int), .bool ym] 58)).trans ho5.out (fun i hi e => by have := (HQ2.out.lt i e).1; omega))
                have KV := Lib.hid (show OwnS w5 w8.heap.size 58 4 (.slice A5 (X.length + 1) c5) (mbRows ((r.l.take (j + 1)).filter fun y => y.id != x.m.id)) from by rw [HE.out, mbRows_snoc, HX.out]; exact hown5.out)
                exact ⟨⟨j + 1, by omega, by go_num, ⟨_, _, _, rfl⟩, Lib.hid ⟨KO.out, KV.out⟩⟩, by simp [intOf]; omega⟩
            · obtain rfl : j = m7 := by omega
              have hTK : (r.l.take j).filter (fun y => y.id != x.m.id) = (r.leave x.m.id).1.l := by rw [leave_l, ← HN.out, List.take_length]
              have hv := hQ.out.2
              rw [hTK] at hv
              have HV9 := Lib.hid (show OwnS wr w.heap.size 58 4 (.slice A8 m8 c8) (mbRows (r.leave x.m.id).1.l) from ⟨owned_low hv.1 H8.out.only.size, hv.2⟩)
              have H9 := Lib.hid (H8.out.more (T := fun j => Value.ownBlock (.slice A8 m8 c8) = some j) hQ.out.1 (fun k hk => .inr ⟨(hv.lt k hk).1, (hv.lt k hk).2⟩))
              have HTM := Lib.hid ((leave_most r x.m.id).trans HMO.out)
              clear hv hTK
              go_upto_region 26 with (fail)
              refine pzE b mb n w.heap.size (r.leave x.m.id).1 _ _ w HTM.out _ _ _ _ _ _ _ _ _ _ _ _ _ _ _ _ _ _ _ _ _ _ _ _ _ _ _ _ _ _ _ _ _ _ _ _ _ _ _ _ _ _ _ _ _ _ _ _ _ _ _ _ _ _ _ _ _ _ _ _ _ _ _ _ _ _ _ _ _ _ _ _ _ _ _ _ _ _ _ _ _ _ _ _ _ _ _ _ _ _ _ _ _ _ _ _ _ _ _ _ _ _ _ _ _ _ _ _ _ _ _ _ _ _ _ _ _ _ _ _ _ _ _ _ _ _ _ _ _ _ _ _ _ _ _ _ _ _ _ _ _ _ _ _ _ _ _ _ _ _ _ _ _ _ _ _ _ _ _ _ _ _ _ _ _ _ _ _ _ _ _ _ _ _ _ _ _ _ _ _ _ _ _ _ _ _ _ _ _ _ _ _ _ _ _ _ _ _ _ _ _ _ _ _ _ _ _ _ _ _ _ _ _ _ _ _ _ _ _ _ _ wr H9.out HV9.out (by assumption) ?_
              rintro y4 y20 y21 y22 y23 y24 y25 y26 y27 y140 y141 y142 y143 y144 y145 y146 y147 y148 y149 y150 y151 y152 y153 y154 y155 y156 y157 y158 y159 y160 y161 y162 y163 y164 y165 y166 y167 y168 y169 y170 y171 y172 y173 y174 y175 y176 y177 y178 y179 y180 y181 y182 y183 y184 y185 y186 y187 y188 y189 y190 y191 y192 y193 y194 y195 y196 y197 y198 y199 y200 y201 y202 y203 y204 y205 y206 y207 y208 y209 y210 y211 y212 y213 y214 y215 y216 y217 y218 y219 y220 w9 ho9
              have H10 := Lib.hid (And.intro (H9.out.go ho9) (HV9.out.only ho9 (by simp)))
              clear ho9
              go_wp2
              refine ⟨?_, by simp [intOf]; omega⟩
              repeat apply Exists.intro
              refine ⟨?_, rfl⟩
              exact ⟨k + 1, by omega, by go_num, ⟨_, _, _, rfl⟩, _, Lib.hid ⟨H10.out.1, H10.out.2, HTM.out⟩⟩
      | false =>
        rw [hlv] at a0
        clear hlv
        have HT := Lib.hid (act_tail (HGW.out wr HRS.out.only).rg)
        go_wp2_with (refine wpList_load_mid rfl 58 _ rfl g (o + k * 5 + 1) rfl (mbA x.m).toList _ HT.out Try.underlying58 rfl Try.sizeMb ?_)
        refine (rs_join HRS.out HFX.out).mono ?_
        rintro e w4 ⟨rfl, h4, ho4⟩
        have H4 := Lib.hid h4
        have HV4 := Lib.hid (HV.out.only ho4 (fun j hj e => e hj))
        have HTM := Lib.hid ((join_most r x.m).trans HMO.out)
        clear h4 ho4 a0 a1
        rcases join_two r x.m with ⟨hj1, hj2⟩ | ⟨hj1, hj2⟩
        · have HJ := Lib.hid hj2
          rw [hj1]
          clear hj1 hj2
          have HT4 := Lib.hid (act_tail (HGW.out w4 H4.out.only).rg)
          have HLN := Lib.hid (show (mbRows r.l).length ≤ 100000 by rw [mbRows_length]; have := HSM.out; omega)
          go_upto_region 26 with (first
            | (refine wpList_load_mid rfl 58 _ rfl g (o + k * 5 + 1) rfl (mbA x.m).toList _ HT4.out Try.underlying58 rfl Try.sizeMb ?_)
            | (at_builtin; refine wpList_append_structN _ rfl _ _ sty_mb rfl w.heap.size _ _ rfl (OwnS.only HV4.out ((Only.refl (fun _ => False) w4).alloc _) (by simp)) w4.heap.size [.int .i64 x.m.id, .int .u32 (x.m.co : Int), .int .u32 (x.m.ca : Int), .bool x.m.mo] rfl (Is.made w4 _ _) rfl (by simp [Value.oneCell']) HLN.out (by decide) (by have := H4.out.only.size; simp; omega) ?_; intro A5 c5 w5 hown5 ho5 hn5; replace hown5 := Lib.hid hown5; replace ho5 := Lib.hid ho5; replace hn5 := Lib.hid hn5))
          rw [mbRows_length] at hown5 hn5 ⊢
          have hA4 := H4.out.go ((Only.refl (fun _ => False) w4).alloc (.cells #[.int .i64 x.m.id, .int .u32 (x.m.co : Int), .int .u32 (x.m.ca : Int), .bool x.m.mo] 58))
          have H5 := Lib.hid (hA4.grown (T := fun j => Value.ownBlock (.slice A5 (r.l.length + 1) c5) = some j) ho5.out (fun k hk => (HV4.out.lt k hk).1) (fun k hk => (hn5.out k hk).imp id (fun h => ⟨h, (hown5.out.lt k hk).2⟩)))
          have HV5 := Lib.hid (show OwnS w5 w.heap.size 58 4 (.slice A5 (r.l.length + 1) c5) (mbRows (r.join x.m).1.l) from by rw [HJ.out, mbRows_snoc]; exact hown5.out)
          clear hA4 hown5 ho5 hn5 H4 HV4
          refine pzE b mb n w.heap.size (r.join x.m).1 _ _ w HTM.out _ _ _ _ _ _ _ _ _ _ _ _ _ _ _ _ _ _ _ _ _ _ _ _ _ _ _ _ _ _ _ _ _ _ _ _ _ _ _ _ _ _ _ _ _ _ _ _ _ _ _ _ _ _ _ _ _ _ _ _ _ _ _ _ _ _ _ _ _ _ _ _ _ _ _ _ _ _ _ _ _ _ _ _ _ _ _ _ _ _ _ _ _ _ _ _ _ _ _ _ _ _ _ _ _ _ _ _ _ _ _ _ _ _ _ _ _ _ _ _ _ _ _ _ _ _ _ _ _ _ _ _ _ _ _ _ _ _ _ _ _ _ _ _ _ _ _ _ _ _ _ _ _ _ _ _ _ _ _ _ _ _ _ _ _ _ _ _ _ _ _ _ _ _ _ _ _ _ _ _ _ _ _ _ _ _ _ _ _ _ _ _ _ _ _ _ _ _ _ _ _ _ _ _ _ _ _ _ _ _ _ _ _ _ _ _ _ _ _ _ _ w5 H5.out HV5.out (by assumption) ?_
          rintro y4 y20 y21 y22 y23 y24 y25 y26 y27 y140 y141 y142 y143 y144 y145 y146 y147 y148 y149 y150 y151 y152 y153 y154 y155 y156 y157 y158 y159 y160 y161 y162 y163 y164 y165 y166 y167 y168 y169 y170 y171 y172 y173 y174 y175 y176 y177 y178 y179 y180 y181 y182 y183 y184 y185 y186 y187 y188 y189 y190 y191 y192 y193 y194 y195 y196 y197 y198 y199 y200 y201 y202 y203 y204 y205 y206 y207 y208 y209 y210 y211 y212 y213 y214 y215 y216 y217 y218 y219 y220 w6 ho6
          have H6 := Lib.hid (And.intro (H5.out.go ho6) (HV5.out.only ho6 (by simp)))
          clear ho6
          go_wp2
          refine ⟨?_, by simp [intOf]; omega⟩
          repeat apply Exists.intro
          refine ⟨?_, rfl⟩
          exact ⟨k + 1, by omega, by go_num, ⟨_, _, _, rfl⟩, _, Lib.hid ⟨H6.out.1, H6.out.2, HTM.out⟩⟩
        · have HJ := Lib.hid hj2
          have hj0 : ¬ ((r.join x.m).2 : Int) = 0 := by omega
          have hj0b : (((r.join x.m).2 : Int) == 0) = false := by simpa using hj0
          clear hj2
          go_upto_region 26 with (fail)
          clear hj0 hj0b hj1
          have HV5 := Lib.hid (show OwnS w4 w.heap.size 58 4 (.slice A7 m7 c7) (mbRows (r.join x.m).1.l) from by rw [HJ.out]; exact HV4.out)
          refine pzE b mb n w.heap.size (r.join x.m).1 _ _ w HTM.out _ _ _ _ _ _ _ _ _ _ _ _ _ _ _ _ _ _ _ _ _ _ _ _ _ _ _ _ _ _ _ _ _ _ _ _ _ _ _ _ _ _ _ _ _ _ _ _ _ _ _ _ _ _ _ _ _ _ _ _ _ _ _ _ _ _ _ _ _ _ _ _ _ _ _ _ _ _ _ _ _ _ _ _ _ _ _ _ _ _ _ _ _ _ _ _ _ _ _ _ _ _ _ _ _ _ _ _ _ _ _ _ _ _ _ _ _ _ _ _ _ _ _ _ _ _ _ _ _ _ _ _ _ _ _ _ _ _ _ _ _ _ _ _ _ _ _ _ _ _ _ _ _ _ _ _ _ _ _ _ _ _ _ _ _ _ _ _ _ _ _ _ _ _ _ _ _ _ _ _ _ _ _ _ _ _ _ _ _ _ _ _ _ _ _ _ _ _ _ _ _ _ _ _ _ _ _ _ _ _ _ _ _ _ _ _ _ _ _ _ _ w4 H4.out HV5.out (by assumption) ?_
          rintro y4 y20 y21 y22 y23 y24 y25 y26 y27 y140 y141 y142 y143 y144 y145 y146 y147 y148 y149 y150 y151 y152 y153 y154 y155 y156 y157 y158 y159 y160 y161 y162 y163 y164 y165 y166 y167 y168 y169 y170 y171 y172 y173 y174 y175 y176 y177 y178 y179 y180 y181 y182 y183 y184 y185 y186 y187 y188 y189 y190 y191 y192 y193 y194 y195 y196 y197 y198 y199 y200 y201 y202 y203 y204 y205 y206 y207 y208 y209 y210 y211 y212 y213 y214 y215 y216 y217 y218 y219 y220 w6 ho6
          have H6 := Lib.hid (And.intro (H4.out.go ho6) (HV5.out.only ho6 (by simp)))
          clear ho6
          go_wp2
          refine ⟨?_, by simp [intOf]; omega⟩
          repeat apply Exists.intro
          refine ⟨?_, rfl⟩
          exact ⟨k + 1, by omega, by go_num, ⟨_, _, _, rfl⟩, _, Lib.hid ⟨H6.out.1, H6.out.2, HTM.out⟩⟩
    · obtain rfl : k = L := by omega
      have HO := Lib.hid HRS.out.only
      go_wp2_with fail
      refine (HW.out _).mono ?_
      rintro e w4 ⟨rfl, ho⟩
      have HO2 := Lib.hid (HO.out.trans ho (fun _ _ e => e))
      clear ho
      go_wp2
      go_ret
      exact ⟨rfl, HO2.out⟩
end Go.Proofs.Ytglgmhdajmncjaa
