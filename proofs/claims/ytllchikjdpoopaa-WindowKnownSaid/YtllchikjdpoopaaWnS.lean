/- WindowOnce's walk. Conditions: as each says. -/
import Derived.Test.YtllchikjdpoopaaWnR
set_option linter.unusedVariables false
namespace Go.Proofs.Ytllchikjdpoopaa
open Go Go.RowKit

/-- Before round k. -/
structure OnAt (s base b b2 k : Nat) (l : List Nat) (w wr : World) (m m2 : Wm) (L L2 : List Nat) : Prop where
  wnd : Wnd wr b m
  sim : Sim s m L
  fit : m.Fit
  lt : ∀ x ∈ L, x < 18446744073709551616
  wnd2 : Wnd wr b2 m2
  sim2 : Sim s m2 L2
  fit2 : m2.Fit
  past : Past s L l
  near : Near s base L2 l
  sum : m.c 0 + m.c 1 + m.c 2 = k
  cle2 : ∀ i, m2.c i ≤ k
  ne : b ≠ b2
  only : Only (fun _ => False) w wr
theorem OnAt.step {s base b b2 k : Nat} {l : List Nat} {w wr wx : World} {m m2 : Wm} {L L2 : List Nat} (h : OnAt s base b b2 k l w wr m m2 L L2) (ho : Only (fun _ => False) wr wx) : OnAt s base b b2 k l w wx m m2 L L2 :=
  ⟨h.wnd.only ho (by simp), h.sim, h.fit, h.lt, h.wnd2.only ho (by simp), h.sim2, h.fit2, h.past, h.near, h.sum, h.cle2, h.ne, h.only.trans ho (fun _ _ e => e)⟩
theorem inn_sum (m : Wm) (n : Nat) : (m.inn n).c 0 + (m.inn n).c 1 + (m.inn n).c 2 = m.c 0 + m.c 1 + m.c 2 + 1 := by
  have := m.look_lt n
  simp only [inn_c]
  have h : m.look n = 0 ∨ m.look n = 1 ∨ m.look n = 2 := by omega
  rcases h with h | h | h <;> rw [h] <;> simp <;> omega
theorem OnAt.next {s base b b2 k n : Nat} {l : List Nat} {w wr w4 w5 : World} {m m2 : Wm} {L L2 : List Nat} (h : OnAt s base b b2 k l w wr m m2 L L2) (hs1 : 1 ≤ s) (hs2 : s ≤ 1024) (hn : n < 18446744073709551616) (hbs : base + s < 18446744073709551616)
    (h4 : Wnd w4 b (m.inn n)) (ho4 : Only (fun j => j = b) wr w4) (h5 : Wnd w5 b2 (m2.inn (base + n % s))) (ho5 : Only (fun j => j = b2) w4 w5) (hb : w.heap.size ≤ b) (hb2 : w.heap.size ≤ b2) :
    OnAt s base b b2 (k + 1) (l ++ [n]) w w5 (m.inn n) (m2.inn (base + n % s)) (rIn s L n) (rIn s L2 (base + n % s)) := by
  have hm := Nat.mod_lt n (show 0 < s by omega)
  refine ⟨h4.only ho5 h.ne, h.sim.inn hs1 hs2 n, h.fit.inn hn, rIn_lt h.lt hn, h5, h.sim2.inn hs1 hs2 _, h.fit2.inn (by omega), h.past.snoc n, h.near.snoc hs1 n, ?_, ?_, h.ne, (h.only.trans ho4 (fun i hi e => by omega)).trans ho5 (fun i hi e => by omega)⟩
  · rw [inn_sum, h.sum]
  · intro i
    rw [inn_c]
    have := h.cle2 i
    split <;> omega
theorem own_cells {B c : Nat} {A : Option Addr} {l : List Nat} {w : World} (h : w.ownsRow B 23 1 (.slice A l.length c) l.length (cells64 l)) (hp : 0 < l.length) : ∃ g, A = some ⟨g, 0, none⟩ ∧ g < w.heap.size ∧ ∀ j (hj : j < l.length), w.cell? ⟨g, j, none⟩ = some (.int .u64 ((l[j] : Nat) : Int)) := by
  obtain ⟨A', c', e, -, hc⟩ := (own_rd64 h).opened
  injection e with e1
  subst e1
  obtain ⟨g, o, rfl, hcell⟩ := hc hp
  have ho : o = 0 := by
    rcases h.2 with ⟨e, _⟩ | ⟨g', cap, cur, e, _⟩
    · cases e
    · injection e with e1
      injection e1 with e1
      injection e1
  subst ho
  refine ⟨g, rfl, World.block_lt_of_cell? w ⟨g, 0 + 0, none⟩ (hcell 0 hp), fun j hj => ?_⟩
  have := hcell j hj
  rwa [Nat.zero_add] at this
def firstB (s base near : Nat) (l : List Nat) : Bool := l.all fun y => decide (base + y % s ≠ near)
theorem firstB_snoc (s base near : Nat) (l : List Nat) (y : Nat) : firstB s base near (l ++ [y]) = (firstB s base near l && decide (base + y % s ≠ near)) := by simp [firstB]
theorem firstB_near {s base n : Nat} {L l : List Nat} (h : Near s base L l) : firstB s base (base + n % s) l = !decide (base + n % s ∈ L) := by
  rw [Bool.eq_iff_iff]
  simp only [firstB, List.all_eq_true, decide_eq_true_eq, Bool.not_eq_true', decide_eq_false_iff_not, h (base + n % s)]
  constructor
  · rintro h1 ⟨y, hy, e⟩
    exact h1 y hy e.symm
  · intro h1 y hy e
    exact h1 ⟨y, hy, e.symm⟩

set_option maxRecDepth 100000 in
set_option maxHeartbeats 8000000 in
theorem once_walk (z : Int) (lv : Value) (xs : List Nat) (base0 : Nat) (w : World) (hz : -9223372036854775808 ≤ z ∧ z ≤ 9223372036854775807) (hb0 : base0 < 18446744073709551616) (hr : Rd .u64 w lv (nats xs)) (hx : ∀ x ∈ xs, x < 18446744073709551616) (hl : xs.length ≤ 9223372036854775807) :
    Calls Try.prog 4 #[.int .i64 z, lv, .int .u64 (base0 : Int)] w (Says (.bool true) w) := by
  obtain ⟨A, c, rfl, hlc, hcell⟩ := hr.opened
  obtain ⟨N, hN⟩ : ∃ N, xs.length = N := ⟨_, rfl⟩
  have HCELL := Lib.hid hcell
  have HX := Lib.hid hx
  have HN := Lib.hid hN
  rw [hN] at hlc hl ⊢
  clear hcell hx hN hr
  by_cases hbig : 60 < N
  · go_enter Try.func4, Try.ntmps4
    go_wp2_with fail
    refine (nworks_is _).mono ?_
    rintro e w8 ⟨rfl, ho⟩
    have O8 := Lib.hid ho
    clear ho
    go_wp2
    go_ret
    exact ⟨rfl, O8.out⟩
  have HPK := pick_is z 1024 w hz (by decide) (by decide)
  obtain ⟨r, hr⟩ : ∃ r : Nat, z % 1024 = (r : Int) := ⟨(z % 1024).toNat, by omega⟩
  rw [hr] at HPK
  have HPK2 := Lib.hid HPK
  clear HPK
  obtain ⟨s, hs⟩ : ∃ s : Nat, 1 + r = s := ⟨_, rfl⟩
  have hs1 : 1 ≤ s := by omega
  have hs2 : s ≤ 1024 := by omega
  have e1 : IntKind.i64.wrap (1 + (r : Int)) = (s : Int) := by rw [IntKind.wrap_i64]; omega
  have HOF := Lib.hid (fun wx => of_is s wx hs1 hs2)
  clear hr hs
  go_enter Try.func4, Try.ntmps4
  go_wp2_with fail
  refine HPK2.out.mono ?_
  rintro e w' ⟨rfl, rfl⟩
  go_wp2_with fail
  refine (HOF.out _).mono ?_
  rintro e w1 ⟨b, rfl, hb, hw, ho⟩
  have X1 := Lib.hid hw
  have O1 := Lib.hid ho
  clear hw ho
  go_wp2_with fail
  refine (HOF.out _).mono ?_
  rintro e w2 ⟨b2, rfl, hb2, hw, ho⟩
  have HNE := Lib.hid (show b ≠ b2 from by have := X1.out.lt; omega)
  have X2 := Lib.hid (X1.out.only ho (by simp))
  have Y2 := Lib.hid hw
  have O2 := Lib.hid (O1.out.trans ho (fun _ _ e => e))
  have hbw2 : w.heap.size ≤ b2 := by have := O1.out.size; omega
  clear hw ho HOF HPK2 X1 O1 hb2
  have e2 : IntKind.u64.wrap (s : Int) = (s : Int) := by rw [IntKind.wrap_u64]; omega
  have e3 : IntKind.u64.wrap (18446744073709551615 - (s : Int)) = ((18446744073709551615 - s : Nat) : Int) := by rw [IntKind.wrap_u64]; omega
  obtain ⟨big, hbg⟩ : ∃ g, 18446744073709551615 - s = g := ⟨_, rfl⟩
  rw [hbg] at e3
  obtain ⟨base, hbase⟩ : ∃ x, min base0 big = x := ⟨_, rfl⟩
  have hbs : base + s < 18446744073709551616 := by omega
  have HBASE := Lib.hid hbase
  have HBS := Lib.hid hbs
  clear hbg hbase hbs hb0
  go_upto_region 9 with (fail)
  rw [show (if big < base0 then (big : Int) else (base0 : Int)) = (base : Int) from by
    have := HBASE.out
    split <;> omega]
  clear e1 e3 HBASE
  have S0 := Lib.hid (show OnAt s base b b2 0 [] w w2 (Wm.new s) (Wm.new s) [] [] from
    ⟨X2.out, Sim.new s, Wm.Fit.new hs1 hs2, by simp, Y2.out, Sim.new s, Wm.Fit.new hs1 hs2, fun x hx => by simp at hx, fun x => by simp, rfl, fun i => Nat.le_refl _, HNE.out, O2.out⟩)
  clear X2 Y2 O2
  go_wp2
  go_loopw [11] (fun i wr => ∃ k : Nat, k ≤ N ∧ i = .int .i64 (k : Int) ∧ ∃ m m2 L L2, OnAt s base b b2 k (xs.take k) w wr m m2 L L2) (fun i _ => N + 1 - (intOf i).toNat)
  case atStart => exact ⟨0, by omega, rfl, _, _, _, _, S0.out⟩
  case round =>
    obtain ⟨k, hk, rfl, m, m2, L, L2, hS⟩ := hrel
    have S := Lib.hid hS
    clear hS S0
    by_cases hkl : k < N
    · have hkx : k < xs.length := by rw [HN.out]; exact hkl
      obtain ⟨q, o, rfl, hcc⟩ := HCELL.out (by omega)
      have cq := hcc k hkx
      have hn := HX.out xs[k] (List.getElem_mem _)
      have HSN := Lib.hid (take_snoc xs k hkx)
      generalize xs[k] = n at *
      have hqw : q < w.heap.size := World.block_lt_of_cell? w ⟨q, o + k, none⟩ cq
      have CQ := Lib.hid (fun (wx : World) (h : Only (fun _ => False) w wx) => (h.cell (p := ⟨q, o + k, none⟩) hqw (by simp)).trans cq)
      have CJ := Lib.hid (fun (j : Nat) (hj : j < xs.length) (wx : World) (h : Only (fun _ => False) w wx) => (h.cell (p := ⟨q, o + j, none⟩) hqw (by simp)).trans (hcc j hj))
      have HKX := Lib.hid hn
      clear hcc cq hqw
      have HCAME := Lib.hid (show Calls Try.prog 12 #[ptr b, .int .u64 (n : Int)] wr (fun e w' => e = .returned (.int .i64 (rLook s L n : Int)) ∧ Wnd w' b (m.inn n) ∧ Only (fun k => k = b) wr w') from by
        have := in_is b n m wr S.out.wnd S.out.fit HKX.out (by
          have h1 := S.out.sum
          have h2 := m.look_lt n
          have h3 : m.look n = 0 ∨ m.look n = 1 ∨ m.look n = 2 := by omega
          rcases h3 with h | h | h <;> rw [h] <;> omega)
        unfold Came at this
        rwa [S.out.sim.look hs1] at this)
      have HOLD := Lib.hid (fun (h : n ∈ xs.take k) => S.out.past.old hs1 h)
      generalize rLook s L n = lk at *
      have cq := CQ.out _ S.out.only
      go_wp2_with fail
      refine HCAME.out.mono ?_
      rintro e w4 ⟨rfl, hw4, ho4⟩
      have W4 := Lib.hid hw4
      have O4 := Lib.hid ho4
      have Q4 := Lib.hid (S.out.only.trans ho4 (fun i hi e => by omega))
      have Y4 := Lib.hid (S.out.wnd2.only ho4 (fun e => HNE.out e.symm))
      clear hw4 ho4 cq HCAME
      have hms := Nat.mod_lt n (show 0 < s by omega)
      have er : (n : Int) % (s : Int) = ((n % s : Nat) : Int) := by omega
      have hnear : base + n % s < 18446744073709551616 := by have := HBS.out; omega
      have ea : IntKind.u64.wrap ((base : Int) + ((n % s : Nat) : Int)) = ((base + n % s : Nat) : Int) := by rw [IntKind.wrap_u64]; omega
      have HCA2 := Lib.hid (show Calls Try.prog 12 #[ptr b2, .int .u64 ((base + n % s : Nat) : Int)] w4 (fun e w' => e = .returned (.int .i64 ((if base + n % s ∈ L2 then 1 else 0 : Nat) : Int)) ∧ Wnd w' b2 (m2.inn (base + n % s)) ∧ Only (fun k => k = b2) w4 w') from by
        have := in_is b2 (base + n % s) m2 w4 Y4.out S.out.fit2 hnear (by have := S.out.cle2 (m2.look (base + n % s)); omega)
        unfold Came at this
        rwa [S.out.sim2.look hs1, S.out.near.look hs1] at this)
      have HFB := Lib.hid (firstB_near (n := n) S.out.near)
      have HNEXT := Lib.hid (fun (w5 : World) (h5 : Wnd w5 b2 (m2.inn (base + n % s))) (ho5 : Only (fun j => j = b2) w4 w5) => S.out.next hs1 hs2 HKX.out HBS.out W4.out O4.out h5 ho5 hb hbw2)
      rw [← HSN.out] at HNEXT
      generalize hrr : n % s = rr at *
      generalize hnn : base + rr = near at *
      generalize m.inn n = m' at *
      generalize m2.inn near = m2' at *
      generalize rIn s L n = L' at *
      generalize rIn s L2 near = L2' at *
      have HSZ := Lib.hid (show ¬ ((s : Int) = 0) from by omega)
      clear hms hnear S Y4 W4 O4 hrr hnn
      have hs0 : (s : Int) ≠ 0 := HSZ.out
      have cq := CQ.out _ Q4.out
      go_upto_region 14 with (fail)
      obtain ⟨lv, hlv⟩ : ∃ x, (if near ∈ L2 then 1 else 0) = x := ⟨_, rfl⟩
      rw [hlv] at HCA2
      have HLV := Lib.hid hlv
      clear hlv cq er ea
      go_wp2_with fail
      refine HCA2.out.mono ?_
      rintro e w5 ⟨rfl, hw5, ho5⟩
      have S5 := Lib.hid (HNEXT.out w5 hw5 ho5)
      have Q5 := Lib.hid (Q4.out.trans ho5 (fun i hi e => by omega))
      clear hw5 ho5 HCA2 HNEXT Q4
      go_wp2
      go_loopw [15, 16] (fun s15 s16 wr2 => ∃ j : Nat, j ≤ k ∧ s16 = .int .i64 (j : Int) ∧ s15 = .bool (firstB s base near (xs.take j)) ∧ Only (fun _ => False) w5 wr2) (fun _ s16 _ => k + 1 - (intOf s16).toNat)
      case atStart => exact ⟨0, by omega, rfl, rfl, Only.refl _ _⟩
      case round =>
        obtain ⟨j, hj, rfl, rfl, hO⟩ := hrel
        have T := Lib.hid (S5.out.step hO)
        have OT := Lib.hid hO
        clear hO
        by_cases hjk : j < k
        · have hjx : j < xs.length := by rw [HN.out]; omega
          have cj := CJ.out j hjx _ T.out.only
          have cn := CQ.out _ T.out.only
          have HY := Lib.hid (show xs[j] = n → lk ≠ 0 from fun e => HOLD.out (by
            rw [← e]
            exact List.mem_iff_getElem.2 ⟨j, by rw [List.length_take]; omega, by rw [List.getElem_take]⟩))
          have HF := Lib.hid (show firstB s base near (xs.take (j + 1)) = (firstB s base near (xs.take j) && decide (base + xs[j] % s ≠ near)) from by rw [take_snoc xs j hjx, firstB_snoc])
          have hyl := HX.out xs[j] (List.getElem_mem _)
          generalize xs[j] = y at *
          generalize firstB s base near (xs.take j) = fb at *
          have hms := Nat.mod_lt y (show 0 < s by omega)
          have er : (y : Int) % (s : Int) = ((y % s : Nat) : Int) := by omega
          have ea : IntKind.u64.wrap ((base : Int) + ((y % s : Nat) : Int)) = ((base + y % s : Nat) : Int) := by have := HBS.out; rw [IntKind.wrap_u64]; omega
          generalize y % s = yr at *
          obtain ⟨ny, hny⟩ : ∃ ny, base + yr = ny := ⟨_, rfl⟩
          rw [hny] at ea HF
          have hkI : (k : Int) < (N : Int) := by omega
          have hjI : (j : Int) < (N : Int) := by omega
          have hjkI : (j : Int) < (k : Int) := by omega
          clear hms hyl hny T
          by_cases hyn : y = n
          · subst hyn
            have hlk := HY.out rfl
            have hlk2 : ((lk : Int) == 0) = false := by rw [beq_eq_false_iff_ne]; omega
            clear hlk
            go_upto_region 19 with (fail)
            go_quiet (fail)
            go_upto_region 21 with (fail)
            cases fb
            · go_wp2
              exact ⟨⟨j + 1, by omega, by go_num, by rw [HF.out]; rfl, OT.out.trans (onlyN _ _) (fun _ _ e => e)⟩, by simp [intOf]; omega⟩
            · by_cases hne : ny = near
              · have hne2 : ((ny : Int) == (near : Int)) = true := by rw [beq_iff_eq]; omega
                have HFF := Lib.hid (show firstB s base near (List.take (j + 1) xs) = false from by rw [HF.out]; simp [hne])
                clear hne
                go_wp2
                exact ⟨⟨j + 1, by omega, by go_num, by rw [HFF.out]; simp [bne, hne2], OT.out.trans (onlyN _ _) (fun _ _ e => e)⟩, by simp [intOf]; omega⟩
              · have hne2 : ((ny : Int) == (near : Int)) = false := by rw [beq_eq_false_iff_ne]; omega
                have HFF := Lib.hid (show firstB s base near (List.take (j + 1) xs) = true from by rw [HF.out]; simp [hne])
                clear hne
                go_wp2
                exact ⟨⟨j + 1, by omega, by go_num, by rw [HFF.out]; simp [bne, hne2], OT.out.trans (onlyN _ _) (fun _ _ e => e)⟩, by simp [intOf]; omega⟩
          · have hyn2 : ((y : Int) == (n : Int)) = false := by rw [beq_eq_false_iff_ne]; omega
            go_upto_region 19 with (fail)
            go_quiet (fail)
            go_upto_region 21 with (fail)
            cases fb
            · go_wp2
              exact ⟨⟨j + 1, by omega, by go_num, by rw [HF.out]; rfl, OT.out.trans (onlyN _ _) (fun _ _ e => e)⟩, by simp [intOf]; omega⟩
            · by_cases hne : ny = near
              · have hne2 : ((ny : Int) == (near : Int)) = true := by rw [beq_iff_eq]; omega
                have HFF := Lib.hid (show firstB s base near (List.take (j + 1) xs) = false from by rw [HF.out]; simp [hne])
                clear hne
                go_wp2
                exact ⟨⟨j + 1, by omega, by go_num, by rw [HFF.out]; simp [bne, hne2], OT.out.trans (onlyN _ _) (fun _ _ e => e)⟩, by simp [intOf]; omega⟩
              · have hne2 : ((ny : Int) == (near : Int)) = false := by rw [beq_eq_false_iff_ne]; omega
                have HFF := Lib.hid (show firstB s base near (List.take (j + 1) xs) = true from by rw [HF.out]; simp [hne])
                clear hne
                go_wp2
                exact ⟨⟨j + 1, by omega, by go_num, by rw [HFF.out]; simp [bne, hne2], OT.out.trans (onlyN _ _) (fun _ _ e => e)⟩, by simp [intOf]; omega⟩
        · obtain rfl : k = j := by omega
          clear hjk hj
          rw [HFB.out]
          clear HOLD CQ
          by_cases hm : near ∈ L2
          · obtain rfl : lv = 1 := by rw [← HLV.out, if_pos hm]
            rw [decide_eq_true hm]
            clear hm
            go_upto_region 24 with (fail)
            have HTP := Lib.hid (show ∀ (wx : World), OnAt s base b b2 (k + 1) (xs.take (k + 1)) w wx m' m2' L' L2' → Calls Try.prog 13 #[ptr b] wx (Says (.tuple #[.int .u64 (rTop L' : Int), .bool (decide (L' ≠ []))]) wx) from fun wx h => by
              have := top_is b m' wx h.wnd
              rwa [h.sim.top, h.sim.some] at this)
            generalize decide (L' ≠ []) = sm at *
            go_wp2_with fail
            refine (HTP.out _ T.out).mono ?_
            rintro e w7 ⟨rfl, ho⟩
            have T7 := Lib.hid (T.out.step ho)
            clear ho HTP T OT S5
            go_wp2
            go_loopw [19] (fun s19 wr3 => ∃ j : Nat, j ≤ k + 1 ∧ s19 = .int .i64 (j : Int) ∧ OnAt s base b b2 (k + 1) (xs.take (k + 1)) w wr3 m' m2' L' L2') (fun s19 _ => k + 2 - (intOf s19).toNat)
            case atStart => exact ⟨0, by omega, rfl, T7.out⟩
            case round =>
              obtain ⟨j, hj, rfl, hT⟩ := hrel
              have T := Lib.hid hT
              clear hT T7
              by_cases hjk : j < k + 1
              · have hjx : j < xs.length := by rw [HN.out]; omega
                have cj := CJ.out j hjx _ T.out.only
                have hin : xs[j] ∈ xs.take (k + 1) := List.mem_iff_getElem.2 ⟨j, by rw [List.length_take]; omega, by rw [List.getElem_take]⟩
                have hle := T.out.past.le hs1 hin
                have HTW := Lib.hid (fun h => T.out.past.twice hs1 hin h)
                have HLKK := Lib.hid (show ∀ x, Calls Try.prog 9 #[ptr b, .int .u64 ((x : Nat) : Int)] wr (Says (.int .i64 (rLook s L' x : Int)) wr) from fun x => by
                  obtain ⟨D, hD⟩ := T.out.wnd
                  have := look_is b x m' D _ hD T.out.fit
                  rwa [T.out.sim.look hs1] at this)
                have htp := T.out.fit.top
                rw [T.out.sim.top] at htp
                generalize xs[j] = y at *
                generalize rTop L' = tp at *
                have ed : IntKind.u64.wrap ((tp : Int) - (y : Int)) = ((tp - y : Nat) : Int) := by rw [IntKind.wrap_u64]; omega
                have hjN : (j : Int) < (N : Int) := by omega
                have hjkI : (j : Int) ≤ (k : Int) := by omega
                clear hin hle htp hjx
                by_cases hre : tp - y < s
                · have HL1 := HLKK.out y
                  rw [HTW.out hre] at HL1
                  have HL1 := Lib.hid HL1
                  generalize tp - y = dd at *
                  go_wp2_with fail
                  refine HL1.out.mono ?_
                  rintro e w8 ⟨rfl, ho⟩
                  have T8 := Lib.hid (T.out.step ho)
                  clear ho T HL1
                  go_wp2
                  exact ⟨⟨j + 1, by omega, by go_num, T8.out⟩, by simp [intOf]; omega⟩
                · have hre2 : s ≤ tp - y := by omega
                  generalize tp - y = dd at *
                  go_wp2
                  exact ⟨⟨j + 1, by omega, by go_num, T.out⟩, by simp [intOf]; omega⟩
              · obtain rfl : j = k + 1 := by omega
                clear hjk hj
                have hkk : ¬ ((k + 1 : Nat) : Int) ≤ (k : Int) := by omega
                go_upto_region 30 with (fail)
                obtain ⟨D0, hD0⟩ := T.out.wnd
                have HMI := missing_is b m' D0 _ hD0 T.out.fit
                have hml := miss_len T.out.fit
                have HTP2 := Lib.hid T.out.sim.top
                unfold Missed at HMI
                obtain ⟨ms, hms⟩ : ∃ ms, rMiss s L' = ms := ⟨_, rfl⟩
                rw [T.out.sim.miss hs1, hms] at HMI hml
                have HLAW := Lib.hid (show ∀ j (hj : j < ms.length), rLook s L' ms[j] = 0 ∧ ms[j] < rTop L' from by subst hms; exact fun j hj => miss_at j hj)
                have HRIS := Lib.hid (show ∀ j (hj : j + 1 < ms.length), ms[j]'(by omega) < ms[j + 1] from by subst hms; exact fun j hj => miss_rises j hj)
                have HMI := Lib.hid HMI
                clear hD0 hkk
                go_wp2_with fail
                refine HMI.out.mono ?_
                rintro e w8 ⟨u, rfl, hu, hbl⟩
                have T8 := Lib.hid (T.out.step (Only.of_below hbl))
                obtain ⟨A2, c2, rfl, hc2⟩ := own_slice hu
                have HCE := Lib.hid (own_cells hu)
                clear hu hbl HMI T hms
                generalize rTop L' = tp at *
                obtain ⟨M, hM⟩ : ∃ M, ms.length = M := ⟨_, rfl⟩
                have HM := Lib.hid hM
                rw [hM] at hml hc2 ⊢
                clear hM
                go_wp2
                go_loopw [21] (fun s21 wr4 => ∃ j : Nat, j ≤ M ∧ s21 = .int .i64 (j : Int) ∧ OnAt s base b b2 (k + 1) (xs.take (k + 1)) w wr4 m' m2' L' L2' ∧ Only (fun _ => False) w8 wr4) (fun s21 _ => M - (intOf s21).toNat)
                case atStart => exact ⟨0, by omega, rfl, T8.out, Only.refl _ _⟩
                case round =>
                  obtain ⟨j, hj, rfl, hT, hO⟩ := hrel
                  have T := Lib.hid hT
                  have OT := Lib.hid hO
                  clear hT hO T8
                  by_cases hjM : j < M
                  · have hjm : j < ms.length := by rw [HM.out]; exact hjM
                    obtain ⟨gr, rfl, hgl, hce⟩ := HCE.out (by rw [HM.out]; omega)
                    have cx := (OT.out.cell (p := ⟨gr, j, none⟩) hgl (by simp)).trans (hce j hjm)
                    obtain ⟨hlk0, hxt⟩ := HLAW.out j hjm
                    rw [← T.out.sim.look hs1] at hlk0
                    obtain ⟨D, hD⟩ := T.out.wnd
                    have hjMI : (j : Int) < (M : Int) := by omega
                    by_cases hj0 : j = 0
                    · subst hj0
                      generalize ms[0] = x0 at *
                      go_upto_region 34 with (fail)
                      refine once34a b gr M c2 tp x0 m' D T.out.fit hlk0 hjM hxt _ _ _ _ _ _ _ _ _ _ _ _ _ _ _ _ _ _ _ _ _ _ _ _ _ _ _ _ _ _ _ _ _ _ _ _ _ _ _ _ _ _ _ _ _ _ _ _ _ _ _ _ _ _ _ _ _ _ _ _ _ _ _ _ _ _ _ _ _ _ _ _ _ _ _ _ _ _ _ _ _ _ _ _ _ _ _ _ _ _ _ _ _ _ _ _ _ _ _ _ _ _ _ _ _ _ _ _ _ _ _ _ _ _ _ _ _ _ _ _ _ _ _ _ _ _ _ _ _ _ _ _ _ _ _ _ _ _ _ _ _ _ _ _ _ _ _ _ _ _ _ _ _ _ _ _ _ _ _ _ _ _ _ _ _ _ _ _ _ _ _ _ _ _ _ _ _ _ _ _ _ _ _ _ _ _ _ _ _ _ _ _ _ _ _ _ _ _ hD cx (Nat.lt_of_lt_of_le hgl OT.out.size) ?_
                      rintro y154 y155 y156 y157 y158 y159 y160 y161 y162 y163 y164 y165 y166 y167 y168 y169 y170 y171 y172 y173 y174 y175 y176 y177 y178 y179 y180 y181 y182 y183 w9 ho
                      have T9 := Lib.hid (T.out.step ho)
                      have O9 := Lib.hid (OT.out.trans ho (fun _ _ e => e))
                      clear ho T OT
                      go_wp2
                      constructor
                      · repeat apply Exists.intro
                        refine ⟨?_, rfl⟩
                        exact ⟨1, by omega, by go_num, T9.out, O9.out⟩
                      · simp [intOf]; omega
                    · have hjm1 : (j - 1) + 1 < ms.length := by omega
                      have hri := HRIS.out (j - 1) hjm1
                      have cx1 := (OT.out.cell (p := ⟨gr, j - 1, none⟩) hgl (by simp)).trans (hce (j - 1) (by omega))
                      simp only [show (j - 1) + 1 = j from by omega] at hri
                      have hjj : IntKind.i64.wrap ((j : Int) - 1) = ((j - 1 : Nat) : Int) := by rw [IntKind.wrap_i64]; omega
                      generalize ms[j - 1] = x1 at *
                      generalize ms[j] = x0 at *
                      go_upto_region 34 with (fail)
                      refine once34b b gr M c2 tp x0 x1 j m' D T.out.fit hlk0 hjM (by omega) hxt hri hjj _ _ _ _ _ _ _ _ _ _ _ _ _ _ _ _ _ _ _ _ _ _ _ _ _ _ _ _ _ _ _ _ _ _ _ _ _ _ _ _ _ _ _ _ _ _ _ _ _ _ _ _ _ _ _ _ _ _ _ _ _ _ _ _ _ _ _ _ _ _ _ _ _ _ _ _ _ _ _ _ _ _ _ _ _ _ _ _ _ _ _ _ _ _ _ _ _ _ _ _ _ _ _ _ _ _ _ _ _ _ _ _ _ _ _ _ _ _ _ _ _ _ _ _ _ _ _ _ _ _ _ _ _ _ _ _ _ _ _ _ _ _ _ _ _ _ _ _ _ _ _ _ _ _ _ _ _ _ _ _ _ _ _ _ _ _ _ _ _ _ _ _ _ _ _ _ _ _ _ _ _ _ _ _ _ _ _ _ _ _ _ _ _ _ _ _ _ _ hD cx cx1 (Nat.lt_of_lt_of_le hgl OT.out.size) ?_
                      rintro y154 y155 y156 y157 y158 y159 y160 y161 y162 y163 y164 y165 y166 y167 y168 y169 y170 y171 y172 y173 y174 y175 y176 y177 y178 y179 y180 y181 y182 y183 w9 ho
                      have T9 := Lib.hid (T.out.step ho)
                      have O9 := Lib.hid (OT.out.trans ho (fun _ _ e => e))
                      clear ho T OT
                      go_wp2
                      constructor
                      · repeat apply Exists.intro
                        refine ⟨?_, rfl⟩
                        exact ⟨j + 1, by omega, by go_num, T9.out, O9.out⟩
                      · simp [intOf]; omega
                  · obtain rfl : j = M := by omega
                    have T9 := Lib.hid T.out
                    clear T OT hjM hj
                    go_wp2
                    exact ⟨⟨k + 1, by omega, by go_num, _, _, _, _, T9.out⟩, by simp [intOf]; omega⟩
          · obtain rfl : lv = 0 := by rw [← HLV.out, if_neg hm]
            rw [decide_eq_false hm]
            clear hm
            go_upto_region 24 with (fail)
            have HTP := Lib.hid (show ∀ (wx : World), OnAt s base b b2 (k + 1) (xs.take (k + 1)) w wx m' m2' L' L2' → Calls Try.prog 13 #[ptr b] wx (Says (.tuple #[.int .u64 (rTop L' : Int), .bool (decide (L' ≠ []))]) wx) from fun wx h => by
              have := top_is b m' wx h.wnd
              rwa [h.sim.top, h.sim.some] at this)
            generalize decide (L' ≠ []) = sm at *
            go_wp2_with fail
            refine (HTP.out _ T.out).mono ?_
            rintro e w7 ⟨rfl, ho⟩
            have T7 := Lib.hid (T.out.step ho)
            clear ho HTP T OT S5
            go_wp2
            go_loopw [19] (fun s19 wr3 => ∃ j : Nat, j ≤ k + 1 ∧ s19 = .int .i64 (j : Int) ∧ OnAt s base b b2 (k + 1) (xs.take (k + 1)) w wr3 m' m2' L' L2') (fun s19 _ => k + 2 - (intOf s19).toNat)
            case atStart => exact ⟨0, by omega, rfl, T7.out⟩
            case round =>
              obtain ⟨j, hj, rfl, hT⟩ := hrel
              have T := Lib.hid hT
              clear hT T7
              by_cases hjk : j < k + 1
              · have hjx : j < xs.length := by rw [HN.out]; omega
                have cj := CJ.out j hjx _ T.out.only
                have hin : xs[j] ∈ xs.take (k + 1) := List.mem_iff_getElem.2 ⟨j, by rw [List.length_take]; omega, by rw [List.getElem_take]⟩
                have hle := T.out.past.le hs1 hin
                have HTW := Lib.hid (fun h => T.out.past.twice hs1 hin h)
                have HLKK := Lib.hid (show ∀ x, Calls Try.prog 9 #[ptr b, .int .u64 ((x : Nat) : Int)] wr (Says (.int .i64 (rLook s L' x : Int)) wr) from fun x => by
                  obtain ⟨D, hD⟩ := T.out.wnd
                  have := look_is b x m' D _ hD T.out.fit
                  rwa [T.out.sim.look hs1] at this)
                have htp := T.out.fit.top
                rw [T.out.sim.top] at htp
                generalize xs[j] = y at *
                generalize rTop L' = tp at *
                have ed : IntKind.u64.wrap ((tp : Int) - (y : Int)) = ((tp - y : Nat) : Int) := by rw [IntKind.wrap_u64]; omega
                have hjN : (j : Int) < (N : Int) := by omega
                have hjkI : (j : Int) ≤ (k : Int) := by omega
                clear hin hle htp hjx
                by_cases hre : tp - y < s
                · have HL1 := HLKK.out y
                  rw [HTW.out hre] at HL1
                  have HL1 := Lib.hid HL1
                  generalize tp - y = dd at *
                  go_wp2_with fail
                  refine HL1.out.mono ?_
                  rintro e w8 ⟨rfl, ho⟩
                  have T8 := Lib.hid (T.out.step ho)
                  clear ho T HL1
                  go_wp2
                  exact ⟨⟨j + 1, by omega, by go_num, T8.out⟩, by simp [intOf]; omega⟩
                · have hre2 : s ≤ tp - y := by omega
                  generalize tp - y = dd at *
                  go_wp2
                  exact ⟨⟨j + 1, by omega, by go_num, T.out⟩, by simp [intOf]; omega⟩
              · obtain rfl : j = k + 1 := by omega
                clear hjk hj
                have hkk : ¬ ((k + 1 : Nat) : Int) ≤ (k : Int) := by omega
                go_upto_region 30 with (fail)
                obtain ⟨D0, hD0⟩ := T.out.wnd
                have HMI := missing_is b m' D0 _ hD0 T.out.fit
                have hml := miss_len T.out.fit
                have HTP2 := Lib.hid T.out.sim.top
                unfold Missed at HMI
                obtain ⟨ms, hms⟩ : ∃ ms, rMiss s L' = ms := ⟨_, rfl⟩
                rw [T.out.sim.miss hs1, hms] at HMI hml
                have HLAW := Lib.hid (show ∀ j (hj : j < ms.length), rLook s L' ms[j] = 0 ∧ ms[j] < rTop L' from by subst hms; exact fun j hj => miss_at j hj)
                have HRIS := Lib.hid (show ∀ j (hj : j + 1 < ms.length), ms[j]'(by omega) < ms[j + 1] from by subst hms; exact fun j hj => miss_rises j hj)
                have HMI := Lib.hid HMI
                clear hD0 hkk
                go_wp2_with fail
                refine HMI.out.mono ?_
                rintro e w8 ⟨u, rfl, hu, hbl⟩
                have T8 := Lib.hid (T.out.step (Only.of_below hbl))
                obtain ⟨A2, c2, rfl, hc2⟩ := own_slice hu
                have HCE := Lib.hid (own_cells hu)
                clear hu hbl HMI T hms
                generalize rTop L' = tp at *
                obtain ⟨M, hM⟩ : ∃ M, ms.length = M := ⟨_, rfl⟩
                have HM := Lib.hid hM
                rw [hM] at hml hc2 ⊢
                clear hM
                go_wp2
                go_loopw [21] (fun s21 wr4 => ∃ j : Nat, j ≤ M ∧ s21 = .int .i64 (j : Int) ∧ OnAt s base b b2 (k + 1) (xs.take (k + 1)) w wr4 m' m2' L' L2' ∧ Only (fun _ => False) w8 wr4) (fun s21 _ => M - (intOf s21).toNat)
                case atStart => exact ⟨0, by omega, rfl, T8.out, Only.refl _ _⟩
                case round =>
                  obtain ⟨j, hj, rfl, hT, hO⟩ := hrel
                  have T := Lib.hid hT
                  have OT := Lib.hid hO
                  clear hT hO T8
                  by_cases hjM : j < M
                  · have hjm : j < ms.length := by rw [HM.out]; exact hjM
                    obtain ⟨gr, rfl, hgl, hce⟩ := HCE.out (by rw [HM.out]; omega)
                    have cx := (OT.out.cell (p := ⟨gr, j, none⟩) hgl (by simp)).trans (hce j hjm)
                    obtain ⟨hlk0, hxt⟩ := HLAW.out j hjm
                    rw [← T.out.sim.look hs1] at hlk0
                    obtain ⟨D, hD⟩ := T.out.wnd
                    have hjMI : (j : Int) < (M : Int) := by omega
                    by_cases hj0 : j = 0
                    · subst hj0
                      generalize ms[0] = x0 at *
                      go_upto_region 34 with (fail)
                      refine once34a b gr M c2 tp x0 m' D T.out.fit hlk0 hjM hxt _ _ _ _ _ _ _ _ _ _ _ _ _ _ _ _ _ _ _ _ _ _ _ _ _ _ _ _ _ _ _ _ _ _ _ _ _ _ _ _ _ _ _ _ _ _ _ _ _ _ _ _ _ _ _ _ _ _ _ _ _ _ _ _ _ _ _ _ _ _ _ _ _ _ _ _ _ _ _ _ _ _ _ _ _ _ _ _ _ _ _ _ _ _ _ _ _ _ _ _ _ _ _ _ _ _ _ _ _ _ _ _ _ _ _ _ _ _ _ _ _ _ _ _ _ _ _ _ _ _ _ _ _ _ _ _ _ _ _ _ _ _ _ _ _ _ _ _ _ _ _ _ _ _ _ _ _ _ _ _ _ _ _ _ _ _ _ _ _ _ _ _ _ _ _ _ _ _ _ _ _ _ _ _ _ _ _ _ _ _ _ _ _ _ _ _ _ _ hD cx (Nat.lt_of_lt_of_le hgl OT.out.size) ?_
                      rintro y154 y155 y156 y157 y158 y159 y160 y161 y162 y163 y164 y165 y166 y167 y168 y169 y170 y171 y172 y173 y174 y175 y176 y177 y178 y179 y180 y181 y182 y183 w9 ho
                      have T9 := Lib.hid (T.out.step ho)
                      have O9 := Lib.hid (OT.out.trans ho (fun _ _ e => e))
                      clear ho T OT
                      go_wp2
                      constructor
                      · repeat apply Exists.intro
                        refine ⟨?_, rfl⟩
                        exact ⟨1, by omega, by go_num, T9.out, O9.out⟩
                      · simp [intOf]; omega
                    · have hjm1 : (j - 1) + 1 < ms.length := by omega
                      have hri := HRIS.out (j - 1) hjm1
                      have cx1 := (OT.out.cell (p := ⟨gr, j - 1, none⟩) hgl (by simp)).trans (hce (j - 1) (by omega))
                      simp only [show (j - 1) + 1 = j from by omega] at hri
                      have hjj : IntKind.i64.wrap ((j : Int) - 1) = ((j - 1 : Nat) : Int) := by rw [IntKind.wrap_i64]; omega
                      generalize ms[j - 1] = x1 at *
                      generalize ms[j] = x0 at *
                      go_upto_region 34 with (fail)
                      refine once34b b gr M c2 tp x0 x1 j m' D T.out.fit hlk0 hjM (by omega) hxt hri hjj _ _ _ _ _ _ _ _ _ _ _ _ _ _ _ _ _ _ _ _ _ _ _ _ _ _ _ _ _ _ _ _ _ _ _ _ _ _ _ _ _ _ _ _ _ _ _ _ _ _ _ _ _ _ _ _ _ _ _ _ _ _ _ _ _ _ _ _ _ _ _ _ _ _ _ _ _ _ _ _ _ _ _ _ _ _ _ _ _ _ _ _ _ _ _ _ _ _ _ _ _ _ _ _ _ _ _ _ _ _ _ _ _ _ _ _ _ _ _ _ _ _ _ _ _ _ _ _ _ _ _ _ _ _ _ _ _ _ _ _ _ _ _ _ _ _ _ _ _ _ _ _ _ _ _ _ _ _ _ _ _ _ _ _ _ _ _ _ _ _ _ _ _ _ _ _ _ _ _ _ _ _ _ _ _ _ _ _ _ _ _ _ _ _ _ _ _ _ hD cx cx1 (Nat.lt_of_lt_of_le hgl OT.out.size) ?_
                      rintro y154 y155 y156 y157 y158 y159 y160 y161 y162 y163 y164 y165 y166 y167 y168 y169 y170 y171 y172 y173 y174 y175 y176 y177 y178 y179 y180 y181 y182 y183 w9 ho
                      have T9 := Lib.hid (T.out.step ho)
                      have O9 := Lib.hid (OT.out.trans ho (fun _ _ e => e))
                      clear ho T OT
                      go_wp2
                      constructor
                      · repeat apply Exists.intro
                        refine ⟨?_, rfl⟩
                        exact ⟨j + 1, by omega, by go_num, T9.out, O9.out⟩
                      · simp [intOf]; omega
                  · obtain rfl : j = M := by omega
                    have T9 := Lib.hid T.out
                    clear T OT hjM hj
                    go_wp2
                    exact ⟨⟨k + 1, by omega, by go_num, _, _, _, _, T9.out⟩, by simp [intOf]; omega⟩
    · obtain rfl : k = N := by omega
      clear hkl hk
      have HS := Lib.hid S.out.sum
      have h1 : m.c 0 + m.c 1 + m.c 2 = k := S.out.sum
      have HC0 := Lib.hid (count_is b 0 m wr S.out.wnd (by decide))
      have HC1 := Lib.hid (count_is b 1 m wr S.out.wnd (by decide))
      have HC2 := Lib.hid (count_is b 2 m wr S.out.wnd (by decide))
      have ea : IntKind.u64.wrap ((m.c 0 : Int) + (m.c 1 : Int)) = ((m.c 0 + m.c 1 : Nat) : Int) := by rw [IntKind.wrap_u64]; omega
      have eb : IntKind.u64.wrap (((m.c 0 + m.c 1 : Nat) : Int) + (m.c 2 : Int)) = (k : Int) := by rw [IntKind.wrap_u64]; omega
      have ec : IntKind.u64.wrap (k : Int) = (k : Int) := by rw [IntKind.wrap_u64]; omega
      clear h1
      generalize m.c 0 + m.c 1 = c01 at *
      generalize m.c 0 = c0 at *
      generalize m.c 1 = c1 at *
      generalize m.c 2 = c2 at *
      go_wp2_with fail
      refine HC0.out.mono ?_
      rintro e w5 ⟨rfl, rfl⟩
      go_wp2_with fail
      refine HC1.out.mono ?_
      rintro e w5 ⟨rfl, rfl⟩
      go_wp2_with fail
      refine HC2.out.mono ?_
      rintro e w5 ⟨rfl, rfl⟩
      go_wp2_with fail
      refine (nworks_is _).mono ?_
      rintro e w8 ⟨rfl, ho⟩
      have O8 := Lib.hid (S.out.only.trans ho (fun _ _ e => e))
      clear ho
      go_wp2
      go_ret
      exact ⟨rfl, O8.out⟩
end Go.Proofs.Ytllchikjdpoopaa
