/- easellaw07.spoil: a message's rows are written over. Conditions: as it says. -/
import Derived.Test.YtefcimkopgcagaaFdG
import Derived.Test.YtefcimkopgcagaaStrW
set_option linter.unusedVariables false
set_option linter.unusedSimpArgs false
namespace Go.Proofs.Ytefcimkopgcagaa
open Go.RowKit

theorem keep_row {w w1 : World} {B B' sz sz' n : Nat} {T U : TypeId} {v u : Value} {xs : List Value} {yss : List (List Value)} (h : OwnS w B' U sz' u yss) (k : w.ownsRow B T sz v n xs) (hne : T ≠ U) (ho : Only (fun j => v.ownBlock = some j) w w1) : OwnS w1 B' U sz' u yss :=
  OwnS.only h ho (fun j hj e => owned_apart k h.1 hne j e hj)
/-- Amid spoil: the message's box, its rows of so many elements. -/
structure SpM (B mb P O S : Nat) (cs : Array Value) (vp vo vs : Value) (w0 wx : World) : Prop where
  i : Is wx mb 27 cs
  p : ∃ xss, xss.length = P ∧ OwnS wx B 82 2 vp xss
  o : ∃ xss, xss.length = O ∧ OwnS wx B 85 2 vo xss
  s : ∃ xss, xss.length = S ∧ OwnS wx B 22 1 vs xss
  pure : Only (fun k => B ≤ k) w0 wx
theorem SpM.putP {B mb P O S : Nat} {cs : Array Value} {vp vo vs : Value} {w0 wx : World} (h : SpM B mb P O S cs vp vo vs w0 wx) {g i : Nat} {xs : List Value} (hg : vp.ownBlock = some g) (hi : i < P) (hx : xs.length = 2) : SpM B mb P O S cs vp vo vs w0 (wx.setCells g (i * 2) xs) := by
  obtain ⟨pss, hp, hP⟩ := h.p
  obtain ⟨oss, hol, hO⟩ := h.o
  obtain ⟨sss, hsl, hS⟩ := h.s
  obtain ⟨h1, h2⟩ := hP.write (i := i) hg (by omega) hx
  have ho : Only (fun k => vp.ownBlock = some k) wx (wx.setCells g (i * 2) xs) := h2.mono (fun k _ e => e ▸ hg)
  exact ⟨h.i.only ho (fun e => owned_off hP.1 h.i (by decide) e), ⟨_, by rw [List.length_set]; exact hp, h1⟩, ⟨oss, hol, keep_row hO hP.1 (by decide) ho⟩, ⟨sss, hsl, keep_row hS hP.1 (by decide) ho⟩, h.pure.trans ho (fun k hk e => (hP.lt k e).1)⟩
theorem SpM.putO {B mb P O S : Nat} {cs : Array Value} {vp vo vs : Value} {w0 wx : World} (h : SpM B mb P O S cs vp vo vs w0 wx) {g i : Nat} {xs : List Value} (hg : vo.ownBlock = some g) (hi : i < O) (hx : xs.length = 2) : SpM B mb P O S cs vp vo vs w0 (wx.setCells g (i * 2) xs) := by
  obtain ⟨pss, hp, hP⟩ := h.p
  obtain ⟨oss, hol, hO⟩ := h.o
  obtain ⟨sss, hsl, hS⟩ := h.s
  obtain ⟨h1, h2⟩ := hO.write (i := i) hg (by omega) hx
  have ho : Only (fun k => vo.ownBlock = some k) wx (wx.setCells g (i * 2) xs) := h2.mono (fun k _ e => e ▸ hg)
  exact ⟨h.i.only ho (fun e => owned_off hO.1 h.i (by decide) e), ⟨pss, hp, keep_row hP hO.1 (by decide) ho⟩, ⟨_, by rw [List.length_set]; exact hol, h1⟩, ⟨sss, hsl, keep_row hS hO.1 (by decide) ho⟩, h.pure.trans ho (fun k hk e => (hO.lt k e).1)⟩
theorem SpM.putS {B mb P O S : Nat} {cs : Array Value} {vp vo vs : Value} {w0 wx : World} (h : SpM B mb P O S cs vp vo vs w0 wx) {g i : Nat} {x : Value} (hg : vs.ownBlock = some g) (hi : i < S) : SpM B mb P O S cs vp vo vs w0 (wx.setCell ⟨g, i, none⟩ x) := by
  obtain ⟨pss, hp, hP⟩ := h.p
  obtain ⟨oss, hol, hO⟩ := h.o
  obtain ⟨sss, hsl, hS⟩ := h.s
  obtain ⟨h1, h2⟩ := hS.write (i := i) (cs := [x]) hg (by omega) rfl
  rw [Nat.mul_one] at h1 h2
  have h1 : OwnS (wx.setCell ⟨g, i, none⟩ x) B 22 1 vs (sss.set i [x]) := h1
  have h2 : Only (fun k => k = g) wx (wx.setCell ⟨g, i, none⟩ x) := h2
  have ho : Only (fun k => vs.ownBlock = some k) wx (wx.setCell ⟨g, i, none⟩ x) := h2.mono (fun k _ e => e ▸ hg)
  exact ⟨h.i.only ho (fun e => owned_off hS.1 h.i (by decide) e), ⟨pss, hp, keep_row hP hS.1 (by decide) ho⟩, ⟨oss, hol, keep_row hO hS.1 (by decide) ho⟩, ⟨_, by rw [List.length_set]; exact hsl, h1⟩, h.pure.trans ho (fun k hk e => (hS.lt k e).1)⟩
theorem Try.sizePr2 : (Try.prog.info? 82).map (·.size) = some 2 := by kernel_rfl
theorem Try.sizeOd2 : (Try.prog.info? 85).map (·.size) = some 2 := by kernel_rfl
set_option maxRecDepth 100000 in
set_option maxHeartbeats 4000000 in
theorem fspoil_is (m : Ms) (vp vo vs : Value) (B : Nat) (w : World) (h : OwnM B m vp vo vs w) (hl : m.pairs.length ≤ 1000000 ∧ m.orders.length ≤ 1000000 ∧ m.srcs.length ≤ 1000000) :
    Calls Try.prog 24 #[.agg (m.cls vp vo vs)] w fun e w' => e = .returned (.tuple #[]) ∧ Only (fun k => B ≤ k) w w' := by
  obtain ⟨Pa, pc, rfl, -⟩ := OwnS.slice h.1
  obtain ⟨Oa, oc, rfl, -⟩ := OwnS.slice h.2.1
  obtain ⟨Sa, sc, rfl, -⟩ := OwnS.slice h.2.2
  rw [List.length_map] at *
  obtain ⟨P, hP⟩ : ∃ k, m.pairs.length = k := ⟨_, rfl⟩
  obtain ⟨O, hO⟩ : ∃ k, m.orders.length = k := ⟨_, rfl⟩
  obtain ⟨S, hS⟩ : ∃ k, m.srcs.length = k := ⟨_, rfl⟩
  rw [List.length_map, List.length_map] at *
  rw [hP, hO, hS] at hl h ⊢
  obtain ⟨cs, hcs⟩ : ∃ a, m.cls (.slice Pa P pc) (.slice Oa O oc) (.slice Sa S sc) = a := ⟨_, rfl⟩
  have HCS := Lib.hid (show cs[3]? = some (.slice Pa P pc) ∧ cs[4]? = some (.slice Oa O oc) ∧ cs[7]? = some (.slice Sa S sc) from by rw [← hcs]; exact ⟨rfl, rfl, rfl⟩)
  have H0 := Lib.hid (show ∀ wx mb, Only (fun _ => False) w wx → Is wx mb 27 cs → SpM B mb P O S cs (.slice Pa P pc) (.slice Oa O oc) (.slice Sa S sc) w wx from fun wx mb ho hi =>
    ⟨hi, ⟨m.pairs.map Pr.lst, by rw [List.length_map, hP], OwnS.only h.1 ho (by simp)⟩, ⟨m.orders.map Od.lst, by rw [List.length_map, hO], OwnS.only h.2.1 ho (by simp)⟩, ⟨m.srcs.map fun x => [Value.int .u32 (x : Nat)], by rw [List.length_map, hS], OwnS.only h.2.2 ho (by simp)⟩, ho.mono (fun _ _ e => e.elim)⟩)
  rw [hcs]
  obtain ⟨hl1, hl2, hl3⟩ := hl
  clear h hP hO hS hcs
  go_enter Try.func24, Try.ntmps24
  go_upto_region 1 with (fail)
  generalize hw1 : World.alloc w _ = w1
  have I0 := Lib.hid (show Is w1 w.heap.size 27 cs from by rw [← hw1]; exact Is.made w _ _)
  have P0 := Lib.hid (show Only (fun _ => False) w w1 from by rw [← hw1]; exact (Only.refl _ w).alloc _)
  obtain ⟨mb, hmb⟩ : ∃ k, w.heap.size = k := ⟨_, rfl⟩
  rw [hmb] at I0 ⊢
  have S0 := Lib.hid (H0.out w1 mb P0.out I0.out)
  clear hw1 hmb I0 P0 H0
  go_wp2
  go_loopw [2] (fun i wr => ∃ k : Nat, i = .int .i64 (k : Int) ∧ k ≤ P ∧ SpM B mb P O S cs (.slice Pa P pc) (.slice Oa O oc) (.slice Sa S sc) w wr) (fun i _ => P - (intOf i).toNat)
  case atStart => exact ⟨0, rfl, by omega, S0.out⟩
  case round =>
    obtain ⟨k, rfl, hk, hS⟩ := hrel
    have SJ := Lib.hid hS
    clear hS S0
    have c3 := (SJ.out.i.cell 3).trans HCS.out.1
    by_cases hkP : k < P
    · have hkI : (k : Int) < (P : Int) := by omega
      obtain ⟨pss, hpl, hpO⟩ := SJ.out.p
      obtain ⟨g, c, e, -⟩ := hpO.place (by omega)
      injection e with e1 e2 e3
      subst e1 e3
      have HT := Lib.hid (show wr.there g (k * 2) 2 from hpO.there rfl (by omega))
      clear hpl hpO e2
      go_wp2_with (refine wpList_store_mid rfl 82 _ _ rfl g (k * 2) #[.int .u16 7, .int .u16 0] rfl rfl HT.out Try.sizePr2 (by simp [Value.oneCell']) ?_)
      exact ⟨⟨k + 1, int_congr (by omega), by omega, SJ.out.putP rfl hkP rfl⟩, by simp [intOf]; omega⟩
    · have hkI : ¬ (k : Int) < (P : Int) := by omega
      clear hkP
      have S1 := Lib.hid (show SpM B mb P O S cs (.slice Pa P pc) (.slice Oa O oc) (.slice Sa S sc) w wr from SJ.out)
      clear SJ
      go_wp2
      clear hkI hk c3
      go_loopw [3] (fun i wr => ∃ k : Nat, i = .int .i64 (k : Int) ∧ k ≤ O ∧ SpM B mb P O S cs (.slice Pa P pc) (.slice Oa O oc) (.slice Sa S sc) w wr) (fun i _ => O - (intOf i).toNat)
      case atStart => exact ⟨0, rfl, by omega, S1.out⟩
      case round =>
        obtain ⟨k, rfl, hk, hS⟩ := hrel
        have SJ := Lib.hid hS
        clear hS S1
        have c3 := (SJ.out.i.cell 4).trans HCS.out.2.1
        by_cases hkP : k < O
        · have hkI : (k : Int) < (O : Int) := by omega
          obtain ⟨pss, hpl, hpO⟩ := SJ.out.o
          obtain ⟨g, c, e, -⟩ := hpO.place (by omega)
          injection e with e1 e2 e3
          subst e1 e3
          have HT := Lib.hid (show wr.there g (k * 2) 2 from hpO.there rfl (by omega))
          clear hpl hpO e2
          go_wp2_with (refine wpList_store_mid rfl 85 _ _ rfl g (k * 2) #[.int .u32 0, .int .u8 7] rfl rfl HT.out Try.sizeOd2 (by simp [Value.oneCell']) ?_)
          exact ⟨⟨k + 1, int_congr (by omega), by omega, SJ.out.putO rfl hkP rfl⟩, by simp [intOf]; omega⟩
        · have hkI : ¬ (k : Int) < (O : Int) := by omega
          have S1 := Lib.hid (show SpM B mb P O S cs (.slice Pa P pc) (.slice Oa O oc) (.slice Sa S sc) w wr from SJ.out)
          clear SJ hkP
          go_wp2
          clear hkI hk c3
          go_loopw [4] (fun i wr => ∃ k : Nat, i = .int .i64 (k : Int) ∧ k ≤ S ∧ SpM B mb P O S cs (.slice Pa P pc) (.slice Oa O oc) (.slice Sa S sc) w wr) (fun i _ => S - (intOf i).toNat)
          case atStart => exact ⟨0, rfl, by omega, S1.out⟩
          case round =>
            obtain ⟨k, rfl, hk, hS⟩ := hrel
            have SJ := Lib.hid hS
            clear hS S1
            have c3 := (SJ.out.i.cell 7).trans HCS.out.2.2
            by_cases hkP : k < S
            · have hkI : (k : Int) < (S : Int) := by omega
              obtain ⟨pss, hpl, hpO⟩ := SJ.out.s
              obtain ⟨g, c, e, -⟩ := hpO.place (by omega)
              injection e with e1 e2 e3
              subst e1 e3
              obtain ⟨hT1, hf⟩ := (show wr.there g (k * 1) 1 from hpO.there rfl (by omega)) 0 (by decide)
              rw [Nat.mul_one, Nat.add_zero] at hT1 hf
              obtain ⟨u, hc⟩ := Option.isSome_iff_exists.1 hT1
              clear hpl hpO e2 hT1
              go_wp2
              exact ⟨⟨k + 1, int_congr (by omega), by omega, SJ.out.putS rfl hkP⟩, by simp [intOf]; omega⟩
            · have hkI : ¬ (k : Int) < (S : Int) := by omega
              go_wp2
              exact bodyPost_end (v := .tuple #[]) (by simp [results, Try.results24]) rfl ⟨rfl, SJ.out.pure⟩
end Go.Proofs.Ytefcimkopgcagaa
