/- easellaw07's pairs, sameNumbers, samePairs, where what is compared is the same. Conditions: as each says. -/
import Derived.Test.YtefcimkopgcagaaFbB
set_option linter.unusedVariables false
namespace Go.Proofs.Ytefcimkopgcagaa
open Go.RowKit

theorem OwnP.only {B : Nat} {T : TypeId} {v : Value} {l : List Pr} {w w1 : World} {S : Nat → Prop} (h : OwnP B T v l w) (ho : Only S w w1) (hs : ∀ k, v.ownBlock = some k → ¬ S k) : OwnP B T v l w1 := OwnS.only h ho hs
theorem OwnP.slice {B : Nat} {T : TypeId} {v : Value} {l : List Pr} {w : World} (h : OwnP B T v l w) : ∃ A c, v = .slice A l.length c ∧ l.length ≤ c := by
  obtain ⟨A, c, rfl, hc⟩ := OwnS.slice h
  rw [List.length_map] at hc ⊢
  exact ⟨A, c, rfl, hc⟩
section
variable {ops : Array Oper} {rest : List Oper} {o : Oper} {a : Act} {Q : Exit → Act → World → Prop} {K : Act → World → Prop} {E : Prop}
theorem step_append_pr {t T : TypeId} (st : Sty t T 2 4) (wr : World) (hgd : o.guard = none) (s x : Operand)
    (ho : o.op = .call { callee := .builtin .append, args := #[s, x], argTypes := #[t, t] })
    (B : Nat) (v : Value) (l : List Pr) (y : Pr) (hs : a.eval s = v) (hown : OwnP B T v l wr)
    (hx : a.eval x = .slice (some ⟨wr.heap.size, 0, none⟩) 1 1) (hl : l.length ≤ 100000) (hB : B ≤ wr.heap.size)
    (h : ∀ v' w', OwnP B T v' (l ++ [y]) w' → Only (fun k => v.ownBlock = some k) wr w' → K (a.put o.dst v') w') :
    if Region.wanted o (yielded ops a.tmps) = true then Oper.wp Try.prog o a (wr.alloc (.cells #[.int .u16 (y.pid : Nat), .int .u16 (y.blp : Nat)] T)) K Q else E := by
  refine step_append_struct _ hgd s x st ho B v (l.map Pr.lst) hs (OwnS.only hown ((Only.refl (fun _ => False) wr).alloc _) (by simp)) wr.heap.size y.lst hx (Is.made wr _ _) rfl (by simp [Pr.lst, Value.oneCell']) (by simpa using hl) (show 4 ≤ 100000 by decide) (by simp; omega) (fun v' w' h1 h2 => h v' w' ?_ (((Only.refl _ wr).alloc _).trans h2 (fun i hi e => e)))
  unfold OwnP
  rw [List.map_append]
  exact h1
theorem wpList_append_pr {t T : TypeId} (st : Sty t T 2 4) (wr : World) (hgd : o.guard = none) (s x : Operand)
    (ho : o.op = .call { callee := .builtin .append, args := #[s, x], argTypes := #[t, t] })
    (B : Nat) (v : Value) (l : List Pr) (y : Pr) (hs : a.eval s = v) (hown : OwnP B T v l wr) (Y Z : Int) (hY : Y = (y.pid : Int)) (hZ : Z = (y.blp : Int))
    (hx : a.eval x = .slice (some ⟨wr.heap.size, 0, none⟩) 1 1) (hl : l.length ≤ 100000) (hB : B ≤ wr.heap.size)
    (h : ∀ v' w', OwnP B T v' (l ++ [y]) w' → Only (fun k => v.ownBlock = some k) wr w' → wpList Try.prog ops Q rest (a.put o.dst v') w') :
    wpList Try.prog ops Q (o :: rest) a (wr.alloc (.cells #[.int .u16 Y, .int .u16 Z] T)) := by
  subst hY hZ
  refine wpList_append_struct _ hgd s x st ho B v (l.map Pr.lst) hs (OwnS.only hown ((Only.refl (fun _ => False) wr).alloc _) (by simp)) wr.heap.size y.lst hx (Is.made wr _ _) rfl (by simp [Pr.lst, Value.oneCell']) (by simpa using hl) (show 4 ≤ 100000 by decide) (by simp; omega) (fun v' w' h1 h2 => h v' w' ?_ (((Only.refl _ wr).alloc _).trans h2 (fun i hi e => e)))
  unfold OwnP
  rw [List.map_append]
  exact h1
end

set_option maxRecDepth 100000 in
set_option maxHeartbeats 2000000 in
theorem pairs_is (v : Value) (l : List Pr) (w : World) (hr : RdP w v l) (hl : l.length ≤ 10000) :
    Calls Try.prog 27 #[v] w fun e w' => ∃ v', e = .returned v' ∧ OwnP w.heap.size 83 v' l w' ∧ Only (fun _ => False) w w' := by
  obtain ⟨A1, c1, rfl, hlc1, hh1⟩ := hr
  have H1 := Lib.hid hh1
  obtain ⟨L, hL⟩ : ∃ L, l.length = L := ⟨_, rfl⟩
  have HL := Lib.hid hL
  rw [hL] at hl hlc1 ⊢
  obtain ⟨B, hB⟩ : ∃ n, w.heap.size = n := ⟨_, rfl⟩
  have HB := Lib.hid hB
  rw [hB]
  clear hL hh1 hB
  go_enter Try.func27, Try.ntmps27
  go_wp2
  go_loopw [3, 4] (fun s3 s4 wr => ∃ k : Nat, k ≤ L ∧ s4 = .int .i64 k ∧ OwnP B 83 s3 (l.take k) wr ∧ Only (fun _ => False) w wr) (fun _ s4 _ => L - (intOf s4).toNat)
  case atStart => exact ⟨0, by omega, rfl, OwnP.nil w B _, Only.refl _ _⟩
  case round =>
    obtain ⟨k, hk, rfl, hown, ho⟩ := hrel
    have OW := Lib.hid hown
    have O3 := Lib.hid ho
    obtain ⟨A3, c3, e3, -⟩ := hown.slice
    have LT := Lib.hid (show (l.take k).length = k from by rw [List.length_take, HL.out]; omega)
    rw [LT.out] at e3
    subst e3
    clear hown ho
    by_cases hkl : k < L
    · have hkb : k < l.length := by rw [HL.out]; exact hkl
      obtain ⟨y, hx⟩ : ∃ x, l[k]? = some x := ⟨_, List.getElem?_eq_getElem hkb⟩
      obtain ⟨g, o, rfl, hcell⟩ := H1.out (by rw [HL.out]; omega)
      have P0 := Lib.hid (hcell k y hx)
      have HGW := Lib.hid (show g < w.heap.size from World.block_lt_of_cell? w _ (hcell k y hx).1)
      obtain ⟨q0, q1⟩ := P0.out.only O3.out (by simp)
      have HTK := Lib.hid (take_snoc hx)
      have hkI : (k : Int) < (L : Int) := by omega
      have SZ := Lib.hid (show B ≤ wr.heap.size from by rw [← HB.out]; exact O3.out.size)
      have LX := Lib.hid (show (l.take k).length ≤ 100000 from by rw [LT.out]; omega)
      clear hcell hx hkb
      go_upto_region 5 with (fail)
      have KF1 := Lib.hid (show wr.drew.cell? ⟨g, o + k * 2, none⟩ = some (.int .u16 (y.pid : Nat)) ∧ wr.drew.cell? ⟨g, o + k * 2 + 1, none⟩ = some (.int .u16 (y.blp : Nat)) from ⟨q0, q1⟩)
      have KF2 := Lib.hid (fun ob => (show (wr.drew.alloc ob).cell? ⟨g, o + k * 2, none⟩ = some (.int .u16 (y.pid : Nat)) ∧ (wr.drew.alloc ob).cell? ⟨g, o + k * 2 + 1, none⟩ = some (.int .u16 (y.blp : Nat)) from by
        have h := PCells.only (S := fun _ => False) KF1.out ((Only.refl (fun _ => False) wr.drew).alloc ob) (by simp)
        exact h))
      have KF3 := Lib.hid (fun w7 (hp7 : Only (fun q => (Value.slice A3 k c3).ownBlock = some q) wr.drew w7) => (show w7.cell? ⟨g, o + k * 2, none⟩ = some (.int .u16 (y.pid : Nat)) ∧ w7.cell? ⟨g, o + k * 2 + 1, none⟩ = some (.int .u16 (y.blp : Nat)) from by
        have hg : ¬ (Value.slice A3 k c3).ownBlock = some g := fun e => by
          have := (OW.out.1.lt g e).1
          have := HB.out
          have := HGW.out
          omega
        exact PCells.only KF1.out hp7 hg))
      go_region_held3 (fun w' => w'.cell? ⟨g, o + k * 2, none⟩ = some (.int .u16 (y.pid : Nat)) ∧ w'.cell? ⟨g, o + k * 2 + 1, none⟩ = some (.int .u16 (y.blp : Nat))) (first | exact KF1.out | exact KF2.out _ | exact KF3.out _ hp7) (first
        | (refine step_append_pr sty_rp _ (by rfl) (.tmp 11) (.tmp 23) (by rfl) B (.slice A3 k c3) (l.take k) y (by rfl) (OW.out.only (only_drewN _ 1) (by simp)) (by rfl) LX.out SZ.out ?_; intro v7 w7 hr7 hp7))
      rw [← HTK.out] at hr7
      have HE := Lib.hid hr7
      have HO := Lib.hid ((only_more O3.out (only_drewN wr 1)).trans hp7 (fun i hi e => by have := (OW.out.1.lt i e).1; have := HB.out; omega))
      clear hr7 hp7
      go_wp2
      refine ⟨⟨k + 1, by omega, by go_num, HE.out, HO.out⟩, by simp [intOf]; omega⟩
    · obtain rfl : k = L := by omega
      have hP := OW.out
      rw [List.take_of_length_le (by rw [HL.out]; exact Nat.le_refl _)] at hP
      have HP := Lib.hid hP
      clear hP
      go_wp2
      go_ret
      exact ⟨_, rfl, HP.out, O3.out⟩

set_option maxRecDepth 100000 in
set_option maxHeartbeats 2000000 in
theorem samenums_yes (va vb : Value) (l : List Nat) (w : World) (ha : Rd .u16 w va (nats l)) (hb : Rd .u16 w vb (nats l)) (hl : l.length ≤ 1000000) :
    Calls Try.prog 30 #[va, vb] w fun e w' => e = .returned (.bool true) ∧ Only (fun _ => False) w w' := by
  obtain ⟨A1, c1, rfl, hlc1, hh1⟩ := ha
  obtain ⟨A2, c2, rfl, hlc2, hh2⟩ := hb
  rw [nats_length] at *
  have H1 := Lib.hid hh1
  have H2 := Lib.hid hh2
  obtain ⟨L, hL⟩ : ∃ L, l.length = L := ⟨_, rfl⟩
  have HL := Lib.hid hL
  rw [hL] at hl hlc1 hlc2 ⊢
  clear hL hh1 hh2
  go_enter Try.func30, Try.ntmps30
  go_wp2
  go_loopw [5] (fun s5 wr => ∃ k : Nat, k ≤ L ∧ s5 = .int .i64 k ∧ ∃ n, wr = w.drewN n) (fun s5 _ => L - (intOf s5).toNat)
  case atStart => exact ⟨0, by omega, rfl, 0, by simp [World.drewN]⟩
  case round =>
    obtain ⟨k, hk, rfl, n, rfl⟩ := hrel
    by_cases hkl : k < L
    · have hkI : (k : Int) < (L : Int) := by omega
      obtain ⟨g1, o1, rfl, hc1⟩ := H1.out (by rw [nats_length, HL.out]; omega)
      obtain ⟨g2, o2, rfl, hc2⟩ := H2.out (by rw [nats_length, HL.out]; omega)
      have hkn : k < (nats l).length := by rw [nats_length, HL.out]; exact hkl
      have r1 := hc1 k hkn
      have r2 := hc2 k hkn
      generalize (nats l)[k] = z at r1 r2
      clear hc1 hc2 hkn
      go_wp2
      go_quiet (fail)
      go_wp2
      exact ⟨⟨k + 1, by omega, by go_num, _, rfl⟩, by simp [intOf]; omega⟩
    · obtain rfl : k = L := by omega
      go_wp2
      go_ret
      exact ⟨rfl, only_drewN w n⟩
end Go.Proofs.Ytefcimkopgcagaa
