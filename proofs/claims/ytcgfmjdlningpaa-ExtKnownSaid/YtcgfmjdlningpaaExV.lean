/- easellaw03.refs, few. Conditions: as each says. -/
import Derived.Test.YtcgfmjdlningpaaExT
import Derived.Test.YtcgfmjdlningpaaExS
import Derived.Deep.RegionHeld3
set_option linter.unusedVariables false
namespace Go.Proofs.Ytcgfmjdlningpaa
open Go.RowKit

/-- An element in new memory is appended. -/
theorem step_append_el {ops : Array Oper} {o : Oper} {a : Act} {K : Act → World → Prop} {Q : Exit → Act → World → Prop} {E : Prop} {t T : TypeId} {bytes : Nat} (st : Sty t T 2 bytes) (wr : World) (hgd : o.guard = none) (s x : Operand)
    (ho : o.op = .call { callee := .builtin .append, args := #[s, x], argTypes := #[t, t] })
    (B : Nat) (v : Value) (xss : List (List Value)) (y : El) (u : Value) (hu : ∃ A n c, u = .slice A n c) (hs : a.eval s = v) (hown : OwnS wr B T 2 v xss)
    (hx : a.eval x = .slice (some ⟨wr.heap.size, 0, none⟩) 1 1) (hl : xss.length ≤ 100000) (hby : bytes ≤ 100000) (hB : B ≤ wr.heap.size)
    (h : ∀ v' w', OwnS w' B T 2 v' (xss ++ [y.lst u]) → Only (fun k => v.ownBlock = some k) wr w' → K (a.put o.dst v') w') :
    if Region.wanted o (yielded ops a.tmps) = true then Oper.wp Try.prog o a (wr.alloc (.cells #[.int .u8 (y.id : Nat), u] T)) K Q else E :=
  step_append_struct _ hgd s x st ho B v xss hs (hown.only ((Only.refl (fun _ => False) wr).alloc _) (by simp)) wr.heap.size (y.lst u) hx (Is.made wr _ _) rfl (by obtain ⟨A, n, c, rfl⟩ := hu; simp [El.lst, Value.oneCell']) hl hby (by simp; omega)
    (fun v' w' h1 h2 => h v' w' h1 (((Only.refl _ wr).alloc _).trans h2 (fun i hi e => e)))
/-- Amid a round. -/
structure Rfs (x : El) (g o k B : Nat) (u s3 : Value) (vs : List Value) (l : List El) (w wx : World) : Prop where
  c : ECells wx g o k x u
  s : Src wx u x.data
  els : Els wx B 101 s3 vs l
  pure : Only (fun _ => False) w wx
theorem Rfs.go {x : El} {g o k B : Nat} {u s3 : Value} {vs : List Value} {l : List El} {w wx wy : World} (h : Rfs x g o k B u s3 vs l w wx) (ho : Only (fun _ => False) wx wy) : Rfs x g o k B u s3 vs l w wy :=
  ⟨h.c.only ho, h.s.of_only ho, h.els.pure ho, only_more h.pure ho⟩

set_option maxRecDepth 100000 in
set_option maxHeartbeats 4000000 in
theorem refs_is (va : Value) (l : List El) (w : World) (ha : RdE w va l) (hl : l.length ≤ 10000) (hd : ∀ x ∈ l, x.data.length ≤ 1000000) (hf : ∀ x ∈ l, x.id < 256) :
    Calls Try.prog 31 #[va] w fun e w' => ∃ v' vs, e = .returned v' ∧ Els w' w.heap.size 101 v' vs l ∧ Only (fun _ => False) w w' := by
  obtain ⟨A1, c1, rfl, hlc1, hh1⟩ := ha
  have HD := Lib.hid hd
  have HF := Lib.hid hf
  have H1 := Lib.hid hh1
  obtain ⟨L, hL⟩ : ∃ L, l.length = L := ⟨_, rfl⟩
  have HL := Lib.hid hL
  rw [hL] at hl hlc1 ⊢
  obtain ⟨B, hB⟩ : ∃ n, w.heap.size = n := ⟨_, rfl⟩
  have HB := Lib.hid hB
  rw [hB]
  clear hd hf hL hh1 hB
  go_enter Try.func31, Try.ntmps31
  go_wp2
  go_loopw [3, 4] (fun s3 s4 wr => ∃ (k : Nat) (vs : List Value), k ≤ L ∧ s4 = .int .i64 k ∧ Els wr B 101 s3 vs (l.take k) ∧ Only (fun _ => False) w wr) (fun _ s4 _ => L - (intOf s4).toNat)
  case atStart => exact ⟨0, [], by omega, rfl, by simpa using Els.nil w B 101, Only.refl _ _⟩
  case round =>
    obtain ⟨k, vs, hk, rfl, hp3, ho⟩ := hrel
    have P3 := Lib.hid hp3
    have O3 := Lib.hid ho
    have LT := Lib.hid (show (l.take k).length = k from by rw [List.length_take, HL.out]; omega)
    obtain ⟨A3, c3, e3, -⟩ := hp3.slice
    rw [LT.out] at e3
    subst e3
    clear hp3 ho
    by_cases hkl : k < L
    · have hkb : k < l.length := by rw [HL.out]; exact hkl
      obtain ⟨y, hx⟩ : ∃ x, l[k]? = some x := ⟨_, List.getElem?_eq_getElem hkb⟩
      obtain ⟨g, o, rfl, hcell⟩ := H1.out (by rw [HL.out]; omega)
      obtain ⟨u, p1, s1⟩ := hcell k y hx
      have hm := List.mem_of_getElem? hx
      have HXL := Lib.hid (HD.out y hm)
      have hxf := HF.out y hm
      have HTK := Lib.hid (show l.take (k + 1) = l.take k ++ [y] from by
        rw [List.take_succ_eq_append_getElem hkb]
        have := List.getElem?_eq_getElem hkb
        rw [hx] at this
        injection this with this
        rw [this])
      have SM := Lib.hid (show Rfs y g o k B u (.slice A3 k c3) vs (l.take k) wr wr from ⟨p1.only O3.out, s1.of_only O3.out, P3.out, Only.refl _ _⟩)
      obtain ⟨Au1, cu1, rfl⟩ := s1.slice
      have hkI : (k : Int) < (L : Int) := by omega
      have LX := Lib.hid (show (List.zipWith El.lst (l.take k) vs).length ≤ 100000 from by rw [P3.out.zip, LT.out]; omega)
      have SZ := Lib.hid (show B ≤ wr.heap.size from by rw [← HB.out]; exact O3.out.size)
      obtain ⟨bd, hbd⟩ : ∃ n, wr.heap.size = n := ⟨_, rfl⟩
      have HBD := Lib.hid hbd
      have HLOW := Lib.hid (show ∀ a ∈ vs, ∀ k, a.ownBlock = some k → k < bd from by rw [← hbd]; exact P3.out.bods.low)
      have BBD := Lib.hid (show B ≤ bd from by rw [← hbd]; exact SZ.out)
      have HGW := Lib.hid (show g < w.heap.size from World.block_lt_of_cell? w _ p1.1)
      clear hcell p1 s1 hx hm hkb hbd
      go_upto_region 5 with (fail)
      have KF := Lib.hid (show ∀ w', Rfs y g o k B (.slice Au1 y.data.length cu1) (.slice A3 k c3) vs (l.take k) wr w' → w'.cell? ⟨g, o + k * 2, none⟩ = some (.int .u8 (y.id : Nat)) ∧ w'.cell? ⟨g, o + k * 2 + 1, none⟩ = some (.slice Au1 y.data.length cu1) from fun w' h => ⟨h.c.1, h.c.2⟩)
      have SM0 := Lib.hid (show Rfs y g o k B (.slice Au1 y.data.length cu1) (.slice A3 k c3) vs (l.take k) wr wr.drew from SM.out.go ((Only.refl _ _).drewN 1))
      obtain ⟨q0, q1⟩ := SM.out.c
      have HOWN := Lib.hid (show Calls Try.prog 14 #[.slice Au1 y.data.length cu1] wr.drew (OwnRow bd (cellsOf y.data) wr.drew) from kitown_is _ y.data wr.drew bd (by have := HBD.out; have := SM0.out.pure.size; omega) SM0.out.s (by have := HXL.out; omega))
      have KF2 := Lib.hid (fun wo (ho : Only (fun _ => False) wr.drew wo) => KF.out _ (SM0.out.go ho))
      have KF3 := Lib.hid (fun wo o1 (ho : Only (fun _ => False) wr.drew wo) => KF.out _ (SM0.out.go (ho.alloc o1)))
      have KF4 := Lib.hid (fun wo w7 (ho : Only (fun _ => False) wr.drew wo) (hp7 : Only (fun q => (Value.slice A3 k c3).ownBlock = some q) wo w7) => (show w7.cell? ⟨g, o + k * 2, none⟩ = some (.int .u8 (y.id : Nat)) ∧ w7.cell? ⟨g, o + k * 2 + 1, none⟩ = some (.slice Au1 y.data.length cu1) from by
        have h := KF.out _ (SM0.out.go ho)
        have hg : ¬ (Value.slice A3 k c3).ownBlock = some g := fun e => by
          have := (P3.out.row.1.lt g e).1
          have := HB.out
          have := HGW.out
          omega
        exact ⟨(hp7.cell (World.block_lt_of_cell? _ _ h.1) hg).trans h.1, (hp7.cell (World.block_lt_of_cell? _ _ h.2) hg).trans h.2⟩))
      obtain ⟨dl, hdl⟩ : ∃ n, y.data.length = n := ⟨_, rfl⟩
      have HDL := Lib.hid hdl
      rw [hdl] at q1 KF SM SM0 HOWN KF2 KF3 KF4 HXL
      clear hdl
      go_region_held3 (fun w' => w'.cell? ⟨g, o + k * 2, none⟩ = some (.int .u8 (y.id : Nat)) ∧ w'.cell? ⟨g, o + k * 2 + 1, none⟩ = some (.slice Au1 dl cu1)) (first | exact KF.out _ SM0.out | exact KF2.out _ ho | exact KF3.out _ _ ho | exact KF4.out _ _ ho hp7) (first
        | (go_at_call 14; refine HOWN.out.mono ?_; rintro e wo ⟨v1, rfl, hu, ho, -⟩; obtain ⟨Av, cv, rfl, -⟩ := own_slice hu)
        | (refine step_append_el sty_re _ (by rfl) (.tmp 11) (.tmp 24) (by rfl) B (.slice A3 k c3) (List.zipWith El.lst (l.take k) vs) y _ ⟨_, _, _, rfl⟩ (by rfl) (P3.out.row.only (only_more ((Only.refl _ _).drewN 1) ho) (by simp)) (by rfl) LX.out (by decide) (Nat.le_trans SZ.out (Nat.le_trans (Only.drewN (Only.refl (fun _ => False) wr) 1).size ho.size)) ?_; intro v7 w7 hr7 hp7))
      rw [length_cellsOf] at hu hr7
      have hE := els_next (T := 101) (by decide) (x := y) (P3.out.pure (only_more ((Only.refl _ _).drewN 1) ho)) HLOW.out BBD.out hu hr7 hp7
      rw [← HTK.out] at hE
      have HE := Lib.hid hE
      have HO := Lib.hid ((only_more O3.out (only_more ((Only.refl _ _).drewN 1) ho)).trans hp7 (fun i hi e => by have := (P3.out.row.1.lt i e).1; have := HB.out; omega))
      clear hE hr7 hp7 ho hu
      go_wp2
      refine ⟨⟨k + 1, _, by omega, by go_num, HE.out, HO.out⟩, by simp [intOf]; omega⟩
    · obtain rfl : k = L := by omega
      have hP := P3.out
      rw [List.take_of_length_le (by rw [HL.out]; exact Nat.le_refl _)] at hP
      have HP := Lib.hid hP
      clear hP
      go_wp2
      go_ret
      exact ⟨_, vs, rfl, HP.out, O3.out⟩

def fewE (l : List El) : Bool := decide (∀ x ∈ l.take 13, x.data.length ≤ 300) && decide (l.length ≤ 12)
set_option maxRecDepth 100000 in
set_option maxHeartbeats 1000000 in
theorem xfew_is (v : Value) (l : List El) (w : World) (hr : RdE w v l) (hl : l.length ≤ 9223372036854775807) (hd : ∀ x ∈ l, x.data.length ≤ 9223372036854775807) :
    Calls Try.prog 30 #[v] w fun e w' => e = .returned (.bool (fewE l)) ∧ w = w' := by
  obtain ⟨A, c, rfl, -, hh⟩ := hr
  have HH := Lib.hid hh
  have HD := Lib.hid hd
  obtain ⟨L, hL⟩ : ∃ L, l.length = L := ⟨_, rfl⟩
  have HL := Lib.hid hL
  rw [hL] at hl ⊢
  clear hh hL hd
  go_enter Try.func30, Try.ntmps30
  go_wp2
  go_loop [3] (fun i => ∃ k : Nat, k ≤ L ∧ k ≤ 13 ∧ i = .int .i64 k ∧ ∀ p ∈ l.take k, p.data.length ≤ 300) (fun i => L - (intOf i).toNat)
  case atStart => exact ⟨0, by omega, by omega, rfl, by simp⟩
  case round =>
    obtain ⟨k, hk, hk13, rfl, hsm⟩ := hrel
    have HSM := Lib.hid hsm
    clear hsm
    by_cases hkl : k < L
    · have hkI : (k : Int) < (L : Int) := by omega
      by_cases hk2 : k < 13
      · have hkb : k < l.length := by rw [HL.out]; exact hkl
        obtain ⟨p, hp⟩ : ∃ p, l[k]? = some p := ⟨_, List.getElem?_eq_getElem hkb⟩
        obtain ⟨g, o, rfl, hcell⟩ := HH.out (by rw [HL.out]; omega)
        obtain ⟨u, ⟨q0, q1⟩, hu2⟩ := hcell k p hp
        obtain ⟨Au, cu, rfl⟩ := hu2.slice
        have hkJ : (k : Int) < 13 := by omega
        have hm := List.mem_of_getElem? hp
        have hdl := HD.out p hm
        have hmt : p ∈ l.take 13 := by
          have e : (l.take 13)[k]? = some p := by rw [List.getElem?_take_of_lt hk2]; exact hp
          exact List.mem_of_getElem? e
        have HNX := Lib.hid (show p.data.length ≤ 300 → ∀ q ∈ l.take (k + 1), q.data.length ≤ 300 from fun h q hq => by
          rw [List.take_succ_eq_append_getElem hkb] at hq
          rcases List.mem_append.1 hq with hq | hq
          · exact HSM.out q hq
          · rw [List.mem_singleton.1 hq, show l[k] = p from by have := List.getElem?_eq_getElem hkb; rw [hp] at this; injection this with this; exact this.symm]
            exact h)
        have HNO := Lib.hid (show ¬ p.data.length ≤ 300 → fewE l = false from fun h => by
          unfold fewE
          rw [decide_eq_false (fun hh => h (hh p hmt)), Bool.false_and])
        clear hcell hu2 hp hm hkb hmt
        by_cases hb : p.data.length ≤ 300
        · have z : decide ((300 : Int) < (p.data.length : Int)) = false := decide_eq_false (by omega)
          have HN := Lib.hid (HNX.out hb)
          clear hb
          generalize p.data.length = bl at *
          go_wp2
          exact ⟨⟨k + 1, by omega, by omega, by go_num, HN.out⟩, by simp [intOf]; omega⟩
        · have z : decide ((300 : Int) < (p.data.length : Int)) = true := decide_eq_true (by omega)
          have HN := Lib.hid (HNO.out hb)
          clear hb
          generalize p.data.length = bl at *
          go_wp2
          go_ret
          exact ⟨by rw [HN.out]; rfl, rfl⟩
      · have hk13' : k = 13 := by omega
        subst hk13'
        have HE := Lib.hid (show fewE l = false from by
          unfold fewE
          rw [HL.out, decide_eq_false (show ¬ L ≤ 12 from by omega), Bool.and_false])
        have z12 : decide ((L : Int) ≤ 12) = false := decide_eq_false (by omega)
        go_wp2
        go_ret
        exact ⟨by rw [HE.out]; rfl, rfl⟩
    · have hkl : k = L := by omega
      subst hkl
      have HT := Lib.hid (show l.take 13 = l.take k from by
        rw [List.take_of_length_le (show l.length ≤ k from by rw [HL.out]; exact Nat.le_refl _), List.take_of_length_le (show l.length ≤ 13 from by rw [HL.out]; exact hk13)])
      have HE := Lib.hid (show fewE l = decide (k ≤ 12) from by
        have := HSM.out
        unfold fewE
        rw [HT.out, decide_eq_true this, Bool.true_and, HL.out])
      obtain ⟨b, hb⟩ : ∃ b, decide (k ≤ 12) = b := ⟨_, rfl⟩
      rw [hb] at HE
      have z : decide ((k : Int) ≤ 12) = b := by rw [← hb]; exact decide_eq_decide.2 (by omega)
      clear hb
      go_wp2
      go_ret
      exact ⟨by rw [HE.out]; rfl, rfl⟩
end Go.Proofs.Ytcgfmjdlningpaa
