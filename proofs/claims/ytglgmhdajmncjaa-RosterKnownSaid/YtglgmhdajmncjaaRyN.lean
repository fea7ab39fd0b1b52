/- roster: the reference's New, Leave, Join; ref. Conditions: as each says. -/
import Derived.Test.YtglgmhdajmncjaaRyM
import Derived.Test.YtglgmhdajmncjaaRowT
set_option linter.unusedVariables false
set_option linter.unusedSimpArgs false
namespace Go.Proofs.Ytglgmhdajmncjaa
open Go Go.RowKit

theorem results_is1 {P : Program} {fn : Func} {p : Tmp} {ty : TypeId} (h : fn.results = #[.cell p ty]) (tmps : Array Value) (w : World) (g : Nat) (t : TypeId) (cs : Array Value) (d : TypeDesc)
    (hp : tmps.getD p undef = .pointer (some ⟨g, 0, none⟩)) (hg : Is w g t cs)
    (hu : P.underlying ty = some d) (hd : (match d with | .struct _ | .array _ _ => true | _ => false) = true) (hi : (P.info? ty).map (·.size) = some cs.size) :
    (results fn tmps).run P w = .ok (.agg cs) w := by
  have hp' : tmps[p]?.getD undef = .pointer (some ⟨g, 0, none⟩) := by simpa using hp
  simp [results, h, hp', asAddr, run_loadVar_row w g t ty cs (0, 0) d hg hu hd hi]
set_option maxRecDepth 100000 in
set_option maxHeartbeats 1000000 in
theorem ref_is (m : Mb) (w : World) : Calls Try.prog 25 #[mbV m] w (SaysR (mbV m) w) := by
  obtain ⟨mi, mo, ma, mm⟩ := m
  go_enter Try.func25, Try.ntmps25
  go_upto_region 1 with (fail)
  have HB := Lib.hid (Is.made w 58 #[.int .i64 mi, .int .u32 (mo : Int), .int .u32 (ma : Int), .bool mm])
  have HR := Lib.hid (Is.made (w.alloc (.cells #[.int .i64 mi, .int .u32 (mo : Int), .int .u32 (ma : Int), .bool mm] 58)) 65 zeroMb)
  have e1 : (w.alloc (.cells #[.int .i64 mi, .int .u32 (mo : Int), .int .u32 (ma : Int), .bool mm] 58)).heap.size = w.heap.size + 1 := by simp
  rw [e1] at HR
  replace HB := Lib.hid (HB.out.only ((Only.refl (fun _ => False) _).alloc (.cells zeroMb 65)) (by simp))
  have HO := Lib.hid (((Only.refl (fun _ => False) w).alloc (.cells #[.int .i64 mi, .int .u32 (mo : Int), .int .u32 (ma : Int), .bool mm] 58)).alloc (.cells zeroMb 65))
  obtain ⟨sb, hsb⟩ : ∃ sb, w.heap.size = sb := ⟨_, rfl⟩
  have HSB := Lib.hid hsb
  show Code.wp _ _ _ _ ((w.alloc (.cells #[.int .i64 mi, .int .u32 (mo : Int), .int .u32 (ma : Int), .bool mm] 58)).alloc (.cells zeroMb 65))
  generalize (w.alloc (.cells #[.int .i64 mi, .int .u32 (mo : Int), .int .u32 (ma : Int), .bool mm] 58)).alloc (.cells zeroMb 65) = w2 at *
  rw [hsb] at HR HB ⊢
  obtain ⟨rb, hrb⟩ : ∃ rb, sb + 1 = rb := ⟨_, rfl⟩
  have HRB := Lib.hid hrb
  rw [hrb] at HR ⊢
  clear e1 hsb hrb
  have c0 : w2.cell? ⟨sb, 0, none⟩ = some (.int .i64 mi) := HB.out.cell 0
  have c1 : w2.cell? ⟨sb, 1, none⟩ = some (.int .u32 (mo : Int)) := HB.out.cell 1
  have c2 : w2.cell? ⟨sb, 2, none⟩ = some (.int .u32 (ma : Int)) := HB.out.cell 2
  have c3 : w2.cell? ⟨sb, 3, none⟩ = some (.bool mm) := HB.out.cell 3
  go_wp2_with (refine wpList_store_is rfl 65 _ _ rfl rb #[.int .i64 mi, .int .u32 (mo : Int), .int .u32 (ma : Int), .bool mm] rfl rfl _ _ HR.out Try.sizeRm rfl (by simp [Value.oneCell']) ?_; intro w4 hI4 hO5; replace hI4 := Lib.hid hI4; replace hO5 := Lib.hid hO5)
  refine bodyPost_ret (results_is1 Try.results25 _ w4 rb 65 _ _ rfl hI4.out Try.underlying65 rfl Try.sizeRm) rfl ?_
  refine ⟨rfl, HO.out.trans hO5.out (fun i hi e => ?_)⟩
  have := HSB.out; have := HRB.out; omega
/-- What the reference answers: a roster, in whose place nothing that was there is written. -/
def RAns (B : Nat) (most : Int) (code : Nat) (l : List Mb) (v : Value) (w : World) (e : Ending) (w' : World) : Prop :=
  ∃ v', e = .returned (.tuple #[rrV most v', .int .i64 (code : Int)]) ∧ OwnS w' B 65 4 v' (mbRows l) ∧ Only (fun _ => False) w w' ∧ ∀ k, v'.ownBlock = some k → v.ownBlock = some k ∨ w.heap.size ≤ k
def zeroRo : Array Value := #[.int .i64 0, .slice none 0 0]
set_option maxRecDepth 100000 in
set_option maxHeartbeats 1000000 in
theorem rnew14_no (z : Int) (w : World) (h : z < 0 ∨ 32 < z) : Calls Try.prog 20 #[.int .i64 z] w (SaysR (.tuple #[rrV 0 (.slice none 0 0), .int .i64 2]) w) := by
  by_cases h1 : z < 0
  · go_enter Try.func20, Try.ntmps20
    go_wp2
    refine bodyPost_ret (results_is Try.results20 _ _ w.heap.size 54 _ _ (.int .i64 2) rfl rfl (Is.made w _ zeroRo) Try.underlying54 rfl Try.sizeRo) rfl ?_
    exact ⟨rfl, (Only.refl _ w).alloc _⟩
  · have h2 : z > 32 := by omega
    go_enter Try.func20, Try.ntmps20
    go_wp2
    refine bodyPost_ret (results_is Try.results20 _ _ w.heap.size 54 _ _ (.int .i64 2) rfl rfl (Is.made w _ zeroRo) Try.underlying54 rfl Try.sizeRo) rfl ?_
    exact ⟨rfl, (Only.refl _ w).alloc _⟩
set_option maxRecDepth 100000 in
set_option maxHeartbeats 1000000 in
theorem rnew14_yes (n : Nat) (w : World) (h : n ≤ 32) : Calls Try.prog 20 #[.int .i64 (n : Int)] w (SaysR (.tuple #[rrV (n : Int) (.slice none 0 0), .int .i64 0]) w) := by
  have h1 : ¬ (n : Int) < 0 := by omega
  have h2 : ¬ (n : Int) > 32 := by omega
  go_enter Try.func20, Try.ntmps20
  go_wp2
  refine bodyPost_ret (results_is Try.results20 _ _ w.heap.size 54 _ _ (.int .i64 0) rfl rfl (Is.made w _ #[.int .i64 (n : Int), .slice none 0 0]) Try.underlying54 rfl Try.sizeRo) rfl ?_
  exact ⟨rfl, (Only.refl _ w).alloc _⟩
theorem gone_len : ∀ (L : List Mb) (id : Int), ((L.filter fun x => x.id != id).length = L.length) ↔ getM L id = none
  | [], id => by simp [getM]
  | m :: L, id => by
    have ih := gone_len L id
    unfold getM at ih ⊢
    have hle := List.length_filter_le (fun x : Mb => x.id != id) L
    by_cases h : m.id = id
    · rw [List.filter_cons_of_neg (by simp [h]), List.find?_cons_of_pos (by simp [h])]
      simp only [List.length_cons, reduceCtorEq, iff_false]
      omega
    · rw [List.filter_cons_of_pos (by simp [h]), List.find?_cons_of_neg (by simp [h])]
      exact ⟨fun e => ih.1 (by simp only [List.length_cons] at e; omega), fun e => by simp only [List.length_cons]; rw [ih.2 e]⟩
set_option maxRecDepth 100000 in
set_option maxHeartbeats 8000000 in
theorem rleave14_is (B : Nat) (id : Int) (r : Ro) (v : Value) (w : World) (h : OwnS w B 65 4 v (mbRows r.l)) (hl : r.l.length ≤ 1000) (hB : B ≤ w.heap.size) :
    Calls Try.prog 22 #[rrV (r.most : Int) v, .int .i64 id] w (RAns B (r.most : Int) (r.leave id).2 (r.leave id).1.l v w) := by
  have hr : r.leave id = if (getM r.l id).isSome then ({ r with l := r.l.filter fun x => x.id != id }, 0) else (r, 130) := rfl
  generalize r.leave id = q at *
  have HQ := Lib.hid hr
  obtain ⟨L, hL⟩ : ∃ L, r.l = L := ⟨_, rfl⟩
  have HL := Lib.hid hL
  obtain ⟨most, hmost⟩ : ∃ most : Int, (r.most : Int) = most := ⟨_, rfl⟩
  rw [hL] at h hl
  rw [hmost]
  have HV := Lib.hid h
  obtain ⟨A, c, rfl, hc⟩ := h.slice
  rw [mbRows_length] at HV h hc ⊢
  obtain ⟨N, hN⟩ : ∃ N, L.length = N := ⟨_, rfl⟩
  have HN := Lib.hid hN
  rw [hN] at hl hc h HV ⊢
  clear hN h hr hL hmost
  go_enter Try.func22, Try.ntmps22
  go_upto_region 1 with (fail)
  have o1 := (Only.refl (fun _ => False) w).alloc (.cells #[.int .i64 most, .slice A N c] 54)
  have HB := Lib.hid (Is.made w 54 #[.int .i64 most, .slice A N c])
  have HR := Lib.hid (Is.made (w.alloc (.cells #[.int .i64 most, .slice A N c] 54)) 54 zeroRo)
  have e1 : (w.alloc (.cells #[.int .i64 most, .slice A N c] 54)).heap.size = w.heap.size + 1 := by simp
  rw [e1] at HR
  have o2 := o1.alloc (.cells zeroRo 54)
  replace HB := Lib.hid (HB.out.only ((Only.refl (fun _ => False) _).alloc (.cells zeroRo 54)) (by simp))
  have HO := Lib.hid o2
  obtain ⟨sb, hsb⟩ : ∃ sb, w.heap.size = sb := ⟨_, rfl⟩
  have HSB := Lib.hid hsb
  show Code.wp _ _ _ _ ((w.alloc (.cells #[.int .i64 most, .slice A N c] 54)).alloc (.cells zeroRo 54))
  generalize (w.alloc (.cells #[.int .i64 most, .slice A N c] 54)).alloc (.cells zeroRo 54) = w2 at *
  rw [hsb] at HR HB ⊢
  obtain ⟨rb, hrb⟩ : ∃ rb, sb + 1 = rb := ⟨_, rfl⟩
  have HRB := Lib.hid hrb
  rw [hrb] at HR ⊢
  clear o1 o2 e1 hsb hrb
  have H0 := Lib.hid (show OwnS w2 w.heap.size 65 4 (.slice none 0 0) (mbRows ((L.take 0).filter fun x => x.id != id)) from OwnS.nil _ _ _ _)
  have hsr : ¬ sb = rb := by have := HRB.out; omega
  go_wp2
  go_loopw [6, 7] (fun s6 s7 wr => ∃ k : Nat, k ≤ N ∧ s7 = .int .i64 (k : Int) ∧ (∃ A' n' c', s6 = .slice A' n' c') ∧ Hid (Only (fun j => sb < j ∧ rb < j) w2 wr) ∧ Hid (OwnS wr w2.heap.size 65 4 s6 (mbRows ((L.take k).filter fun x => x.id != id)))) (fun _ s7 _ => N - (intOf s7).toNat)
  case atStart => exact ⟨0, by omega, rfl, ⟨_, _, _, rfl⟩, Lib.hid (Only.refl _ _), Lib.hid (OwnS.nil _ _ _ _)⟩
  case round =>
    obtain ⟨k, hk, rfl, ⟨A', n', c', rfl⟩, hO, hR⟩ := hrel
    have HBr := Lib.hid (HB.out.only hO.out (fun e => by omega))
    have HRr := Lib.hid (HR.out.only hO.out (fun e => by omega))
    have c1 : wr.cell? ⟨sb, 1, none⟩ = some (.slice A N c) := HBr.out.cell 1
    by_cases hkl : k < N
    · have hkI : (k : Int) < (N : Int) := by omega
      have hkx : k < L.length := by rw [HN.out]; exact hkl
      have hrow0 := HV.out.only HO.out (by simp)
      have hsz := HRB.out
      have hsz2 := HSB.out
      have hrow := hrow0.only hO.out (fun j hj e => by have := (HV.out.lt j hj).2; omega)
      obtain ⟨g, c'', hgc, -⟩ := hrow.place (by rw [mbRows_length]; omega)
      obtain ⟨hA, -, -⟩ := Value.slice.inj hgc
      subst hA
      clear hgc
      have hx : L[k]? = some L[k] := List.getElem?_eq_getElem hkx
      have HRG := Lib.hid (hrow.range (g := g) rfl (mbRows_get hx))
      have HT := Lib.hid (show (L.take (k + 1)).filter (fun x => x.id != id) = (L.take k).filter (fun x => x.id != id) ++ [L[k]].filter (fun x => x.id != id) from by rw [List.take_add_one, hx, List.filter_append]; rfl)
      generalize L[k] = x at *
      obtain ⟨xi, xo, xa, xm⟩ := x
      have r0 : wr.cell? ⟨g, k * 4, none⟩ = some (.int .i64 xi) := range_cell (j := 0) HRG.out rfl
      clear hrow hrow0 hx hkx
      by_cases hx : xi = id
      · have HE := Lib.hid (show (L.take (k + 1)).filter (fun x => x.id != id) = (L.take k).filter (fun x => x.id != id) from by rw [HT.out]; simp [hx])
        have hb : (xi == id) = true := by simpa using hx
        have hb2 : (xi != id) = false := by simpa using hx
        clear hx
        go_wp2
        exact ⟨⟨k + 1, by omega, by go_num, ⟨_, _, _, rfl⟩, hO, by rw [HE.out]; exact hR⟩, by simp [intOf]; omega⟩
      · have HE := Lib.hid (show (L.take (k + 1)).filter (fun x => x.id != id) = (L.take k).filter (fun x => x.id != id) ++ [⟨xi, xo, xa, xm⟩] from by rw [HT.out]; simp [hx])
        have hb : (xi == id) = false := by simpa using hx
        have hb2 : (xi != id) = true := by simpa using hx
        have HLEN := Lib.hid (show (mbRows ((L.take k).filter fun x => x.id != id)).length ≤ 100000 from by
          rw [mbRows_length]
          have := List.length_filter_le (fun x : Mb => x.id != id) (L.take k)
          rw [List.length_take] at this
          omega)
        clear hx
        obtain ⟨F, hF⟩ : ∃ F, (L.take k).filter (fun x => x.id != id) = F := ⟨_, rfl⟩
        rw [hF] at HE HLEN hR
        obtain ⟨X, hX⟩ : ∃ X, mbRows F = X := ⟨_, rfl⟩
        have HX := Lib.hid hX
        rw [hX] at HLEN hR
        clear hF hX
        go_wp2_with (first
          | (refine wpList_load_mid rfl 65 _ rfl g (k * 4) rfl [.int .i64 xi, .int .u32 (xo : Int), .int .u32 (xa : Int), .bool xm] _ HRG.out Try.underlying65 rfl Try.sizeRm ?_)
          | (at_builtin; refine wpList_append_structN _ rfl _ _ sty_rm rfl w2.heap.size _ _ rfl (OwnS.only hR.out ((Only.refl (fun _ => False) wr).alloc _) (by simp)) wr.heap.size [.int .i64 xi, .int .u32 (xo : Int), .int .u32 (xa : Int), .bool xm] rfl (Is.made wr _ _) rfl (by simp [Value.oneCell']) HLEN.out (by decide) (by have := hO.out.size; simp; omega) ?_; intro A5 c5 w5 hown5 ho5 hn5; replace hown5 := Lib.hid hown5; replace ho5 := Lib.hid ho5; clear hn5))
        have hw2 := HRr.out.lt
        refine ⟨⟨k + 1, by omega, by go_num, ⟨_, _, _, rfl⟩, Lib.hid ((hO.out.alloc _).trans ho5.out (fun i hi e => ?_)), Lib.hid ?_⟩, by simp [intOf]; omega⟩
        · have := (hR.out.lt i e).1; omega
        · rw [HE.out, mbRows_snoc, HX.out]; exact hown5.out
    · obtain rfl : k = N := by omega
      have HF := Lib.hid (show (L.take k).filter (fun x => x.id != id) = L.filter (fun x => x.id != id) from by rw [← HN.out, List.take_length])
      have hRF := hR.out
      rw [HF.out] at hRF
      have hn := OwnS.slice hRF
      obtain ⟨A2, c2, he, -⟩ := hn
      obtain ⟨hA2, hn2, hc2⟩ := Value.slice.inj he
      rw [mbRows_length] at hn2
      subst hA2 hc2
      have HRF := Lib.hid hRF
      have hszw : rb < w2.heap.size := HR.out.lt
      have hO2 := Lib.hid (show Only (fun _ => False) w wr from HO.out.trans hO.out (fun i hi e => by have := HSB.out; omega))
      clear hRF hR he HF
      rcases hg : getM L id with _ | m
      · have hlen := (gone_len L id).2 hg
        have HE := Lib.hid (show q = (r, 130) from by rw [HQ.out, HL.out, hg]; rfl)
        have hnk : n' = k := by rw [hn2, hlen, HN.out]
        subst hnk
        clear hg hlen hn2
        go_wp2_with (first
          | (refine wpList_load_row (o := ⟨some 37, _, _, _, _, _⟩) rfl _ _ rfl sb rfl _ _ _ _ HBr.out Try.underlying54 rfl Try.sizeRo ?_)
          | (refine wpList_store_is rfl 54 _ _ rfl rb #[.int .i64 most, .slice A n' c] rfl rfl _ _ HRr.out Try.sizeRo rfl (by simp [Value.oneCell']) ?_; intro w4 hI4 hO5; replace hI4 := Lib.hid hI4; replace hO5 := Lib.hid hO5))
        refine bodyPost_ret (results_is Try.results22 _ w4 rb 54 _ _ (.int .i64 130) rfl rfl hI4.out Try.underlying54 rfl Try.sizeRo) rfl ?_
        have hO6 : Only (fun _ => False) w w4 := hO2.out.trans hO5.out (fun i hi e => by have := HSB.out; have := HRB.out; omega)
        rw [HE.out]
        exact ⟨_, rfl, by rw [HL.out]; exact HV.out.only hO6 (by simp), hO6, fun j hj => .inl hj⟩
      · have hlen : (L.filter fun x => x.id != id).length ≠ L.length := fun e => by rw [(gone_len L id).1 e] at hg; cases hg
        have HE := Lib.hid (show q = ({ r with l := L.filter fun x => x.id != id }, 0) from by rw [HQ.out, HL.out, hg]; rfl)
        have hnk : ¬ (n' : Int) = (k : Int) := by rw [hn2]; have := HN.out; omega
        have hnk2 : ((n' : Int) == (k : Int)) = false := by simpa using hnk
        have c0 : wr.cell? ⟨sb, 0, none⟩ = some (.int .i64 most) := HBr.out.cell 0
        clear hg hlen hn2
        go_wp2_with (refine wpList_store_is rfl 54 _ _ rfl rb #[.int .i64 most, .slice A' n' c'] rfl rfl _ _ HRr.out Try.sizeRo rfl (by simp [Value.oneCell']) ?_; intro w4 hI4 hO5; replace hI4 := Lib.hid hI4; replace hO5 := Lib.hid hO5)
        refine bodyPost_ret (results_is Try.results22 _ w4 rb 54 _ _ (.int .i64 0) rfl rfl hI4.out Try.underlying54 rfl Try.sizeRo) rfl ?_
        have hO6 : Only (fun _ => False) w w4 := hO2.out.trans hO5.out (fun i hi e => by have := HSB.out; have := HRB.out; omega)
        rw [HE.out]
        have hfin := HRF.out.only hO5.out (fun j hj e => by have := (HRF.out.lt j hj).1; omega)
        exact ⟨_, rfl, ⟨owned_low hfin.1 (by have := HO.out.size; omega), hfin.2⟩, hO6, fun j hj => .inr (by have := (HRF.out.lt j hj).1; have := HO.out.size; omega)⟩
end Go.Proofs.Ytglgmhdajmncjaa
