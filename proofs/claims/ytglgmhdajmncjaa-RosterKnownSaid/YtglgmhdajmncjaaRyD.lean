/- roster: New, All, Ids. Conditions: as each says. -/
import Derived.Test.YtglgmhdajmncjaaRyC
import Derived.Carry
set_option linter.unusedVariables false
set_option linter.unusedSimpArgs false
namespace Go.Proofs.Ytglgmhdajmncjaa
open Go Go.RowKit

/-- A row's copy, in new memory. -/
def RCopy (T : TypeId) (sz : Nat) (xss : List (List Value)) (w : World) (e : Ending) (w' : World) : Prop := ∃ v, e = .returned v ∧ OwnS w' w.heap.size T sz v xss ∧ Only (fun _ => False) w w'
set_option maxRecDepth 100000 in
set_option maxHeartbeats 400000 in
theorem clmb_nil (w : World) : Calls Try.prog 63 #[.slice none 0 0] w fun e w' => e = .returned (.slice none 0 0) ∧ w = w' := by
  have hq := fun (w : World) => Lib.run_eql_slice_nil (P := Try.prog) w 69 58 none 0 0 0 0 Try.underlying69
  simp at hq
  go_enter Try.func63, Try.ntmps63
  go_wp2
  go_ret
  exact ⟨rfl, rfl⟩
set_option maxRecDepth 100000 in
set_option maxHeartbeats 1000000 in
theorem clmb_some (B g n c : Nat) (xss : List (List Value)) (w : World) (h : OwnS w B 58 4 (.slice (some ⟨g, 0, none⟩) n c) xss) (h1 : ∀ u ∈ xss.flatten, u.oneCell' = true) (hn : xss.length ≤ 100000) :
    Calls Try.prog 63 #[.slice (some ⟨g, 0, none⟩) n c] w (RCopy 58 4 xss w) := by
  have hq := fun (w : World) => Lib.run_eql_slice_nil (P := Try.prog) w 69 58 (some ⟨g, 0, none⟩) n c 0 0 Try.underlying69
  simp at hq
  obtain ⟨i0, hi, hz0, hz1, hz2⟩ := info_parts Try.infoMb
  obtain ⟨cur, -, -, hxc, hcm, hnx⟩ := own_is h
  have Hl := Lib.hid (flat_length xss h.2)
  have H1 := Lib.hid h1
  have Hz := Lib.hid (show ∀ j u, xss.flatten[j]? = some u → (w.alloc (.cells #[] 58)).cell? ((⟨g, 0, none⟩ : Addr).add j) = some u from fun j u hu => Lib.cell?_alloc_some _ (by
    have := h.from_ (k := 0) j u (by simpa using hu)
    rw [add_plain]
    simpa using this))
  have HX := Lib.hid h.2
  have HN := Lib.hid hnx
  obtain ⟨news, hnews⟩ : ∃ x, xss.flatten = x := ⟨_, rfl⟩
  rw [hnews] at Hl H1 Hz
  have HNW := Lib.hid hnews
  rw [← hnx] at hn
  rw [← HN.out] at Hl
  clear hnews h h1 hnx hxc hcm
  go_enter Try.func63, Try.ntmps63
  go_wp2_with (at_builtin; refine wpList_append_own _ rfl _ _ 69 rfl w.heap.size 58 i0 (.agg zeroMb) 4 24 Try.underlying69 hi hz0 hz1 hz2 rfl (by decide) _ 0 [] rfl (World.ownsRow_lit w #[] 0 (Nat.le_refl _) (by decide) rfl) ⟨g, 0, none⟩ n c news rfl (by rw [Hl.out]) Hz.out H1.out (by unfold maxLen; omega) (by omega) (by simp) ?_)
  intro v' w1 hown hg _
  go_wp2
  go_ret
  refine ⟨_, rfl, ⟨?_, HX.out⟩, ?_⟩
  · rw [← HN.out, HNW.out]
    simpa using hown
  · exact ((Only.refl _ w).alloc _).grown hg (fun i hi hlt => by simp [Value.ownBlock] at hi; omega)
theorem clone_mb (B : Nat) (v : Value) (xss : List (List Value)) (w : World) (h : OwnS w B 58 4 v xss) (h1 : ∀ u ∈ xss.flatten, u.oneCell' = true) (hn : xss.length ≤ 100000) :
    Calls Try.prog 63 #[v] w (RCopy 58 4 xss w) := by
  rcases h.1.2 with ⟨rfl, h0⟩ | ⟨g, cap, cur, rfl, _⟩
  · refine (clmb_nil w).mono ?_
    rintro e w' ⟨rfl, rfl⟩
    have hx : xss = [] := List.eq_nil_of_length_eq_zero h0
    exact ⟨_, rfl, by rw [hx]; exact ⟨World.ownsRow_nil _ _ _ _, by simp⟩, Only.refl _ _⟩
  · exact clmb_some B g _ cap xss w h h1 hn
set_option maxRecDepth 100000 in
set_option maxHeartbeats 1000000 in
theorem mnew_no (z : Int) (w : World) (h : z < 0 ∨ 32 < z) : Calls Try.prog 19 #[.int .i64 z] w fun e w' => e = .returned (.tuple #[.pointer none, .int .i64 2]) ∧ w = w' := by
  by_cases h1 : z < 0
  · go_enter Try.func19, Try.ntmps19
    go_wp2
    go_ret2
    exact ⟨rfl, rfl⟩
  · have h2 : z > 32 := by omega
    go_enter Try.func19, Try.ntmps19
    go_wp2
    go_ret2
    exact ⟨rfl, rfl⟩
/-- An empty roster, in new memory. -/
def RMade (most : Nat) (w : World) (e : Ending) (w' : World) : Prop :=
  ∃ b mb, e = .returned (.tuple #[ptr b, .int .i64 0]) ∧ Ror w' w.heap.size b mb ⟨most, []⟩ (.slice none 0 0) ∧ Only (fun _ => False) w w'
set_option maxRecDepth 100000 in
set_option maxHeartbeats 1000000 in
theorem mnew_yes (most : Nat) (w : World) (h : most ≤ 32) : Calls Try.prog 19 #[.int .i64 (most : Int)] w (RMade most w) := by
  have h1 : ¬ (most : Int) < 0 := by omega
  have h2 : ¬ (most : Int) > 32 := by omega
  have hmm := @run_makeMap Try.prog
  go_enter Try.func19, Try.ntmps19
  go_wp2
  go_ret2
  have o1 : Only (fun _ => False) w (w.alloc (.map #[] 0)) := (Only.refl _ w).alloc _
  have e1 : (w.alloc (.map #[] 0)).heap.size = w.heap.size + 1 := by simp
  have hI := Is.made (w.alloc (.map #[] 0)) 109 (roCells ⟨most, []⟩ w.heap.size (.slice none 0 0))
  rw [e1] at hI
  refine ⟨w.heap.size + 1, w.heap.size, rfl, ⟨hI, (MapAt.made w .u32).only ((Only.refl (fun _ => False) _).alloc _) (by simp), OwnS.nil _ _ _ _, by omega, by omega⟩, o1.alloc _⟩
set_option maxRecDepth 100000 in
set_option maxHeartbeats 1000000 in
theorem all_nil (w : World) : Calls Try.prog 29 #[.pointer none] w fun e w' => e = .returned (.slice none 0 0) ∧ w = w' := by
  go_enter Try.func29, Try.ntmps29
  go_wp2_with fail
  refine (rthere_nil _).mono ?_
  rintro e w1 ⟨rfl, rfl⟩
  go_wp2
  go_ret
  exact ⟨rfl, rfl⟩
set_option maxRecDepth 100000 in
set_option maxHeartbeats 1000000 in
theorem all_is (B b mb : Nat) (r : Ro) (vl : Value) (w : World) (h : Ror w B b mb r vl) (hl : r.l.length ≤ 1000) : Calls Try.prog 29 #[ptr b] w (RCopy 58 4 (mbRows r.l) w) := by
  have HF := Lib.hid h
  have HC := Lib.hid (fun w (h : Ror w B b mb r vl) => clone_mb B vl (mbRows r.l) w h.row (mbRows_cells _) (by rw [mbRows_length]; omega))
  obtain ⟨A, c, rfl, -⟩ := h.row.slice
  rw [mbRows_length] at HF HC h
  have c1 : w.cell? ⟨b, 1, none⟩ = some (.slice A r.l.length c) := h.cell 1
  clear h
  go_enter Try.func29, Try.ntmps29
  go_wp2_with fail
  refine (rthere_is B b mb r _ w HF.out).mono ?_
  rintro e w1 ⟨rfl, rfl⟩
  go_wp2_with fail
  refine (HC.out w HF.out).mono ?_
  rintro e w1 ⟨v, rfl, h1, h2⟩
  have H := Lib.hid (And.intro h1 h2)
  clear h1 h2
  go_wp2
  go_ret
  exact ⟨v, rfl, H.out⟩
def inRows (l : List Int) : List (List Value) := l.map fun z => [.int .i64 z]
theorem inRows_length (l : List Int) : (inRows l).length = l.length := by simp [inRows]
theorem inRows_snoc (l : List Int) (z : Int) : inRows (l ++ [z]) = inRows l ++ [[.int .i64 z]] := by simp [inRows]
theorem Try.infoInt' : (Try.prog.info? 3).map (fun i => (i.zero, i.size, i.bytes)) = some (some (.int .i64 0), 1, 8) := by kernel_rfl
theorem sty_in : Sty 46 3 1 8 := by
  obtain ⟨i0, hi, hz0, hz1, hz2⟩ := info_parts Try.infoInt'
  exact ⟨Try.underlying46, ⟨i0, _, hi, hz0, hz1, hz2, rfl⟩, by decide⟩
set_option maxRecDepth 100000 in
set_option maxHeartbeats 1000000 in
theorem ids_nil (w : World) : Calls Try.prog 30 #[.pointer none] w fun e w' => e = .returned (.slice none 0 0) ∧ w = w' := by
  go_enter Try.func30, Try.ntmps30
  go_wp2_with fail
  refine (rthere_nil _).mono ?_
  rintro e w1 ⟨rfl, rfl⟩
  go_wp2
  go_ret
  exact ⟨rfl, rfl⟩
set_option maxRecDepth 100000 in
set_option maxHeartbeats 4000000 in
theorem ids_is (B b mb : Nat) (r : Ro) (vl : Value) (w : World) (h : Ror w B b mb r vl) (hl : r.l.length ≤ 1000) : Calls Try.prog 30 #[ptr b] w (RCopy 3 1 (inRows (r.l.map (·.id))) w) := by
  have HF := Lib.hid h
  obtain ⟨A, c, rfl, hc⟩ := h.row.slice
  rw [mbRows_length] at HF h hc
  obtain ⟨L, hL⟩ : ∃ L, r.l = L := ⟨_, rfl⟩
  have HL := Lib.hid hL
  rw [hL] at hl hc h HF ⊢
  obtain ⟨N, hN⟩ : ∃ N, L.length = N := ⟨_, rfl⟩
  have HN := Lib.hid hN
  rw [hN] at hl hc h HF
  have c1 : w.cell? ⟨b, 1, none⟩ = some (.slice A N c) := h.cell 1
  obtain ⟨i0, hi, hz0, hz1, hz2⟩ := info_parts Try.infoInt'
  clear hN h
  go_enter Try.func30, Try.ntmps30
  go_wp2_with fail
  refine (rthere_is B b mb r _ w HF.out).mono ?_
  rintro e w1 ⟨rfl, rfl⟩
  go_upto_region 4 with (at_make; refine wpList_make_own _ rfl _ _ 46 rfl w.heap.size 3 i0 (.int .i64 0) 1 Try.underlying46 hi hz0 hz1 .i64 .i64 _ N rfl rfl rfl (by rw [hz2]; omega) (by unfold maxLen; omega) (Nat.le_refl _) ?_; intro w2 hown hg; replace hown := Lib.hid hown; replace hg := Lib.hid hg)
  have HO := Lib.hid (show Only (fun _ => False) w w2 from (Only.refl _ w).grown hg.out (fun i hi _ => by simp at hi))
  have H1 := Lib.hid (HF.out.pure HO.out)
  have c1' : w2.cell? ⟨b, 1, none⟩ = some (.slice A N c) := H1.out.cell 1
  have H0 := Lib.hid (show OwnS w2 w.heap.size 3 1 (.slice (some ⟨w.heap.size, 0, none⟩) 0 N) (inRows ((L.take 0).map (·.id))) from ⟨hown.out, by simp [inRows]⟩)
  clear c1 hown hg
  go_wp2
  clear c1'
  go_loopw [3, 20] (fun s3 s20 wr => ∃ k : Nat, k ≤ N ∧ s20 = .int .i64 (k : Int) ∧ Hid (Only (fun _ => False) w wr) ∧ Hid (OwnS wr w.heap.size 3 1 s3 (inRows ((L.take k).map (·.id))))) (fun _ s20 _ => N - (intOf s20).toNat)
  case atStart => exact ⟨0, by omega, rfl, HO, H0⟩
  case round =>
    obtain ⟨k, hk, rfl, hO, hR⟩ := hrel
    by_cases hkl : k < N
    · have hkI : (k : Int) < (N : Int) := by omega
      have hkx : k < L.length := by rw [HN.out]; exact hkl
      have hrow := HF.out.row.only hO.out (by simp)
      obtain ⟨g, c', hgc, -⟩ := hrow.place (by rw [mbRows_length, HL.out]; omega)
      obtain ⟨hA, -, -⟩ := Value.slice.inj hgc
      subst hA
      clear hgc
      have hx : L[k]? = some L[k] := List.getElem?_eq_getElem hkx
      have HT := Lib.hid (show inRows ((L.take (k + 1)).map (·.id)) = inRows ((L.take k).map (·.id)) ++ [[.int .i64 L[k].id]] from by rw [List.take_add_one, hx, List.map_append, Option.toList_some, List.map_cons, List.map_nil, inRows_snoc])
      have HRG := Lib.hid (hrow.range (g := g) rfl (mbRows_get (by rw [HL.out]; exact hx)))
      generalize L[k] = x at *
      obtain ⟨xi, xo, xa, xm⟩ := x
      have hlen : (inRows ((L.take k).map (·.id))).length ≤ 100000 := by rw [inRows_length, List.length_map, List.length_take]; omega
      have HLEN := Lib.hid hlen
      clear hrow hx hkx hlen
      generalize inRows ((L.take k).map (·.id)) = X at *
      go_upto_region 7 with (refine wpList_load_mid rfl 58 _ rfl g (k * 4) rfl [.int .i64 xi, .int .u32 (xo : Int), .int .u32 (xa : Int), .bool xm] _ HRG.out Try.underlying58 rfl Try.sizeMb ?_)
      have hM := Is.made wr 58 #[.int .i64 xi, .int .u32 (xo : Int), .int .u32 (xa : Int), .bool xm]
      have hO3 := (Only.refl (fun _ => False) wr).alloc (.cells #[.int .i64 xi, .int .u32 (xo : Int), .int .u32 (xa : Int), .bool xm] 58)
      have HM := Lib.hid hM
      have HO4 := Lib.hid (hO.out.trans hO3 (fun _ _ e => e))
      have HR4 := Lib.hid (OwnS.only hR.out hO3 (by simp))
      generalize wr.alloc (.cells #[.int .i64 xi, .int .u32 (xo : Int), .int .u32 (xa : Int), .bool xm] 58) = w3 at *
      clear hM hO3
      have c0 : w3.cell? ⟨wr.heap.size, 0, none⟩ = some (.int .i64 xi) := HM.out.cell 0
      go_wp2_with (at_builtin; refine wpList_append_structN _ rfl _ _ sty_in rfl w.heap.size _ _ rfl (OwnS.only HR4.out ((Only.refl (fun _ => False) w3).alloc _) (by simp)) w3.heap.size [.int .i64 xi] rfl (Is.made w3 _ _) rfl (by simp [Value.oneCell']) HLEN.out (by decide) (by have := HO4.out.size; simp; omega) ?_; intro A5 c5 w5 hown5 ho5 hn5; replace hown5 := Lib.hid hown5; replace ho5 := Lib.hid ho5; clear hn5)
      refine ⟨⟨k + 1, by omega, by go_num, Lib.hid ((HO4.out.alloc _).trans ho5.out (fun i hi e => ?_)), Lib.hid ?_⟩, by simp [intOf]; omega⟩
      · have := (HR4.out.lt i e).1; omega
      · rw [HT.out]; exact hown5.out
    · obtain rfl : k = N := by omega
      go_wp2
      go_ret
      refine ⟨_, rfl, ?_, hO.out⟩
      have := hR.out
      rw [← HN.out, List.take_length] at this
      exact this
end Go.Proofs.Ytglgmhdajmncjaa
