/- reorder: leave, behind its loop. Conditions: as each says. -/
import Derived.Test.YtdcclighccejhaaRoK
import Derived.Test.YtdcclighccejhaaRoGr
import Derived.Test.YtdcclighccejhaaBase
set_option linter.unusedVariables false
set_option linter.unusedSimpArgs false
namespace Go.Proofs.Ytdcclighccejhaa
open Go Go.RowKit

/-- So many are gone. -/
def Bf.gone (m : Bf) (g : Nat) : Bf := { m with last := if g = 0 then m.last else (m.ws[g - 1]?.map Wt.n).getD 0, ws := m.ws.drop g }
theorem Bf.gone_zero (m : Bf) : m.gone 0 = m := rfl
/-- What stands behind it. -/
def Gone (b : Nat) (m : Bf) (v : Value) (us : List V3) (B g : Nat) (w w' : World) : Prop :=
  (∃ v', Bfr w' b (m.gone g) v' (us.drop g) B) ∧ Pks w' B m.ws us ∧ Only (fun k => k = b ∨ v.ownBlock = some k) w w'
theorem wtRows_drop (ws : List Wt) (us : List V3) (g : Nat) : wtRows (ws.drop g) (us.drop g) = (wtRows ws us).drop g := by
  unfold wtRows
  rw [List.drop_zipWith]
theorem Pks.drop {w : World} {B : Nat} {ws : List Wt} {us : List V3} (h : Pks w B ws us) (g : Nat) : Pks w B (ws.drop g) (us.drop g) := by
  refine ⟨by simp [h.len], fun i x u hx hu => ?_, fun i j a c hij ha hc => ?_⟩
  · rw [List.getElem?_drop] at hx hu
    exact h.own _ x u hx hu
  · rw [List.getElem?_drop] at ha hc
    exact h.apart _ _ a c (by omega) ha hc
/-- A packet's rows are none of another type. -/
theorem OwnPk.free_of {B : Nat} {p : Pk} {u : V3} {w : World} (h : OwnPk B p u.1 u.2.1 u.2.2 w) {k : Nat} {T : TypeId} {cs : Array Value} (hI : Is w k T cs) (h1 : 38 ≠ T) (h2 : 5 ≠ T) : ¬ Blk u k := by
  rintro (e | e | e)
  · exact owned_off h.1 hI h1 e
  · exact owned_off h.2.1 hI h2 e
  · exact owned_off h.2.2 hI h2 e
theorem Pks.off {B : Nat} {ws : List Wt} {us : List V3} {w : World} (h : Pks w B ws us) {k : Nat} {T : TypeId} {cs : Array Value} (hI : Is w k T cs) (h1 : 38 ≠ T) (h2 : 5 ≠ T) : ∀ u ∈ us, ¬ Blk u k := by
  intro u hu
  obtain ⟨i, hi⟩ := List.getElem?_of_mem hu
  have hil : i < ws.length := by rw [← h.len]; exact (List.getElem?_eq_some_iff.1 hi).1
  exact (h.own i _ u (List.getElem?_eq_getElem hil) hi).free_of hI h1 h2
theorem Bfr.row_ne {w : World} {b B : Nat} {m : Bf} {v : Value} {us : List V3} (h : Bfr w b m v us B) : ¬ v.ownBlock = some b := owned_off h.row.1 h.is (by decide)
theorem Bfr.put_last {w : World} {b B : Nat} {m : Bf} {v : Value} {us : List V3} (h : Bfr w b m v us B) (n : Nat) : Bfr (w.setCell ⟨b, 3, none⟩ (.int .u64 (n : Int))) b { m with last := n } v us B := by
  have ho : Only (fun k => k = b) w (w.setCell ⟨b, 3, none⟩ (.int .u64 (n : Int))) := Only.set (S := fun k => k = b) (p := ⟨b, 3, none⟩) (Only.refl _ w) (fun _ => rfl) _
  refine ⟨?_, h.row.only ho (fun k hk e => h.row_ne (by rw [hk, e])), h.pks.only ho (fun u hu k hk e => h.pks.off h.is (by decide) (by decide) u hu (by rw [← e]; exact hk))⟩
  have := h.is.put 3 (.int .u64 (n : Int))
  exact this
theorem Bfr.put_list {w : World} {b B : Nat} {m : Bf} {v : Value} {us' : List V3} {cells : Array Value} {v' : Value} {ws' : List Wt} (hi : Is w b 65 cells) (hc : cells = bfCells m v) (hr : OwnS w B 79 13 v' (wtRows ws' us')) (hp : Pks w B ws' us') : Bfr (w.setCell ⟨b, 4, none⟩ v') b { m with ws := ws' } v' us' B := by
  have ho : Only (fun k => k = b) w (w.setCell ⟨b, 4, none⟩ v') := Only.set (S := fun k => k = b) (p := ⟨b, 4, none⟩) (Only.refl _ w) (fun _ => rfl) _
  refine ⟨?_, hr.only ho (fun k hk e => owned_off hr.1 hi (by decide) (by rw [hk, e])), hp.only ho (fun u hu k hk e => hp.off hi (by decide) (by decide) u hu (by rw [← e]; exact hk))⟩
  have := hi.put 4 v'
  rw [hc] at this
  exact this
def lv11_A : List (List Nat) := ([] :: [] :: [1] :: [2, 1] :: [3, 2, 1] :: [] :: [4, 5, 3, 2, 1] :: [0, 1, 2, 3, 4, 5, 6] :: (7 :: 0 :: 1 :: 2 :: 3 :: 4 :: 5 :: 6 :: []) :: (8 :: 6 :: 0 :: 1 :: 2 :: 3 :: 4 :: 5 :: 7 :: []) :: [])
def lv11_kill : List (List Nat) := ([] :: [] :: [] :: [] :: [] :: [] :: [] :: [] :: [] :: [6] :: [])
def lv11_uses : List (List Nat) := ([] :: [] :: [] :: [] :: [] :: [] :: [] :: [] :: [] :: [6] :: [])
noncomputable def lv11_code : Code := ((Try.f31.body.bind (codeRegion 11)).getD .skip)
set_option maxRecDepth 100000 in
set_option maxHeartbeats 4000000 in
theorem lv11_in (ds : List Deferred) (b gb gr L c g B : Nat) (xss : List (List Value)) (bcs : Array Value) (w1 : World) (hI : Is w1 b 65 bcs) (hb4 : bcs[4]? = some (.slice (some ⟨gr, 0, none⟩) L c)) (hgb : Is w1 gb 3 #[.int .i64 (g : Int)]) (hne : ¬ b = gr) (hD : ∀ wx, Only (fun _ => False) w1 wx → Calls Try.prog 41 #[(.slice (some ⟨gr, 0, none⟩) L c), .int .i64 0, .int .i64 (g : Int)] wx (Deleted gr (L - g) c g B xss wx)) (u1 u2 u3 u4 u5 u7 u8 u9 u10 u11 u12 u13 u14 u15 u16 u17 u18 u19 u20 u21 u22 u23 u24 u25 u26 u27 u28 u29 u30 u31 u32 u33 u34 u35 u36 u37 u38 u39 u40 u41 u42 u43 u44 u45 u46 u47 u48 : Value) (w0 : World) (hw0 : w1 = w0) :
    Code.wp Try.prog lv11_code (fun e a w' => ∃ y39 y40 y41 y42 y43 y44 y45 y46 y47 : Value, a = ⟨(List.toArray (.pointer (some ⟨b, 0, none⟩) :: u1 :: u2 :: u3 :: u4 :: u5 :: .pointer (some ⟨gb, 0, none⟩) :: u7 :: u8 :: u9 :: u10 :: u11 :: u12 :: u13 :: u14 :: u15 :: u16 :: u17 :: u18 :: u19 :: u20 :: u21 :: u22 :: u23 :: u24 :: u25 :: u26 :: u27 :: u28 :: u29 :: u30 :: u31 :: u32 :: u33 :: u34 :: u35 :: u36 :: u37 :: u38 :: y39 :: y40 :: y41 :: y42 :: y43 :: y44 :: y45 :: y46 :: y47 :: u48 :: [])), ds⟩ ∧ e = .normal ∧ (∃ w2, OwnS w2 B 79 13 (.slice (some ⟨gr, 0, none⟩) (L - g) c) (xss.drop g) ∧ Only (fun j => j = gr) w1 w2 ∧ w' = w2.setCell ⟨b, 4, none⟩ (.slice (some ⟨gr, 0, none⟩) (L - g) c))) ⟨(List.toArray (.pointer (some ⟨b, 0, none⟩) :: u1 :: u2 :: u3 :: u4 :: u5 :: .pointer (some ⟨gb, 0, none⟩) :: u7 :: u8 :: u9 :: u10 :: u11 :: u12 :: u13 :: u14 :: u15 :: u16 :: u17 :: u18 :: u19 :: u20 :: u21 :: u22 :: u23 :: u24 :: u25 :: u26 :: u27 :: u28 :: u29 :: u30 :: u31 :: u32 :: u33 :: u34 :: u35 :: u36 :: u37 :: u38 :: u39 :: u40 :: u41 :: u42 :: u43 :: u44 :: u45 :: u46 :: u47 :: u48 :: [])), ds⟩ w0 := by
  conv => arg 2; whnf
  subst hw0
  have HD := Lib.hid hD
  clear hD
  refine wp_region_posts lv11_A [6, 9] [6, 9] lv11_kill lv11_uses [9] [6] [0, 7, 8, 9] []
      (some ?v0 :: some ?v1 :: some ?v2 :: some ?v3 :: some ?v4 :: some ?v5 :: none :: some ?v7 :: some ?v8 :: none :: [])
      ?T (fun wx => Is wx b 65 bcs ∧ Is wx gb 3 #[.int .i64 (g : Int)] ∧ Only (fun _ => False) w1 wx) ?W ?E (by kernel_rfl) (by kernel_rfl) (by kernel_rfl) (fun x => ?hT) ?hF ?hini (Reg.all_ops ?runs) ?pres ?fin
  case W => exact fun j x w' => match j with | 6 => x 6 = (.slice (some ⟨gr, 0, none⟩) (L - g) c) ∧ OwnS w' B 79 13 (.slice (some ⟨gr, 0, none⟩) (L - g) c) (xss.drop g) ∧ Only (fun j => j = gr) w1 w' | 9 => ∃ w2, OwnS w2 B 79 13 (.slice (some ⟨gr, 0, none⟩) (L - g) c) (xss.drop g) ∧ Only (fun j => j = gr) w1 w2 ∧ w' = w2.setCell ⟨b, 4, none⟩ (.slice (some ⟨gr, 0, none⟩) (L - g) c) | _ => True
  case E => exact fun i wx wy => True
  case hT =>
    simp only [Reg.fillV, Act.put, List.setIfInBounds_toArray, List.set_cons_zero, List.set_cons_succ]
    rfl
  case runs =>
    refine And.intro ?_ ?_
    · refine Reg.ob_bare (fun _ => rfl) rfl rfl rfl (fun x w1x => ?_)
      go_simp
      with_reducible rfl
    refine And.intro ?_ ?_
    · refine Reg.ob_pure (fun _ => rfl) rfl rfl rfl rfl (fun x w1x hF => ?_)
      have c4 := hF.1.cell 4
      rw [hb4] at c4
      have cg := hF.2.1.cell 0
      simp at cg
      go_simp
      with_reducible rfl
    refine And.intro ?_ ?_
    · refine Reg.ob_pure (fun _ => rfl) rfl rfl rfl rfl (fun x w1x hF => ?_)
      have c4 := hF.1.cell 4
      rw [hb4] at c4
      have cg := hF.2.1.cell 0
      simp at cg
      go_simp
      with_reducible rfl
    refine And.intro ?_ ?_
    · refine Reg.ob_pure (fun _ => rfl) rfl rfl rfl rfl (fun x w1x hF => ?_)
      have c4 := hF.1.cell 4
      rw [hb4] at c4
      have cg := hF.2.1.cell 0
      simp at cg
      go_simp
      with_reducible rfl
    refine And.intro ?_ ?_
    · refine Reg.ob_pure (fun _ => rfl) rfl rfl rfl rfl (fun x w1x hF => ?_)
      have c4 := hF.1.cell 4
      rw [hb4] at c4
      have cg := hF.2.1.cell 0
      simp at cg
      go_simp
      with_reducible rfl
    refine And.intro ?_ ?_
    · refine Reg.ob_pure (fun _ => rfl) rfl rfl rfl rfl (fun x w1x hF => ?_)
      have c4 := hF.1.cell 4
      rw [hb4] at c4
      have cg := hF.2.1.cell 0
      simp at cg
      go_simp
      with_reducible rfl
    refine And.intro ?_ ?_
    · refine Reg.ob_some (fun _ => rfl) rfl (fun x w1x hF hU K hK => ?_)
      replace hF := hF rfl
      have HT := HD.out _ hF.2.2
      go_simp
      refine HT.mono ?_
      rintro e w5 ⟨rfl, hS, hO⟩
      exact hK _ w5 (fun _ h h' => by first | exact absurd h (by decide) | exact absurd h' (by decide)) trivial ⟨rfl, hS, (hF.2.2.mono (fun _ _ h => h.elim)).trans hO (fun _ _ e => e)⟩
    refine And.intro ?_ ?_
    · refine Reg.ob_bare (fun _ => rfl) rfl rfl rfl (fun x w1x => ?_)
      go_simp
      with_reducible rfl
    refine And.intro ?_ ?_
    · refine Reg.ob_bare (fun _ => rfl) rfl rfl rfl (fun x w1x => ?_)
      go_simp
      with_reducible rfl
    refine And.intro ?_ ?_
    · refine Reg.ob_some (fun _ => rfl) rfl (fun x w1x hF hU K hK => ?_)
      obtain ⟨⟨hx, hS, hO⟩, -⟩ := hU
      have hx : x 6 = (.slice (some ⟨gr, 0, none⟩) (L - g) c) := hx
      have I1 : Is w1x b 65 bcs := hI.only hO hne
      have ff := I1.free 4
      have cf := I1.cell 4
      rw [hb4] at cf
      revert hK
      simp only [Nat.reduceAdd, hx]
      intro hK
      go_simp
      exact hK undef _ (fun _ h h' => by first | exact absurd h (by decide) | exact absurd h' (by decide)) trivial ⟨_, hS, hO, rfl⟩
    exact trivial
  case hF =>
    exact ⟨hI.only ((Only.refl (fun _ => False) _).drewN 1) (by simp), hgb.only ((Only.refl (fun _ => False) _).drewN 1) (by simp), (Only.refl _ _).drewN 1⟩
  case hini =>
    exact trivial
  case pres =>
    intro i hi j hj hc x wx wy hF hE hW
    simp only [List.mem_cons, List.mem_nil_iff, or_false] at hi hj
    rcases hi with rfl | rfl <;> rcases hj with rfl | rfl
    all_goals (exfalso; revert hc; decide)
  case fin =>
    rintro x w9 hF hU
    obtain ⟨hQ, -⟩ := hU
    repeat apply Exists.intro
    exact ⟨rfl, rfl, hQ⟩

set_option maxRecDepth 100000 in
set_option maxHeartbeats 4000000 in
theorem lv11 (ds : List Deferred) (b gb gr L c g B : Nat) (xss : List (List Value)) (bcs : Array Value) (w1 : World) (hI : Is w1 b 65 bcs) (hb4 : bcs[4]? = some (.slice (some ⟨gr, 0, none⟩) L c)) (hgb : Is w1 gb 3 #[.int .i64 (g : Int)]) (hne : ¬ b = gr) (hD : ∀ wx, Only (fun _ => False) w1 wx → Calls Try.prog 41 #[(.slice (some ⟨gr, 0, none⟩) L c), .int .i64 0, .int .i64 (g : Int)] wx (Deleted gr (L - g) c g B xss wx)) (u1 u2 u3 u4 u5 u7 u8 u9 u10 u11 u12 u13 u14 u15 u16 u17 u18 u19 u20 u21 u22 u23 u24 u25 u26 u27 u28 u29 u30 u31 u32 u33 u34 u35 u36 u37 u38 u39 u40 u41 u42 u43 u44 u45 u46 u47 u48 : Value) (Q : Exit → Act → World → Prop) (w0 : World) (hw0 : w1 = w0)
    (hend : ∀ (y39 y40 y41 y42 y43 y44 y45 y46 y47 : Value) (w' : World), (∃ w2, OwnS w2 B 79 13 (.slice (some ⟨gr, 0, none⟩) (L - g) c) (xss.drop g) ∧ Only (fun j => j = gr) w1 w2 ∧ w' = w2.setCell ⟨b, 4, none⟩ (.slice (some ⟨gr, 0, none⟩) (L - g) c)) → Q .normal ⟨(List.toArray (.pointer (some ⟨b, 0, none⟩) :: u1 :: u2 :: u3 :: u4 :: u5 :: .pointer (some ⟨gb, 0, none⟩) :: u7 :: u8 :: u9 :: u10 :: u11 :: u12 :: u13 :: u14 :: u15 :: u16 :: u17 :: u18 :: u19 :: u20 :: u21 :: u22 :: u23 :: u24 :: u25 :: u26 :: u27 :: u28 :: u29 :: u30 :: u31 :: u32 :: u33 :: u34 :: u35 :: u36 :: u37 :: u38 :: y39 :: y40 :: y41 :: y42 :: y43 :: y44 :: y45 :: y46 :: y47 :: u48 :: [])), ds⟩ w') :
    Code.wp Try.prog lv11_code Q ⟨(List.toArray (.pointer (some ⟨b, 0, none⟩) :: u1 :: u2 :: u3 :: u4 :: u5 :: .pointer (some ⟨gb, 0, none⟩) :: u7 :: u8 :: u9 :: u10 :: u11 :: u12 :: u13 :: u14 :: u15 :: u16 :: u17 :: u18 :: u19 :: u20 :: u21 :: u22 :: u23 :: u24 :: u25 :: u26 :: u27 :: u28 :: u29 :: u30 :: u31 :: u32 :: u33 :: u34 :: u35 :: u36 :: u37 :: u38 :: u39 :: u40 :: u41 :: u42 :: u43 :: u44 :: u45 :: u46 :: u47 :: u48 :: [])), ds⟩ w0 := by
  refine wp_mono (lv11_in ds b gb gr L c g B xss bcs w1 hI hb4 hgb hne hD _ _ _ _ _ _ _ _ _ _ _ _ _ _ _ _ _ _ _ _ _ _ _ _ _ _ _ _ _ _ _ _ _ _ _ _ _ _ _ _ _ _ _ _ _ _ _ w0 hw0) ?_
  rintro e a w' h
  obtain ⟨y39, h⟩ := h
  obtain ⟨y40, h⟩ := h
  obtain ⟨y41, h⟩ := h
  obtain ⟨y42, h⟩ := h
  obtain ⟨y43, h⟩ := h
  obtain ⟨y44, h⟩ := h
  obtain ⟨y45, h⟩ := h
  obtain ⟨y46, h⟩ := h
  obtain ⟨y47, h⟩ := h
  obtain ⟨h, rfl, hq⟩ := h
  subst h
  exact hend y39 y40 y41 y42 y43 y44 y45 y46 y47 w' hq

noncomputable def lv9_code : Code := (Try.f31.body.bind (codeIf 9)).getD .skip
set_option maxRecDepth 100000 in
set_option maxHeartbeats 4000000 in
theorem lv9 (ds : List Deferred) (b gb B g : Nat) (m : Bf) (v : Value) (us : List V3) (u1 u2 u3 u4 u5 u7 u8 u9 u10 u11 u12 u13 u14 u15 u16 u17 u18 u19 u20 u21 u22 u23 u24 u25 u26 u27 u28 u29 u30 u31 u32 u33 u34 u35 u36 u37 u38 u39 u40 u41 u42 u43 u44 u45 u46 u47 u48 : Value) (Q : Exit → Act → World → Prop) (w : World) (h : Bfr w b m v us B) (hL : m.ws.length ≤ 300) (hg : g ≤ m.ws.length) (hgb : Is w gb 3 #[.int .i64 (g : Int)])
    (hend : ∀ (y25 y26 y27 y28 y29 y30 y31 y32 y33 y34 y35 y36 y37 y38 y39 y40 y41 y42 y43 y44 y45 y46 y47 : Value) (w' : World), Gone b m v us B g w w' → Is w' gb 3 #[.int .i64 (g : Int)] → Q .normal ⟨(List.toArray (.pointer (some ⟨b, 0, none⟩) :: u1 :: u2 :: u3 :: u4 :: u5 :: .pointer (some ⟨gb, 0, none⟩) :: u7 :: u8 :: u9 :: u10 :: u11 :: u12 :: u13 :: u14 :: u15 :: u16 :: u17 :: u18 :: u19 :: u20 :: u21 :: u22 :: u23 :: u24 :: y25 :: y26 :: y27 :: y28 :: y29 :: y30 :: y31 :: y32 :: y33 :: y34 :: y35 :: y36 :: y37 :: y38 :: y39 :: y40 :: y41 :: y42 :: y43 :: y44 :: y45 :: y46 :: y47 :: u48 :: [])), ds⟩ w') :
    Code.wp Try.prog lv9_code Q ⟨(List.toArray (.pointer (some ⟨b, 0, none⟩) :: u1 :: u2 :: u3 :: u4 :: u5 :: .pointer (some ⟨gb, 0, none⟩) :: u7 :: u8 :: u9 :: u10 :: u11 :: u12 :: u13 :: u14 :: u15 :: u16 :: u17 :: u18 :: u19 :: u20 :: u21 :: u22 :: u23 :: u24 :: u25 :: u26 :: u27 :: u28 :: u29 :: u30 :: u31 :: u32 :: u33 :: u34 :: u35 :: u36 :: u37 :: u38 :: u39 :: u40 :: u41 :: u42 :: u43 :: u44 :: u45 :: u46 :: u47 :: u48 :: [])), ds⟩ w := by
  conv => arg 2; whnf
  have HEND := Lib.hid hend
  have cg := hgb.cell 0
  simp at cg
  obtain ⟨A, c, rfl, hc⟩ := h.slice
  have H := Lib.hid h
  have HGB := Lib.hid hgb
  rcases Nat.eq_zero_or_pos g with h0 | h0
  · subst h0
    clear hend h hgb
    go_wp2
    refine HEND.out _ _ _ _ _ _ _ _ _ _ _ _ _ _ _ _ _ _ _ _ _ _ _ _ ⟨⟨_, by rw [Bf.gone_zero]; exact H.out⟩, H.out.pks, Only.refl _ _⟩ HGB.out
  · have hgI : (0 : Int) < (g : Int) := by omega
    obtain ⟨gr, c', e, hcc, hgl, hgB, hcell⟩ := h.at_ (by omega)
    injection e with e1 e2 e3
    subst e1 e3
    have hx : m.ws[g - 1]? = some m.ws[g - 1] := List.getElem?_eq_getElem (by omega)
    obtain ⟨u, hu, hcl⟩ := hcell (g - 1) _ hx
    have c0 := hcl 0 (by omega)
    rw [Nat.add_zero] at c0
    have hn0 : (m.ws[g - 1].cls u)[0]? = some (.int .u64 ((m.ws[g - 1].n : Nat) : Int)) := rfl
    rw [hn0] at c0
    obtain ⟨z, hz⟩ : ∃ z, m.ws[g - 1].n = z := ⟨_, rfl⟩
    rw [hz] at c0
    have HLAST := Lib.hid (show (m.ws[g - 1]?.map Wt.n).getD 0 = z from by rw [hx]; exact hz)
    have c4 := h.list
    have ff := h.is.free 3
    have cl := h.last
    have hwr : IntKind.i64.wrap ((g : Int) - 1) = ((g - 1 : Nat) : Int) := by rw [IntKind.wrap_i64]; omega
    have hi1 : ((g - 1 : Nat) : Int) < (m.ws.length : Int) := by omega
    have hi2 : (0 : Int) ≤ ((g - 1 : Nat) : Int) := by omega
    have HG := Lib.hid hg
    have HX := Lib.hid (And.intro hL hg)
    obtain ⟨g1, hg1⟩ : ∃ g1, g - 1 = g1 := ⟨_, rfl⟩
    rw [hg1] at c0 hwr hi1 hi2
    obtain ⟨L, hLd⟩ : ∃ L, m.ws.length = L := ⟨_, rfl⟩
    have HLD := Lib.hid hLd
    rw [hLd] at c4 hi1 hc
    have HGG := Lib.hid h0
    clear hend h hgb hcell hcl hn0 hx hu hz hg1 hLd hg hL
    go_wp2
    go_still_tail 12, (by kernel_rfl)
    go_wp2_with fail
    generalize hw1 : World.drew _ = w1
    have H1 := Lib.hid (show Bfr w1 b { m with last := z } (.slice (some ⟨gr, 0, none⟩) m.ws.length c) us B from by rw [← hw1]; exact (H.out.put_last z).pure ((Only.refl _ _).drewN 1))
    have O1 := Lib.hid (show Only (fun k => k = b) w w1 from by rw [← hw1]; exact (Only.set (S := fun k => k = b) (p := ⟨b, 3, none⟩) (Only.refl _ w) (fun _ => rfl) _).drewN 1)
    have G1 := Lib.hid (show Is w1 gb 3 #[.int .i64 (g : Int)] from HGB.out.only O1.out (fun e => HGB.out.apart H.out.is (by decide) e))
    clear hw1 c4 cg ff c0 cl
    have c4 := H1.out.list
    rw [HLD.out] at c4
    have cg := G1.out.cell 0
    simp at cg
    have hbg : ¬ b = gr := fun e => H1.out.row_ne (by rw [e]; rfl)
    have hlr : (wtRows m.ws us).length = L := by rw [wtRows_length H.out.pks.len, HLD.out]
    have HDEL := Lib.hid (show ∀ wx, Only (fun _ => False) w1 wx → Calls Try.prog 41 #[.slice (some ⟨gr, 0, none⟩) L c, .int .i64 0, .int .i64 (g : Int)] wx (Deleted gr (L - g) c g B (wtRows m.ws us) wx) from fun wx hwx => by
      have hB := H1.out.pure hwx
      have hrow := hB.row
      rw [show (({ m with last := z } : Bf).ws) = m.ws from rfl, HLD.out] at hrow
      exact delete_is gr L c g (L - g) B (wtRows m.ws us) wx hrow hlr HGG.out (by rw [← HLD.out]; exact HX.out.2) rfl hB.cells_one)
    clear hwr hi1 hi2 c4 cg hlr
    have hb4 : (bfCells { m with last := z } (.slice (some ⟨gr, 0, none⟩) m.ws.length c))[4]? = some (.slice (some ⟨gr, 0, none⟩) L c) := by rw [← HLD.out]; rfl
    refine lv11 ds b gb gr L c g B (wtRows m.ws us) _ w1 H1.out.is hb4 G1.out hbg HDEL.out _ _ _ _ _ _ _ _ _ _ _ _ _ _ _ _ _ _ _ _ _ _ _ _ _ _ _ _ _ _ _ _ _ _ _ _ _ _ _ _ _ _ _ _ _ _ _ _ w1 rfl ?_
    rintro y39 y40 y41 y42 y43 y44 y45 y46 y47 w3 ⟨w2, hS, hO, hw3⟩
    have I2 := Lib.hid (H1.out.is.only hO hbg)
    have P2 := Lib.hid (H1.out.pks.only hO (fun u hu k hk e => H1.out.pks.off (own_is H1.out.row).choose_spec.1 (by decide) (by decide) u hu (by rw [← e]; exact hk)))
    have S2 := Lib.hid hS
    have G2 := Lib.hid (G1.out.only hO (fun e => G1.out.apart (own_is H1.out.row).choose_spec.1 (by decide) e))
    have O2 := Lib.hid hO
    replace hw3 := hw3.symm
    clear hS hO hbg
    refine HEND.out _ _ _ _ _ _ _ _ _ _ _ _ _ _ _ _ _ _ _ _ _ _ _ w3 ⟨⟨.slice (some ⟨gr, 0, none⟩) (L - g) c, ?_⟩, ?_, ?_⟩ ?_
    · have hg0 : ¬ g = 0 := by have := HGG.out; omega
      have := Bfr.put_list (m := { m with last := z }) (v' := .slice (some ⟨gr, 0, none⟩) (L - g) c) (ws' := m.ws.drop g) (us' := us.drop g) I2.out rfl (by rw [wtRows_drop]; exact S2.out) (P2.out.drop g)
      rw [hw3] at this
      unfold Bf.gone
      rw [if_neg hg0, HLAST.out]
      exact this
    · rw [← hw3]
      exact P2.out.only (Only.set (S := fun k => k = b) (p := ⟨b, 4, none⟩) (Only.refl _ w2) (fun _ => rfl) _) (fun u hu k hk e => P2.out.off I2.out (by decide) (by decide) u hu (by rw [← e]; exact hk))
    · rw [← hw3]
      exact ((O1.out.mono (T := fun k => k = b ∨ Value.ownBlock (.slice (some ⟨gr, 0, none⟩) m.ws.length c) = some k) (fun _ _ e => .inl e)).trans O2.out (fun _ _ e => .inr (by rw [e]; rfl))).set (p := ⟨b, 4, none⟩) (fun _ => .inl rfl) _
    · rw [← hw3]
      exact G2.out.far (fun e => G2.out.apart I2.out (by decide) e) _
end Go.Proofs.Ytdcclighccejhaa
