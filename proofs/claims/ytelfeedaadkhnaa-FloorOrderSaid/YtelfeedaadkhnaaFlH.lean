/- floor: Heard, Pending. Conditions: as each says. -/
import Derived.Test.YtelfeedaadkhnaaFlG
set_option linter.unusedVariables false
set_option linter.unusedSimpArgs false
namespace Go.Proofs.Ytelfeedaadkhnaa
open Go Go.RowKit

theorem Flr.puts {w : World} {B b mb : Nat} {m : Fl} {vw vg : Value} (h : Flr w B b mb m vw vg) (i : Nat) (u : Value) (m' : Fl) (hc : (flCells m mb vw vg).setIfInBounds i u = flCells m' mb vw vg) (hm : m'.ms = m.ms) (hw : m'.wt = m.wt) (hg : m'.gs = m.gs) :
    Flr (w.setCell ⟨b, i, none⟩ u) B b mb m' vw vg ∧ Only (fun k => k = b) w (w.setCell ⟨b, i, none⟩ u) := by
  obtain ⟨hm1, hm2, hm3, hm4⟩ := h.mb_ne
  have ho : Only (fun k => k = b) w (w.setCell ⟨b, i, none⟩ u) := Only.set (S := fun k => k = b) (p := ⟨b, i, none⟩) (Only.refl _ w) (fun _ => rfl) _
  refine ⟨⟨?_, ?_, ?_, ?_, h.lo⟩, ho⟩
  · rw [← hc]; exact h.is.put i u
  · rw [hm]; exact h.mp.only ho hm1
  · rw [hw]; exact OwnS.only h.wr ho (fun j hj => (hm2 j hj).2)
  · rw [hg]; exact OwnS.only h.gr ho (fun j hj => (hm3 j hj).2)
set_option maxRecDepth 100000 in
set_option maxHeartbeats 2000000 in
theorem heard_is (B b mb n now : Nat) (key : Bool) (m : Fl) (vw vg : Value) (w : World) (h : Flr w B b mb m vw vg) :
    Calls Try.prog 20 #[ptr b, .int .u32 (n : Int), .int .u64 (now : Int), .bool key] w (DoneT (.bool (m.hear n now key).2) w B b mb vw vg (m.hear n now key).1) := by
  have HF := Lib.hid h
  have hr : m.hear n now key = if m.is n then ({ m with heard := now, pend := m.pend && !key }, true) else (m, false) := rfl
  generalize m.hear n now key = r at *
  have HR := Lib.hid hr
  clear h hr
  go_enter Try.func20, Try.ntmps20
  go_wp2_with fail
  refine (there_is B b mb m vw vg w HF.out).mono ?_
  rintro e w1 ⟨rfl, rfl⟩
  go_wp2_with (refine wpList_load_midW (op := ⟨some 16, _, _, _, _, _⟩) rfl 64 _ rfl b 3 rfl _ _ HF.out.rangeH Try.underlying64 rfl Try.sizeHl ?_)
  refine (mis_is m n _).mono ?_
  rintro e w2 ⟨rfl, ho⟩
  have HO2 := Lib.hid ho
  have HF2 := Lib.hid (HF.out.pure ho)
  clear ho
  cases hi : m.is n with
  | false =>
    have HE := Lib.hid (show r = (m, false) from by rw [HR.out, hi]; rfl)
    clear hi
    go_wp2
    go_ret
    rw [HE.out]
    exact done_pure HF.out HO2.out
  | true =>
    have HE := Lib.hid (show r = ({ m with heard := now, pend := m.pend && !key }, true) from by rw [HR.out, hi]; rfl)
    clear hi
    have c6 : w2.cell? ⟨b, 6, none⟩ = some (.int .u64 (m.heard : Int)) := HF2.out.cell 6
    have f6 := HF2.out.is.free 6
    have f7 := HF2.out.is.free 7
    obtain ⟨h3, o3⟩ := HF2.out.puts 6 (.int .u64 (now : Int)) { m with heard := now } rfl rfl rfl rfl
    have H3 := Lib.hid h3
    have O3 := Lib.hid o3
    go_upto_region 4 with (fail)
    generalize w2.setCell ⟨b, 6, none⟩ (.int .u64 (now : Int)) = w3 at *
    have c7 : w3.cell? ⟨b, 7, none⟩ = some (.bool m.pend) := H3.out.cell 7
    have g7 := H3.out.is.free 7
    obtain ⟨h4, o4⟩ := H3.out.puts 7 (.bool (m.pend && !key)) { m with heard := now, pend := m.pend && !key } rfl rfl rfl rfl
    have H4 := Lib.hid h4
    have O4 := Lib.hid (((HO2.out.mono (fun _ _ e => e.elim)).trans O3.out (fun _ _ e => e)).trans o4 (fun _ _ e => e))
    clear h3 o3 h4 o4 f6 f7 c6
    cases hp : m.pend with
    | false =>
      rw [hp] at H4 O4 HE c7
      clear hp
      go_wp2
      go_ret
      rw [HE.out]
      exact ⟨rfl, vw, vg, H4.out, O4.out.mono (fun _ _ e => .inl e), fun k hk => .inl hk⟩
    | true =>
      rw [hp] at H4 O4 HE c7
      clear hp
      go_wp2
      go_ret
      rw [HE.out]
      exact ⟨rfl, vw, vg, H4.out, O4.out.mono (fun _ _ e => .inl e), fun k hk => .inl hk⟩
set_option maxRecDepth 100000 in
set_option maxHeartbeats 1000000 in
theorem pending_is (B b mb : Nat) (m : Fl) (vw vg : Value) (w : World) (h : Flr w B b mb m vw vg) : Calls Try.prog 22 #[ptr b] w (SaysF (.bool m.pend) w) := by
  have HF := Lib.hid h
  have c7 : w.cell? ⟨b, 7, none⟩ = some (.bool m.pend) := h.cell 7
  clear h
  go_enter Try.func22, Try.ntmps22
  go_wp2_with fail
  refine (there_is B b mb m vw vg w HF.out).mono ?_
  rintro e w1 ⟨rfl, rfl⟩
  go_wp2
  go_ret
  exact ⟨rfl, Only.refl _ w⟩
end Go.Proofs.Ytelfeedaadkhnaa
