/- Packets as the reference has them: easeldocs.Rtcp, easelref06.Same. Conditions: as each says. -/
import Derived.Test.YtefcimkopgcagaaRcC
import Derived.Test.YtefcimkopgcagaaBase
set_option linter.unusedVariables false
namespace Go.Proofs.Ytefcimkopgcagaa
open Go.RowKit

theorem Try.sizeRq : (Try.prog.info? 37).map (·.size) = some 4 := by kernel_rfl
theorem kitsame_yes (va vb : Value) (xs : List Nat) (w : World) (ha : Src w va xs) (hb : Src w vb xs) (hl : xs.length ≤ 140737488355328) :
    Calls Try.prog 37 #[va, vb] w fun e w' => e = .returned (.bool true) ∧ Only (fun _ => False) w w' := by
  refine (same_is va vb xs xs w ha hb hl).mono ?_
  rintro e w' ⟨rfl, n, rfl⟩
  exact ⟨by simp, only_drewN w n⟩
theorem rsame_yes (va vb : Value) (xs : List Nat) (w : World) (ha : Src w va xs) (hb : Src w vb xs) (hl : xs.length ≤ 140737488355328) :
    Calls Try.prog 65 #[va, vb] w fun e w' => e = .returned (.bool true) ∧ Only (fun _ => False) w w' := by
  refine (rsame_is va vb xs xs w ha hb hl).mono ?_
  rintro e w' ⟨rfl, n, rfl⟩
  exact ⟨by simp, only_drewN w n⟩

set_option maxRecDepth 100000 in
set_option maxHeartbeats 1000000 in
theorem rsame_pk (n k d : Nat) (bd : List Nat) (u1 u2 : Value) (w : World) (h1 : Src w u1 bd) (h2 : Src w u2 bd) (hl : bd.length ≤ 1000000) :
    Calls Try.prog 48 #[.agg #[.int .u8 n, .int .u8 k, u1, .int .u8 d], .agg #[.int .u8 n, .int .u8 k, u2, .int .u8 d]] w fun e w' => e = .returned (.bool true) ∧ Only (fun _ => False) w w' := by
  obtain ⟨A1, c1, rfl⟩ := h1.slice
  obtain ⟨A2, c2, rfl⟩ := h2.slice
  have H1 := Lib.hid h1
  have H2 := Lib.hid h2
  have HL := Lib.hid hl
  clear h1 h2 hl
  go_enter Try.func48, Try.ntmps48
  go_wp2_with fail
  refine (rsame_yes _ _ bd _ (H1.out.of_only (((Only.refl _ w).alloc _).alloc _)) (H2.out.of_only (((Only.refl _ w).alloc _).alloc _)) (by have := HL.out; omega)).mono ?_
  rintro e w1 ⟨rfl, ho⟩
  have O := Lib.hid ho
  clear ho
  go_wp2
  go_ret
  exact ⟨rfl, only_more (((Only.refl _ w).alloc _).alloc _) O.out⟩
--RCE2
/-- easeldocs.Rtcp: a packet in new memory. -/
def GotPkt (p : Pkt) (w : World) (e : Ending) (w' : World) : Prop := ∃ A c, e = .returned (.agg #[.int .u8 (p.count : Nat), .int .u8 (p.kind : Nat), .slice A p.body.length c, .int .u8 (p.pad : Nat)]) ∧ w'.ownsRow w.heap.size 5 1 (.slice A p.body.length c) p.body.length (cellsOf p.body) ∧ Only (fun _ => False) w w'
set_option maxRecDepth 100000 in
set_option maxHeartbeats 2000000 in
theorem docs_rtcp (p : Pkt) (u : Value) (w : World) (hs : Src w u p.body) (hl : p.body.length ≤ 1000000) :
    Calls Try.prog 21 #[.agg #[.int .u8 (p.count : Nat), .int .u8 (p.kind : Nat), u, .int .u8 (p.pad : Nat)]] w (GotPkt p w) := by
  obtain ⟨A, c, rfl⟩ := hs.slice
  obtain ⟨u, hu⟩ : ∃ u, u = Value.slice A p.body.length c := ⟨_, rfl⟩
  rw [← hu] at hs ⊢
  have HU := Lib.hid hu
  have H0 := Lib.hid hs
  have HL := Lib.hid hl
  clear hs hl hu
  go_enter Try.func21, Try.ntmps21
  go_upto_region 1 with (fail)
  obtain ⟨bx, hbx⟩ : ∃ b, w.heap.size = b := ⟨_, rfl⟩
  have RX := Lib.hid hbx
  generalize hw0 : World.alloc _ _ = w0
  have HI := Lib.hid (show Is w0 bx 41 #[.int .u8 (p.count : Nat), .int .u8 (p.kind : Nat), u, .int .u8 (p.pad : Nat)] from by rw [← hw0, ← hbx]; exact (Is.made _ _ _).alloc _)
  obtain ⟨rb, hrb⟩ : ∃ b, w.heap.size + 1 = b := ⟨_, rfl⟩
  have HR := Lib.hid (show Is w0 rb 37 zeroP from by rw [← hw0, ← hrb]; have h := Is.made (w.alloc (.cells #[.int .u8 (p.count : Nat), .int .u8 (p.kind : Nat), u, .int .u8 (p.pad : Nat)] 41)) 37 zeroP; rw [show ∀ o : Obj, (w.alloc o).heap.size = w.heap.size + 1 from fun o => by simp] at h; exact h)
  have O0 := Lib.hid (show Only (fun _ => False) w w0 from by rw [← hw0]; exact ((Only.refl _ w).alloc _).alloc _)
  have HS := Lib.hid (H0.out.of_only O0.out)
  have SZ0 := Lib.hid (show w.heap.size ≤ w0.heap.size from O0.out.size)
  have RB := Lib.hid (show w.heap.size < rb from by omega)
  rw [hbx, ← hbx, hrb] 
  rw [hbx]
  clear hw0 hbx hrb
  refine wp_region_posts [[], [0], [], [2], [], [4], [5, 4], [], [7], [1, 3, 6, 8, 0, 2, 5, 4, 7], [9, 6, 0, 1, 2, 3, 4, 5, 7, 8]] [6, 10] [6, 9, 10] [[], [], [], [], [], [], [], [], [], [], [6, 9]] [[], [], [], [], [], [], [], [], [], [6], [6, 9]] [10] [10] [] []
      [some ?v0, some ?v1, some ?v2, some ?v3, some ?v4, some ?v5, none, some ?v7, some ?v8, none, none]
      ?T (fun wx => Is wx bx 41 #[.int .u8 (p.count : Nat), .int .u8 (p.kind : Nat), u, .int .u8 (p.pad : Nat)] ∧ Is wx rb 37 zeroP ∧ Only (fun _ => False) w0 wx) ?W ?E (by kernel_rfl) (by kernel_rfl) (by kernel_rfl) (fun x => ?hT) ?hF ?hini (Reg.all_ops ?runs) ?pres ?fin
  case W => exact fun j x w' => match j with | 6 => (∃ A c, x 6 = .slice A p.body.length c) ∧ w'.ownsRow w.heap.size 5 1 (x 6) p.body.length (cellsOf p.body) | 9 => x 9 = .agg #[.int .u8 (p.count : Nat), .int .u8 (p.kind : Nat), x 6, .int .u8 (p.pad : Nat)] | 10 => (∃ A c, x 6 = .slice A p.body.length c) ∧ w'.ownsRow w.heap.size 5 1 (x 6) p.body.length (cellsOf p.body) ∧ Is w' rb 37 #[.int .u8 (p.count : Nat), .int .u8 (p.kind : Nat), x 6, .int .u8 (p.pad : Nat)] ∧ Only (fun j => j = rb) w0 w' | _ => True
  case E => exact fun _ _ _ => True
  case hT =>
    simp only [Reg.fillV, Act.put, List.setIfInBounds_toArray, List.set_cons_zero, List.set_cons_succ]
    rfl
  case runs =>
    refine And.intro ?_ ?_
    · refine Reg.ob_pure (fun _ => rfl) rfl rfl rfl rfl (fun x w1 hF => ?_)
      obtain ⟨hI, hR, hO⟩ := hF
      have g0 := hI.cell 0
      have g1 := hI.cell 1
      have g2 := hI.cell 2
      have g3 := hI.cell 3
      simp at g0 g1 g2 g3
      clear hI hR hO
      go_simp
      with_reducible rfl
    refine And.intro ?_ ?_
    · refine Reg.ob_pure (fun _ => rfl) rfl rfl rfl rfl (fun x w1 hF => ?_)
      obtain ⟨hI, hR, hO⟩ := hF
      have g0 := hI.cell 0
      have g1 := hI.cell 1
      have g2 := hI.cell 2
      have g3 := hI.cell 3
      simp at g0 g1 g2 g3
      clear hI hR hO
      go_simp
      with_reducible rfl
    refine And.intro ?_ ?_
    · refine Reg.ob_pure (fun _ => rfl) rfl rfl rfl rfl (fun x w1 hF => ?_)
      obtain ⟨hI, hR, hO⟩ := hF
      have g0 := hI.cell 0
      have g1 := hI.cell 1
      have g2 := hI.cell 2
      have g3 := hI.cell 3
      simp at g0 g1 g2 g3
      clear hI hR hO
      go_simp
      with_reducible rfl
    refine And.intro ?_ ?_
    · refine Reg.ob_pure (fun _ => rfl) rfl rfl rfl rfl (fun x w1 hF => ?_)
      obtain ⟨hI, hR, hO⟩ := hF
      have g0 := hI.cell 0
      have g1 := hI.cell 1
      have g2 := hI.cell 2
      have g3 := hI.cell 3
      simp at g0 g1 g2 g3
      clear hI hR hO
      go_simp
      with_reducible rfl
    refine And.intro ?_ ?_
    · refine Reg.ob_pure (fun _ => rfl) rfl rfl rfl rfl (fun x w1 hF => ?_)
      obtain ⟨hI, hR, hO⟩ := hF
      have g0 := hI.cell 0
      have g1 := hI.cell 1
      have g2 := hI.cell 2
      have g3 := hI.cell 3
      simp at g0 g1 g2 g3
      clear hI hR hO
      go_simp
      with_reducible rfl
    refine And.intro ?_ ?_
    · refine Reg.ob_pure (fun _ => rfl) rfl rfl rfl rfl (fun x w1 hF => ?_)
      obtain ⟨hI, hR, hO⟩ := hF
      have g0 := hI.cell 0
      have g1 := hI.cell 1
      have g2 := hI.cell 2
      have g3 := hI.cell 3
      simp at g0 g1 g2 g3
      clear hI hR hO
      go_simp
      with_reducible rfl
    refine And.intro ?_ ?_
    · refine Reg.ob_some (fun _ => rfl) rfl (fun x w1 hF hU K hK => ?_)
      obtain ⟨hI, hR, hO⟩ := hF rfl
      go_simp
      refine (kitown_is u p.body w1 w.heap.size (Nat.le_trans SZ0.out hO.size) (HS.out.of_only hO) (by have := HL.out; omega)).mono ?_
      rintro e w3 ⟨v, rfl, hv, ho, -⟩
      rw [length_cellsOf] at hv
      obtain ⟨A1, k1, rfl, -⟩ := own_slice hv
      exact hK _ w3 (fun _ _ _ => ⟨hI.only ho (by simp), hR.only ho (by simp), only_more hO ho⟩) trivial ⟨⟨A1, k1, rfl⟩, hv⟩
    refine And.intro ?_ ?_
    · refine Reg.ob_pure (fun _ => rfl) rfl rfl rfl rfl (fun x w1 hF => ?_)
      obtain ⟨hI, hR, hO⟩ := hF
      have g0 := hI.cell 0
      have g1 := hI.cell 1
      have g2 := hI.cell 2
      have g3 := hI.cell 3
      simp at g0 g1 g2 g3
      clear hI hR hO
      go_simp
      with_reducible rfl
    refine And.intro ?_ ?_
    · refine Reg.ob_pure (fun _ => rfl) rfl rfl rfl rfl (fun x w1 hF => ?_)
      obtain ⟨hI, hR, hO⟩ := hF
      have g0 := hI.cell 0
      have g1 := hI.cell 1
      have g2 := hI.cell 2
      have g3 := hI.cell 3
      simp at g0 g1 g2 g3
      clear hI hR hO
      go_simp
      with_reducible rfl
    refine And.intro ?_ ?_
    · refine Reg.ob_some (fun _ => rfl) rfl (fun x w1 hF hU K hK => ?_)
      obtain ⟨⟨⟨A1, k1, h6⟩, hown⟩, -⟩ := hU
      have h6 : x 6 = .slice A1 p.body.length k1 := h6
      revert hK
      simp only [Nat.reduceAdd, h6]
      intro hK
      go_simp
      exact hK _ w1 (fun h => by cases h) rfl (by show _ = Value.agg #[_, _, x 6, _]; rw [h6]; rfl)
    refine And.intro ?_ ?_
    · refine Reg.ob_some (fun _ => rfl) rfl (fun x w1 hF hU K hK => ?_)
      obtain ⟨hI, hR, hO⟩ := hF rfl
      obtain ⟨⟨⟨A1, k1, h6⟩, hown⟩, h9, -⟩ := hU
      have h6 : x 6 = .slice A1 p.body.length k1 := h6
      have hown : w1.ownsRow w.heap.size 5 1 (x 6) p.body.length (cellsOf p.body) := hown
      have h9 : x 9 = .agg #[.int .u8 (p.count : Nat), .int .u8 (p.kind : Nat), x 6, .int .u8 (p.pad : Nat)] := h9
      refine wp_store_row 37 _ _ rfl rb #[.int .u8 (p.count : Nat), .int .u8 (p.kind : Nat), x 6, .int .u8 (p.pad : Nat)] rfl (by simpa [Act.eval] using h9) 37 zeroP hR Try.sizeRq rfl (by rw [h6]; simp [Value.oneCell']) ?_
      have ho : Only (fun j => j = rb) w1 (w1.setRow rb #[.int .u8 (p.count : Nat), .int .u8 (p.kind : Nat), x 6, .int .u8 (p.pad : Nat)]) := Only.setRow (S := fun j => j = rb) (Only.refl _ w1) (fun _ => rfl) _
      have hu := own_only hown ho (fun q hq e => row_apart hR hown (by decide) (by rw [hq, e]))
      exact hK _ _ (fun _ h _ => by cases h) trivial ⟨⟨A1, k1, h6⟩, hu, hR.setRow _, (hO.mono (fun _ _ h => h.elim)).trans ho (fun i _ e => e)⟩
    exact trivial
  case hF =>
    exact ⟨HI.out, HR.out, (Only.refl _ _).drewN 1⟩
  case hini =>
    exact trivial
  case pres =>
    intro i hi j hj hc x w1 w2 hF hE hW
    simp only [List.mem_cons, List.mem_nil_iff, or_false] at hi hj
    rcases hj with rfl | rfl | rfl <;> rcases hi with rfl | rfl
    all_goals (exfalso; revert hc; decide)
  case fin =>
    rintro x w1 - ⟨⟨⟨A1, k1, h6⟩, hown, hI, hO⟩, -⟩
    have h6 : x 6 = .slice A1 p.body.length k1 := h6
    have hown : w1.ownsRow w.heap.size 5 1 (x 6) p.body.length (cellsOf p.body) := hown
    have hI : Is w1 rb 37 #[.int .u8 (p.count : Nat), .int .u8 (p.kind : Nat), x 6, .int .u8 (p.pad : Nat)] := hI
    simp only [Nat.reduceAdd, h6] at hown hI ⊢
    have hO : Only (fun j => j = rb) w0 w1 := hO
    go_wp2_with fail
    exact bodyPost_ret (results_cell_row Try.results21 _ w1 rb 37 _ (0, 0) _ rfl hI Try.underlying37 rfl Try.sizeRq) rfl ⟨_, _, rfl, hown, O0.out.trans hO (fun i hi e => by have := RB.out; omega)⟩
end Go.Proofs.Ytefcimkopgcagaa
