/- floor: slices.Clone of numbers and of grants; Waiting, Grants. Conditions: as each says. -/
import Derived.Test.YtelfeedaadkhnaaFmB
set_option linter.unusedVariables false
set_option linter.unusedSimpArgs false
namespace Go.Proofs.Ytelfeedaadkhnaa
open Go Go.RowKit

/-- A row's copy, in new memory. -/
def CopyOf (T : TypeId) (sz : Nat) (xss : List (List Value)) (w : World) (e : Ending) (w' : World) : Prop := ∃ v, e = .returned v ∧ OwnS w' w.heap.size T sz v xss ∧ Only (fun _ => False) w w'
set_option maxRecDepth 100000 in
set_option maxHeartbeats 400000 in
theorem cl32_nil (w : World) : Calls Try.prog 40 #[.slice none 0 0] w fun e w' => e = .returned (.slice none 0 0) ∧ w = w' := by
  have hq := fun (w : World) => Lib.run_eql_slice_nil (P := Try.prog) w 33 30 none 0 0 0 0 Try.underlying33
  simp at hq
  go_enter Try.func40, Try.ntmps40
  go_wp2
  go_ret
  exact ⟨rfl, rfl⟩
set_option maxRecDepth 100000 in
set_option maxHeartbeats 1000000 in
theorem cl32_some (B g n c : Nat) (xss : List (List Value)) (w : World) (h : OwnS w B 30 1 (.slice (some ⟨g, 0, none⟩) n c) xss) (h1 : ∀ u ∈ xss.flatten, u.oneCell' = true) (hn : xss.length ≤ 100000) :
    Calls Try.prog 40 #[.slice (some ⟨g, 0, none⟩) n c] w (CopyOf 30 1 xss w) := by
  have hq := fun (w : World) => Lib.run_eql_slice_nil (P := Try.prog) w 33 30 (some ⟨g, 0, none⟩) n c 0 0 Try.underlying33
  simp at hq
  obtain ⟨i0, hi, hz0, hz1, hz2⟩ := info_parts Try.infoU32
  obtain ⟨cur, -, -, hxc, hcm, hnx⟩ := own_is h
  have Hl := Lib.hid (flat_length xss h.2)
  have H1 := Lib.hid h1
  have Hz := Lib.hid (show ∀ j u, xss.flatten[j]? = some u → (w.alloc (.cells #[] 30)).cell? ((⟨g, 0, none⟩ : Addr).add j) = some u from fun j u hu => Lib.cell?_alloc_some _ (by
    have := h.from_ (k := 0) j u (by simpa using hu)
    rw [add_plain]
    simpa using this))
  have HX := Lib.hid h.2
  have HN := Lib.hid hnx
  obtain ⟨news, hnews⟩ : ∃ x, xss.flatten = x := ⟨_, rfl⟩
  rw [hnews] at Hl H1 Hz
  have HNW := Lib.hid hnews
  rw [← hnx] at hn
  rw [← HN.out] at Hl
  clear hnews h h1 hnx hxc hcm
  go_enter Try.func40, Try.ntmps40
  go_wp2_with (at_builtin; refine wpList_append_own _ rfl _ _ 33 rfl w.heap.size 30 i0 (.int .u32 0) 1 4 Try.underlying33 hi hz0 hz1 hz2 rfl (by decide) _ 0 [] rfl (World.ownsRow_lit w #[] 0 (Nat.le_refl _) (by decide) rfl) ⟨g, 0, none⟩ n c news rfl (by rw [Hl.out]) Hz.out H1.out (by unfold maxLen; omega) (by omega) (by simp) ?_)
  intro v' w1 hown hg _
  go_wp2
  go_ret
  refine ⟨_, rfl, ⟨?_, HX.out⟩, ?_⟩
  · rw [← HN.out, HNW.out]
    simpa using hown
  · exact ((Only.refl _ w).alloc _).grown hg (fun i hi hlt => by simp [Value.ownBlock] at hi; omega)
theorem clone_u32 (B : Nat) (v : Value) (xss : List (List Value)) (w : World) (h : OwnS w B 30 1 v xss) (h1 : ∀ u ∈ xss.flatten, u.oneCell' = true) (hn : xss.length ≤ 100000) :
    Calls Try.prog 40 #[v] w (CopyOf 30 1 xss w) := by
  rcases h.1.2 with ⟨rfl, h0⟩ | ⟨g, cap, cur, rfl, _⟩
  · refine (cl32_nil w).mono ?_
    rintro e w' ⟨rfl, rfl⟩
    have hx : xss = [] := List.eq_nil_of_length_eq_zero h0
    exact ⟨_, rfl, by rw [hx]; exact ⟨World.ownsRow_nil _ _ _ _, by simp⟩, Only.refl _ _⟩
  · exact cl32_some B g _ cap xss w h h1 hn
set_option maxRecDepth 100000 in
set_option maxHeartbeats 400000 in
theorem clgr_nil (w : World) : Calls Try.prog 38 #[.slice none 0 0] w fun e w' => e = .returned (.slice none 0 0) ∧ w = w' := by
  have hq := fun (w : World) => Lib.run_eql_slice_nil (P := Try.prog) w 46 48 none 0 0 0 0 Try.underlying46
  simp at hq
  go_enter Try.func38, Try.ntmps38
  go_wp2
  go_ret
  exact ⟨rfl, rfl⟩
set_option maxRecDepth 100000 in
set_option maxHeartbeats 1000000 in
theorem clgr_some (B g n c : Nat) (xss : List (List Value)) (w : World) (h : OwnS w B 48 3 (.slice (some ⟨g, 0, none⟩) n c) xss) (h1 : ∀ u ∈ xss.flatten, u.oneCell' = true) (hn : xss.length ≤ 100000) :
    Calls Try.prog 38 #[.slice (some ⟨g, 0, none⟩) n c] w (CopyOf 48 3 xss w) := by
  have hq := fun (w : World) => Lib.run_eql_slice_nil (P := Try.prog) w 46 48 (some ⟨g, 0, none⟩) n c 0 0 Try.underlying46
  simp at hq
  obtain ⟨i0, hi, hz0, hz1, hz2⟩ := info_parts Try.infoGr
  obtain ⟨cur, -, -, hxc, hcm, hnx⟩ := own_is h
  have Hl := Lib.hid (flat_length xss h.2)
  have H1 := Lib.hid h1
  have Hz := Lib.hid (show ∀ j u, xss.flatten[j]? = some u → (w.alloc (.cells #[] 48)).cell? ((⟨g, 0, none⟩ : Addr).add j) = some u from fun j u hu => Lib.cell?_alloc_some _ (by
    have := h.from_ (k := 0) j u (by simpa using hu)
    rw [add_plain]
    simpa using this))
  have HX := Lib.hid h.2
  have HN := Lib.hid hnx
  obtain ⟨news, hnews⟩ : ∃ x, xss.flatten = x := ⟨_, rfl⟩
  rw [hnews] at Hl H1 Hz
  have HNW := Lib.hid hnews
  rw [← hnx] at hn
  rw [← HN.out] at Hl
  clear hnews h h1 hnx hxc hcm
  go_enter Try.func38, Try.ntmps38
  go_wp2_with (at_builtin; refine wpList_append_own _ rfl _ _ 46 rfl w.heap.size 48 i0 (.agg zeroGr) 3 24 Try.underlying46 hi hz0 hz1 hz2 rfl (by decide) _ 0 [] rfl (World.ownsRow_lit w #[] 0 (Nat.le_refl _) (by decide) rfl) ⟨g, 0, none⟩ n c news rfl (by rw [Hl.out]) Hz.out H1.out (by unfold maxLen; omega) (by omega) (by simp) ?_)
  intro v' w1 hown hg _
  go_wp2
  go_ret
  refine ⟨_, rfl, ⟨?_, HX.out⟩, ?_⟩
  · rw [← HN.out, HNW.out]
    simpa using hown
  · exact ((Only.refl _ w).alloc _).grown hg (fun i hi hlt => by simp [Value.ownBlock] at hi; omega)
theorem clone_gr (B : Nat) (v : Value) (xss : List (List Value)) (w : World) (h : OwnS w B 48 3 v xss) (h1 : ∀ u ∈ xss.flatten, u.oneCell' = true) (hn : xss.length ≤ 100000) :
    Calls Try.prog 38 #[v] w (CopyOf 48 3 xss w) := by
  rcases h.1.2 with ⟨rfl, h0⟩ | ⟨g, cap, cur, rfl, _⟩
  · refine (clgr_nil w).mono ?_
    rintro e w' ⟨rfl, rfl⟩
    have hx : xss = [] := List.eq_nil_of_length_eq_zero h0
    exact ⟨_, rfl, by rw [hx]; exact ⟨World.ownsRow_nil _ _ _ _, by simp⟩, Only.refl _ _⟩
  · exact clgr_some B g _ cap xss w h h1 hn
theorem rows32_cells (l : List Nat) : ∀ u ∈ (rows32 l).flatten, u.oneCell' = true := by
  rw [rows32_flat]
  simp [cells32, Value.oneCell']
theorem grRows_cells (l : List (Nat × Nat × Nat)) : ∀ u ∈ (grRows l).flatten, u.oneCell' = true := by
  intro u hu
  obtain ⟨xs, hx, hu⟩ := List.mem_flatten.1 hu
  simp only [grRows, List.mem_map] at hx
  obtain ⟨g, _, rfl⟩ := hx
  simp only [grCells, List.mem_cons, List.not_mem_nil, or_false] at hu
  rcases hu with rfl | rfl | rfl <;> rfl
set_option maxRecDepth 100000 in
set_option maxHeartbeats 1000000 in
theorem waiting_is (B b mb : Nat) (m : Fl) (vw vg : Value) (w : World) (h : Flr w B b mb m vw vg) (hlen : m.wt.length ≤ 1000) : Calls Try.prog 16 #[ptr b] w (CopyOf 30 1 (rows32 m.wt) w) := by
  have HF := Lib.hid h
  have HC := Lib.hid (fun w (h : Flr w B b mb m vw vg) => clone_u32 B vw (rows32 m.wt) w h.wr (rows32_cells _) (by rw [rows32_length]; omega))
  obtain ⟨A, c, rfl, -⟩ := h.wr.slice
  rw [rows32_length] at HF HC h
  have c8 : w.cell? ⟨b, 8, none⟩ = some (.slice A m.wt.length c) := h.cell 8
  clear h
  go_enter Try.func16, Try.ntmps16
  go_wp2_with fail
  refine (there_is B b mb m _ vg w HF.out).mono ?_
  rintro e w1 ⟨rfl, rfl⟩
  go_wp2_with fail
  refine (HC.out w HF.out).mono ?_
  rintro e w1 ⟨v, rfl, h1, h2⟩
  have H := Lib.hid (And.intro h1 h2)
  clear h1 h2
  go_wp2
  go_ret
  exact ⟨v, rfl, H.out⟩
set_option maxRecDepth 100000 in
set_option maxHeartbeats 1000000 in
theorem grants_is (B b mb : Nat) (m : Fl) (vw vg : Value) (w : World) (h : Flr w B b mb m vw vg) (hlen : m.gs.length ≤ 1000) : Calls Try.prog 14 #[ptr b] w (CopyOf 48 3 (grRows m.gs) w) := by
  have HF := Lib.hid h
  have hgl : (grRows m.gs).length = m.gs.length := by simp [grRows]
  have HC := Lib.hid (fun w (h : Flr w B b mb m vw vg) => clone_gr B vg (grRows m.gs) w h.gr (grRows_cells _) (by rw [hgl]; omega))
  obtain ⟨A, c, rfl, -⟩ := h.gr.slice
  rw [hgl] at HF HC h
  have c9 : w.cell? ⟨b, 9, none⟩ = some (.slice A m.gs.length c) := h.cell 9
  clear h hgl
  go_enter Try.func14, Try.ntmps14
  go_wp2_with fail
  refine (there_is B b mb m vw _ w HF.out).mono ?_
  rintro e w1 ⟨rfl, rfl⟩
  go_wp2_with fail
  refine (HC.out w HF.out).mono ?_
  rintro e w1 ⟨v, rfl, h1, h2⟩
  have H := Lib.hid (And.intro h1 h2)
  clear h1 h2
  go_wp2
  go_ret
  exact ⟨v, rfl, H.out⟩
end Go.Proofs.Ytelfeedaadkhnaa
