/- reorder: Waiting. Conditions: as it says. -/
import Derived.Test.YtcjbiiphjahjpaaRoH
import Derived.Test.YtcjbiiphjahjpaaWnAp
set_option linter.unusedVariables false
set_option linter.unusedSimpArgs false
namespace Go.Proofs.Ytcjbiiphjahjpaa
open Go Go.RowKit

theorem Wt.cls_one (x : Wt) {B : Nat} {u : V3} {w : World} (h : OwnPk B x.p u.1 u.2.1 u.2.2 w) : ∀ v ∈ x.cls u, v.oneCell' = true := by
  have h1 := x.p.cls_one (own_isSl h.1) (own_isSl h.2.1) (own_isSl h.2.2)
  intro v hv
  rcases List.mem_cons.1 hv with rfl | hv
  · rfl
  · rcases List.mem_cons.1 hv with rfl | hv
    · rfl
    · rw [Array.all_eq_true'] at h1
      exact h1 v (by simpa using hv)
theorem Bfr.cells_one {w : World} {b B : Nat} {m : Bf} {v : Value} {us : List V3} (h : Bfr w b m v us B) : ∀ u ∈ (wtRows m.ws us).flatten, u.oneCell' = true := by
  intro c hc
  obtain ⟨l, hl, hc⟩ := List.mem_flatten.1 hc
  obtain ⟨i, hi⟩ := List.getElem?_of_mem hl
  have hil : i < (wtRows m.ws us).length := (List.getElem?_eq_some_iff.1 hi).1
  rw [wtRows_length h.pks.len] at hil
  have hx := List.getElem?_eq_getElem hil
  have hu := List.getElem?_eq_getElem (show i < us.length by rw [h.pks.len]; exact hil)
  rw [wtRows_get hx hu] at hi
  injection hi with hi
  subst hi
  exact Wt.cls_one _ (h.pks.own i _ _ hx hu) c hc
/-- The numbers of the packets that wait. -/
def Waits (m : Bf) (w : World) (e : Ending) (w' : World) : Prop := ∃ v, e = .returned v ∧ w'.ownsRow w.heap.size 22 1 v m.ws.length (cells64 (m.ws.map Wt.n)) ∧ Only (fun _ => False) w w'
set_option maxRecDepth 20000 in
set_option maxHeartbeats 2000000 in
theorem rwait_is (b : Nat) (m : Bf) (v : Value) (us : List V3) (B : Nat) (w : World) (h : Bfr w b m v us B) (hf : m.Fit) : Calls Try.prog 14 #[ptr b] w (Waits m w) := by
  obtain ⟨A, c, rfl, hc⟩ := h.slice
  have hL := hf.len
  have HB := Lib.hid h
  have c4 := h.list
  have hget : ∀ i, i < m.ws.length → ∃ (g : Nat) (x : Wt) (u : V3), A = some ⟨g, 0, none⟩ ∧ m.ws[i]? = some x ∧ us[i]? = some u ∧ w.rangeAt g (i * 13) (x.cls u) ∧ g < w.heap.size := fun i hi => by
    obtain ⟨g, c', e, h1, h2, h3, h4⟩ := h.at_ (by omega)
    injection e with e1 e2 e3
    have hx := List.getElem?_eq_getElem hi
    obtain ⟨u, hu, hcell⟩ := h4 i _ hx
    exact ⟨g, _, u, e1, hx, hu, fun j z hj => by
      have hjl : j < 13 := by rw [← Wt.cls_length m.ws[i] u]; exact (List.getElem?_eq_some_iff.1 hj).1
      rw [hcell j hjl, hj], h2⟩
  have hone : ∀ (i : Nat) (x : Wt) (u : V3), m.ws[i]? = some x → us[i]? = some u → ∀ v ∈ x.cls u, v.oneCell' = true := fun i x u hx hu => Wt.cls_one x (h.pks.own i x u hx hu)
  obtain ⟨ws, hws⟩ : ∃ ws, m.ws = ws := ⟨_, rfl⟩
  unfold Waits
  rw [hws] at hL hget hone c4 hc ⊢
  obtain ⟨L, hLd⟩ : ∃ L, ws.length = L := ⟨_, rfl⟩
  have HLD := Lib.hid hLd
  rw [hLd] at hL hget c4 hc ⊢
  have HG := Lib.hid hget
  have H1 := Lib.hid hone
  clear hget hone h hf hLd hws HB
  go_enter Try.func14, Try.ntmps14
  go_wp2
  go_loopw [3, 13] (fun s3 s13 wr => ∃ k : Nat, k ≤ L ∧ s13 = .int .i64 (k : Int) ∧ wr.ownsRow w.heap.size 22 1 s3 ((ws.take k).map Wt.n).length (cells64 ((ws.take k).map Wt.n)) ∧ Only (fun _ => False) w wr) (fun s3 s13 _ => L - (intOf s13).toNat)
  case atStart => exact ⟨0, by omega, rfl, World.ownsRow_nil w w.heap.size 22 1, Only.refl _ w⟩
  case round =>
    obtain ⟨k, hk, rfl, hr, ho⟩ := hrel
    have R := Lib.hid hr
    have O := Lib.hid ho
    by_cases hlt : k < L
    · have hltI : (k : Int) < (L : Int) := by omega
      obtain ⟨g, x, u, rfl, hx, hu, hra, hg⟩ := HG.out k hlt
      have RA := Lib.hid (show wr.rangeAt g (k * 13) (x.cls u) from fun j z hj => grown_cell ho (hra j z hj) hg)
      have H2 := Lib.hid (H1.out k x u hx hu)
      clear hr ho hra
      have HV := Lib.hid (show (x.cls u).toArray.all (·.oneCell') = true from all_oneCell_toArray H2.out)
      have hsz : (Try.prog.info? 79).map (·.size) = some (x.cls u).length := by rw [Try.sizeWt]; rfl
      have hsz2 : (Try.prog.info? 79).map (·.size) = some (x.cls u).toArray.size := by rw [Try.sizeWt]; rfl
      have hs3 : zeroWt.size = (x.cls u).toArray.size := rfl
      have hn0 : (x.cls u)[0]? = some (.int .u64 (x.n : Int)) := rfl
      generalize x.cls u = cs at *
      go_upto_region 7 with (first
        | (refine wpList_load_mid rfl 79 _ rfl g (k * 13) rfl cs _ RA.out Try.underlying79 rfl hsz ?_)
        | (refine wpList_store_is (o := ⟨none, _, _, _, _, _⟩) rfl 79 _ _ rfl wr.heap.size cs.toArray rfl rfl 79 _ (Is.made wr _ _) hsz2 hs3 HV.out ?_; intro w4 hi4 ho4))
      have O4 := Lib.hid (((O.out.alloc _).trans ho4 (fun i hi e => by have := O.out.size; omega)).mono (fun _ _ h => h.elim) : Only (fun _ => False) w w4)
      have R4 := Lib.hid (own_only (own_only R.out ((Only.refl (fun _ => False) wr).alloc _) (by simp)) ho4 (fun q hq e => by have := (R.out.lt q hq).2; omega))
      have cN : w4.cell? ⟨wr.heap.size, 0, none⟩ = some (.int .u64 (x.n : Int)) := by rw [hi4.cell, ← hn0]; simp
      have hnx : (ws.take (k + 1)).map Wt.n = (ws.take k).map Wt.n ++ [x.n] := by rw [List.take_add_one, hx]; simp
      have hnl : ((ws.take k).map Wt.n).length ≤ 300 := by rw [List.length_map, List.length_take]; omega
      generalize (ws.take k).map Wt.n = ns at *
      have HNX := Lib.hid hnx
      clear hnx hi4 ho4 RA HV
      go_wp2_with (refine wpList_plain rfl fun _ hK => app64one _ _ _ rfl w.heap.size u3 ns x.n w4.heap.size rfl (own_only R4.out ((Only.refl (fun _ => False) w4).alloc _) (by simp)) rfl (Is.made w4 _ _) (by omega) (by have := (O4.out.alloc (.cells #[.int .u64 (x.n : Int)] 22)).size; exact this) ?_; intro A' c' w6 hown ho6; refine hK _ _ ?_)
      refine ⟨⟨k + 1, by omega, by go_num, ?_, (O4.out.alloc _).trans ho6 (fun i hi e => by have := (R4.out.lt i e).1; omega)⟩, by simp [intOf]; omega⟩
      rw [HNX.out]
      rw [List.length_append] at hown ⊢
      exact hown
    · obtain rfl : k = L := by omega
      go_wp2
      go_ret
      refine ⟨_, rfl, ?_, O.out⟩
      have := R.out
      rw [List.take_of_length_le (by rw [HLD.out]; exact Nat.le_refl _), List.length_map, HLD.out] at this
      exact this
end Go.Proofs.Ytcjbiiphjahjpaa
