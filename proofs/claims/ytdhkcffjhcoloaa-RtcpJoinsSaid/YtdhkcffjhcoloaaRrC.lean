/- easelref02.Number. Conditions: as it says. -/
import Derived.Test.YtdhkcffjhcoloaaRrA
set_option linter.unusedVariables false
namespace Go.Proofs.Ytdhkcffjhcoloaa
open Go.RowKit

/-- A number's bytes, so many of them. -/
def numB : Nat → Nat → List Nat
  | 0, _ => []
  | k + 1, n => numB k (n / 256) ++ [n % 256]
theorem numB_len : ∀ (k n : Nat), (numB k n).length = k
  | 0, _ => rfl
  | k + 1, n => by simp [numB, numB_len k]
theorem set_rep (r x : Nat) (tl : List Nat) : (List.replicate (r + 1) 0 ++ tl).set r x = List.replicate r 0 ++ [x] ++ tl := by
  rw [List.replicate_succ', List.append_assoc, List.append_assoc, List.set_append_right _ _ (by simp)]
  simp

set_option maxRecDepth 100000 in
set_option maxHeartbeats 1000000 in
theorem number_is (k n : Nat) (w : World) (hk : k ≤ 8) (hk1 : 1 ≤ k) (hn : n ≤ 18446744073709551615) :
    Calls Try.prog 60 #[.int .u64 n, .int .i64 k] w fun e w' => ∃ A c, e = .returned (.slice A k c) ∧ w'.ownsRow w.heap.size 5 1 (.slice A k c) k (cellsOf (numB k n)) ∧ Only (fun _ => False) w w' := by
  obtain ⟨i0, hi, hz0, hz1, hz2⟩ := info_parts Try.infoU8
  go_enter Try.func60, Try.ntmps60
  go_wp2_with (at_make; refine wpList_make_full _ rfl _ _ 27 rfl w.heap.size 5 i0 (.int .u8 0) 1 Try.underlying27 hi hz0 hz1 .i64 .i64 _ _ k rfl rfl rfl rfl (by rw [hz2]; omega) (by unfold maxLen; omega) (Nat.le_refl _) ?_; intro w2 hown hg)
  have h2 := Only.grown (Only.refl (fun _ => False) w) hg (by simp)
  have hown2 : w2.ownsRow w.heap.size 5 1 (.slice (some ⟨w.heap.size, 0, none⟩) k k) k (cellsOf (List.replicate k 0)) := by rw [← madeU8]; simpa [Value.cells] using hown
  have HOWN := Lib.hid hown2
  have H2 := Lib.hid h2
  have GB := Lib.hid (show w.heap.size ≤ w.heap.size from Nat.le_refl _)
  clear hown hg hown2 h2
  go_loopw [0, 6] (fun s0 s6 wr => ∃ (r m : Nat) (tl : List Nat), r ≤ k ∧ m ≤ 18446744073709551615 ∧ s0 = .int .u64 m ∧ s6 = .int .i64 ((r : Int) - 1) ∧ numB k n = numB r m ++ tl ∧ wr.ownsRow w.heap.size 5 1 (.slice (some ⟨w.heap.size, 0, none⟩) k k) k (cellsOf (List.replicate r 0 ++ tl)) ∧ Only (fun _ => False) w wr) (fun _ s6 _ => (intOf s6 + 1).toNat)
  case atStart => exact ⟨k, n, [], by omega, hn, rfl, rfl, by simp, by rw [List.append_nil]; exact HOWN.out, H2.out⟩
  case round =>
    obtain ⟨r, m, tl, hr, hm, rfl, rfl, hnb, hw, ho⟩ := hrel
    have NB := Lib.hid hnb
    have OW := Lib.hid hw
    have OO := Lib.hid ho
    clear hnb hw ho
    by_cases hr0 : r = 0
    · subst hr0
      have zc : decide ((0 : Int) ≤ ((0 : Nat) : Int) - 1) = false := by decide
      go_wp2
      go_ret
      have h := OW.out
      rw [show numB k n = tl from by rw [NB.out]; rfl]
      exact ⟨_, _, rfl, by simpa using h, OO.out⟩
    · obtain ⟨r, rfl⟩ : ∃ q, r = q + 1 := ⟨r - 1, by omega⟩
      have e1 : (((r + 1 : Nat) : Int) - 1) = (r : Int) := by omega
      rw [e1]
      have HST := Lib.hid (OW.out.stored r (.int .u8 (m % 256 : Nat))).1
      have hfr := OW.out.frozenAt r
      have hlt : w.heap.size < wr.heap.size := (OW.out.lt _ rfl).2
      have hcl : ∃ u, wr.cell? ⟨w.heap.size, r, none⟩ = some u := by
        rw [OW.out.cellAt r (by omega)]
        have : r < (cellsOf (List.replicate (r + 1) 0 ++ tl)).length := by rw [length_cellsOf, List.length_append, List.length_replicate]; omega
        exact ⟨_, List.getElem?_eq_getElem this⟩
      obtain ⟨u, qc⟩ := hcl
      have rI : (r : Int) < (k : Int) := by omega
      have rN : r < k := by omega
      have HSE := Lib.hid (show (cellsOf (List.replicate (r + 1) 0 ++ tl)).set r (.int .u8 (m % 256 : Nat)) = cellsOf (List.replicate r 0 ++ ([m % 256] ++ tl)) from by rw [← cellsOf_set, set_rep, List.append_assoc])
      have HNN := Lib.hid (show numB k n = numB r (m / 256) ++ ([m % 256] ++ tl) from by rw [NB.out]; simp [numB])
      have em : ((m % 256 : Nat) : Int) = (m : Int) % 256 := by omega
      have EM := Lib.hid em
      clear hr0 e1 em
      go_wp2
      refine ⟨⟨r, m / 256, [m % 256] ++ tl, by omega, by omega, by go_num, rfl, HNN.out, ?_, ?_⟩, ?_⟩
      · have h := HST.out
        rw [HSE.out, EM.out] at h
        exact h
      · exact Only.set (S := fun _ => False) (p := ⟨w.heap.size, r, none⟩) OO.out (fun h => absurd h (by show ¬ w.heap.size < w.heap.size; omega)) _
      · simp [intOf]
end Go.Proofs.Ytdhkcffjhcoloaa
