/- easelref02.Value, of at most four bytes. Conditions: as it says. -/
import Derived.Test.YtcgfmjdlningpaaFew
set_option linter.unusedVariables false
namespace Go.Proofs.Ytcgfmjdlningpaa
open Go.RowKit

set_option maxRecDepth 100000 in
set_option maxHeartbeats 1000000 in
theorem value_is (v : Value) (bs : List Nat) (w : World) (hs : Src w v bs) (hb : ∀ x ∈ bs, x < 256) (hl : bs.length ≤ 4) :
    Calls Try.prog 53 #[v] w fun e w' => e = .returned (.int .u64 (vu bs : Nat)) ∧ w = w' := by
  obtain ⟨A, c, rfl⟩ := hs.slice
  have HS := Lib.hid hs
  have HB := Lib.hid hb
  clear hs hb
  obtain ⟨L, hL⟩ : ∃ L, bs.length = L := ⟨_, rfl⟩
  rw [hL] at hl ⊢
  have HL := Lib.hid hL
  clear hL
  go_enter Try.func53, Try.ntmps53
  go_wp2
  go_loop [3, 4] (fun n i => ∃ k : Nat, k ≤ L ∧ i = .int .i64 k ∧ n = .int .u64 (vu (bs.take k) : Nat)) (fun _ i => L - (intOf i).toNat)
  case atStart => exact ⟨0, by omega, rfl, by simp [vu]⟩
  case round =>
    obtain ⟨k, hk, rfl, rfl⟩ := hrel
    by_cases hkl : k < L
    · have hkb : k < bs.length := by rw [HL.out]; exact hkl
      have hv : vu (bs.take k) < 256 ^ 3 := by
        have h1 := vu_lt k (bs.take k) (by rw [List.length_take]; omega) (fun x hx => HB.out x (List.mem_of_mem_take hx))
        exact Nat.lt_of_lt_of_le h1 (Nat.pow_le_pow_right (by decide) (by omega))
      have hx : bs[k] < 256 := HB.out _ (List.getElem_mem hkb)
      have HN := Lib.hid (show vu (bs.take (k + 1)) = vu (bs.take k) * 256 + bs[k] from by rw [List.take_succ_eq_append_getElem hkb, vu_snoc])
      obtain ⟨g, o, c', e1, hc⟩ := HS.out.at_ (by omega)
      injection e1 with e1 _ e3
      subst e1 e3
      have qc := hc k hkb
      clear hc
      generalize vu (bs.take k) = n at *
      generalize bs[k] = x at *
      clear hkb
      have hn : n ≤ 16777215 := by simp at hv; omega
      clear hv
      go_wp2
      go_round
      case rel => exact ⟨k + 1, by omega, by go_num, by rw [HN.out]; go_num⟩
      case measure => simp [intOf]; omega
    · have hkl : k = L := by omega
      subst hkl
      have HT := Lib.hid (show bs.take k = bs from List.take_of_length_le (by rw [HL.out]; exact Nat.le_refl _))
      go_wp2
      go_ret
      exact ⟨by rw [HT.out]; rfl, rfl⟩
end Go.Proofs.Ytcgfmjdlningpaa
