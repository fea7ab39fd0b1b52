/- easelref07.Sort, four. Conditions: as each says. -/
import Derived.Test.YtefcimkopgcagaaFbGr
import Derived.Test.YtefcimkopgcagaaRcE
import Derived.Test.YtefcimkopgcagaaBase
set_option linter.unusedVariables false
set_option linter.unusedSimpArgs false
namespace Go.Proofs.Ytefcimkopgcagaa
open Go.RowKit

/-- The sort of a kind and a count; 0: none. -/
def sOf (kd ct : Nat) : Nat := if kd = 205 ∧ ct = 1 then 1 else if kd = 206 ∧ ct = 1 then 2 else if kd = 206 ∧ ct = 4 then 3 else if kd = 206 ∧ ct = 15 then 4 else 0
set_option maxRecDepth 100000 in
set_option maxHeartbeats 2000000 in
theorem rsort_is (kd ct pad : Nat) (v : Value) (w : World) :
    Calls Try.prog 26 #[.agg #[.int .u8 (ct : Nat), .int .u8 (kd : Nat), v, .int .u8 (pad : Nat)]] w fun e w' => e = .returned (.int .u8 (sOf kd ct : Nat)) ∧ Only (fun _ => False) w w' := by
  obtain ⟨s, hs⟩ : ∃ s, sOf kd ct = s := ⟨_, rfl⟩
  rw [hs]
  unfold sOf at hs
  by_cases hk5 : kd = 205
  · subst hk5
    by_cases h1 : ct = 1
    · subst h1
      obtain rfl : 1 = s := by simpa using hs
      go_enter Try.func26, Try.ntmps26
      go_wp2
      go_ret
      exact ⟨rfl, (Only.refl _ w).alloc _⟩
    · obtain rfl : 0 = s := by simpa [h1] using hs
      have n1 : ((ct : Int) == 1) = false := by rw [beq_eq_false_iff_ne]; omega
      go_enter Try.func26, Try.ntmps26
      go_wp2
      go_ret
      exact ⟨rfl, (Only.refl _ w).alloc _⟩
  by_cases hk6 : kd = 206
  · subst hk6
    by_cases h1 : ct = 1
    · subst h1
      obtain rfl : 2 = s := by simpa using hs
      go_enter Try.func26, Try.ntmps26
      go_wp2
      go_ret
      exact ⟨rfl, (Only.refl _ w).alloc _⟩
    by_cases h4 : ct = 4
    · subst h4
      obtain rfl : 3 = s := by simpa using hs
      go_enter Try.func26, Try.ntmps26
      go_wp2
      go_ret
      exact ⟨rfl, (Only.refl _ w).alloc _⟩
    by_cases h15 : ct = 15
    · subst h15
      obtain rfl : 4 = s := by simpa using hs
      go_enter Try.func26, Try.ntmps26
      go_wp2
      go_ret
      exact ⟨rfl, (Only.refl _ w).alloc _⟩
    obtain rfl : 0 = s := by simpa [h1, h4, h15] using hs
    have n1 : ((ct : Int) == 1) = false := by rw [beq_eq_false_iff_ne]; omega
    have n4 : ((ct : Int) == 4) = false := by rw [beq_eq_false_iff_ne]; omega
    have n15 : ((ct : Int) == 15) = false := by rw [beq_eq_false_iff_ne]; omega
    go_enter Try.func26, Try.ntmps26
    go_wp2
    go_ret
    exact ⟨rfl, (Only.refl _ w).alloc _⟩
  obtain rfl : 0 = s := by simpa [hk5, hk6] using hs
  have n5 : ((kd : Int) == 205) = false := by rw [beq_eq_false_iff_ne]; omega
  have n6 : ((kd : Int) == 206) = false := by rw [beq_eq_false_iff_ne]; omega
  go_enter Try.func26, Try.ntmps26
  go_wp2
  go_ret
  exact ⟨rfl, (Only.refl _ w).alloc _⟩

/-- The number at a place. -/
def fourB (bs : List Nat) (k : Nat) : Nat := vu ((bs.drop k).take 4)
set_option maxRecDepth 100000 in
set_option maxHeartbeats 1000000 in
theorem four_is (v : Value) (bs : List Nat) (k : Nat) (w : World) (hs : Src w v bs) (hb : ∀ x ∈ bs, x < 256) (hk : k + 4 ≤ bs.length) (hl : bs.length ≤ 100000) :
    Calls Try.prog 54 #[v, .int .i64 (k : Nat)] w fun e w' => e = .returned (.int .u32 (fourB bs k : Nat)) ∧ w = w' := by
  have hlen : ((bs.drop k).take 4).length = 4 := by rw [List.length_take, List.length_drop]; omega
  have hbb : ∀ x ∈ (bs.drop k).take 4, x < 256 := fun x hx => hb x (List.mem_of_mem_drop (List.mem_of_mem_take hx))
  have hv := vu_lt 4 ((bs.drop k).take 4) (by omega) hbb
  obtain ⟨g, o, c, rfl, hc⟩ := hs.at_ (by omega)
  have HV := Lib.hid (fun (c' : Nat) (hcc : 4 ≤ c') => value_is (.slice (some ⟨g, o + k, none⟩) 4 c') ((bs.drop k).take 4) w (src_cut (c := 0) k 4 hc hk rfl hcc) hbb (by omega))
  unfold fourB
  have hvb : vu ((bs.drop k).take 4) < 4294967296 := by simpa using hv
  have hw : IntKind.u32.wrap ((vu ((bs.drop k).take 4) : Nat) : Int) = ((vu ((bs.drop k).take 4) : Nat) : Int) := by rw [IntKind.wrap_u32]; omega
  generalize vu ((bs.drop k).take 4) = r at *
  have hslc : bs.length ≤ c := by
    rcases hs with ⟨e, _⟩ | ⟨a, c', e, h1, _⟩
    · cases e
    · injection e with _ _ e3
      omega
  clear hs hb hbb hc hv hlen
  generalize bs.length = n at *
  have hk2 : ((k : Int) + 4) ≤ n := by omega
  go_enter Try.func54, Try.ntmps54
  go_wp2_with fail
  refine (HV.out (c - k) (by omega)).mono ?_
  rintro e w1 ⟨rfl, rfl⟩
  go_wp2
  go_ret
  exact ⟨rfl, rfl⟩
end Go.Proofs.Ytefcimkopgcagaa
