/- What Take, Flag and Skip of a reader answer, and what it is then. Conditions: as each says. -/
import Derived.Test.YtefcimkopgcagaaBase
set_option linter.unusedVariables false
namespace Go.Proofs.Ytefcimkopgcagaa
open Go.RowKit

/-- A number is answered; the reader stands at q, with the failure f. -/
def Took (w : World) (b : Nat) (bs : List Nat) (q : Nat) (f : Int) (v : Value) (x : Int) (e : Ending) (w' : World) : Prop :=
  e = .returned (.int .u64 x) ∧ Rdr w' b bs q f v ∧ Only (fun k => k = b) w w'

set_option maxRecDepth 100000 in
set_option maxHeartbeats 400000 in
theorem take_fail (b p : Nat) (bs : List Nat) (f n f' : Int) (v : Value) (w : World) (h : Rdr w b bs p f v) (hf : asked f n 64 (8 * bs.length - p) 1 = f') (hne : f' ≠ 0) :
    Calls Try.prog 57 #[ptr b, .int .i64 n] w (Took w b bs p f' v 0) := by
  have HR := Lib.hid h
  have HF := Lib.hid hf
  have hd : decide (f' = 0) = false := by simp [hne]
  have HN := Lib.hid hne
  clear h hf hne
  go_enter Try.func57, Try.ntmps57
  go_wp2_with fail
  refine (grants_is b p bs f n 64 1 v w HR.out (by omega) (by omega)).mono ?_
  rintro e w' ⟨rfl, hr, ho⟩
  rw [HF.out] at hr ⊢
  have HR1 := Lib.hid hr
  have HO1 := Lib.hid ho
  clear hr ho
  go_wp2
  go_ret
  exact ⟨rfl, HR1.out, HO1.out⟩

theorem asked_ok {f n most : Int} {left digits : Nat} (h : asked f n most left digits = 0) : f = 0 ∧ 0 ≤ n ∧ n ≤ most ∧ n ≤ ((left / digits : Nat) : Int) := by
  unfold asked at h
  by_cases h0 : f ≠ 0
  · rw [if_pos h0] at h
    exact absurd h h0
  · rw [if_neg h0] at h
    by_cases h1 : n < 0 ∨ most < n
    · rw [if_pos h1] at h
      omega
    · rw [if_neg h1] at h
      by_cases h2 : ((left / digits : Nat) : Int) < n
      · rw [if_pos h2] at h
        omega
      · exact ⟨by simpa using h0, by omega, by omega, by omega⟩
theorem asked_zero {n most : Int} {left digits : Nat} (h0 : 0 ≤ n) (h1 : n ≤ most) (h2 : n ≤ ((left / digits : Nat) : Int)) : asked 0 n most left digits = 0 := by
  unfold asked
  rw [if_neg (by simp), if_neg (by omega), if_neg (by omega)]

/-- The loop over a reader whose box was laid just now. -/
theorem next_row (b n p : Nat) (bs : List Nat) (v : Value) (w : World) (h : Rdr w b bs p 0 v) (hn : n ≤ 64) (hp : p + n ≤ 8 * bs.length) :
    Calls Try.prog 77 #[.int .i64 n, ptr w.heap.size] (w.alloc (.cells #[ptr b] 110)) (Took w b bs (p + n) 0 v (num bs p n : Nat)) := by
  rcases Nat.eq_zero_or_pos n with rfl | hpos
  · refine (next_none _ _).mono ?_
    rintro e w' ⟨rfl, rfl⟩
    have ho : Only (fun k => k = b) w (w.alloc (.cells #[ptr b] 110)) := (Only.refl _ w).alloc _
    exact ⟨by rw [num_zero]; rfl, h.turn ho (h.is.alloc _) h.place, ho⟩
  · obtain ⟨g, cap, rfl, _, hlt⟩ := h.row.form (by have := h.place; omega)
    have hbl := h.is.lt
    have hcell := h.row.cells (g := g) rfl
    refine (next_is b w.heap.size g 0 bs.length cap n p 0 bs _ (Is.made _ _ _) (h.is.alloc _) (h.apart g rfl) (by omega) rfl ?_ h.bytes hn hp (by have := h.small; omega)).mono ?_
    · intro j hj
      have := hcell j _ (cellsOf_get bs j hj)
      rw [Nat.zero_add]
      refine Lib.cell?_alloc_some _ ?_
      rw [add_plain, Nat.zero_add] at this
      exact this
    · rintro e w' ⟨rfl, hi, ho⟩
      have ho' : Only (fun k => k = b) w w' := ((Only.refl (fun k => k = b) w).alloc _).trans ho (fun _ _ x => x)
      exact ⟨rfl, h.turn ho' hi hp, ho'⟩

set_option maxRecDepth 100000 in
set_option maxHeartbeats 400000 in
theorem take_ok (b p n : Nat) (bs : List Nat) (v : Value) (w : World) (h : Rdr w b bs p 0 v) (hn : n ≤ 64) (hp : p + n ≤ 8 * bs.length) :
    Calls Try.prog 57 #[ptr b, .int .i64 n] w (Took w b bs (p + n) 0 v (num bs p n : Nat)) := by
  have HR := Lib.hid h
  have hF := asked_zero (n := (n : Int)) (most := 64) (left := 8 * bs.length - p) (digits := 1) (by omega) (by omega) (by rw [Nat.div_one]; omega)
  have HF := Lib.hid hF
  have HP := Lib.hid hp
  clear h hF hp
  go_enter Try.func57, Try.ntmps57
  go_wp2_with fail
  refine (grants_is b p bs 0 n 64 1 v w HR.out (by omega) (by omega)).mono ?_
  rintro e w1 ⟨rfl, hr, ho⟩
  rw [HF.out] at hr ⊢
  have HR1 := Lib.hid hr
  have HO1 := Lib.hid ho
  clear hr ho
  go_wp2_with (first | (go_at_call 68; go_in))
  refine (next_row b n p bs v w1 HR1.out hn HP.out).mono ?_
  rintro e w2 ⟨rfl, hr, ho⟩
  have HR2 := Lib.hid hr
  have HO2 := Lib.hid ho
  clear hr ho
  go_wp2
  go_ret
  exact ⟨rfl, HR2.out, HO1.out.trans HO2.out (fun _ _ x => x)⟩

set_option maxRecDepth 100000 in
set_option maxHeartbeats 400000 in
theorem skip_fail (b p : Nat) (bs : List Nat) (f n f' : Int) (v : Value) (w : World) (h : Rdr w b bs p f v) (hf : asked f n 9223372036854775807 (8 * bs.length - p) 1 = f') (hne : f' ≠ 0) :
    Calls Try.prog 78 #[ptr b, .int .i64 n] w fun e w' => e = .returned (.tuple #[]) ∧ Rdr w' b bs p f' v ∧ Only (fun k => k = b) w w' := by
  have HR := Lib.hid h
  have HF := Lib.hid hf
  have hd : decide (f' = 0) = false := by simp [hne]
  have HN := Lib.hid hne
  clear h hf hne
  go_enter Try.func78, Try.ntmps78
  go_wp2_with fail
  refine (grants_is b p bs f n _ 1 v w HR.out (by omega) (by omega)).mono ?_
  rintro e w' ⟨rfl, hr, ho⟩
  rw [HF.out] at hr ⊢
  have HR1 := Lib.hid hr
  have HO1 := Lib.hid ho
  clear hr ho
  go_wp2
  go_end0
  exact ⟨rfl, HR1.out, HO1.out⟩

set_option maxRecDepth 100000 in
set_option maxHeartbeats 400000 in
theorem skip_ok (b p n : Nat) (bs : List Nat) (v : Value) (w : World) (h : Rdr w b bs p 0 v) (hp : p + n ≤ 8 * bs.length) :
    Calls Try.prog 78 #[ptr b, .int .i64 n] w fun e w' => e = .returned (.tuple #[]) ∧ Rdr w' b bs (p + n) 0 v ∧ Only (fun k => k = b) w w' := by
  have hsm := h.small
  have HR := Lib.hid h
  have hF := asked_zero (n := (n : Int)) (most := 9223372036854775807) (left := 8 * bs.length - p) (digits := 1) (by omega) (by omega) (by rw [Nat.div_one]; omega)
  have HF := Lib.hid hF
  have HP := Lib.hid hp
  have hb : (p : Int) + n ≤ 9223372036854775807 := by omega
  clear h hF hp hsm
  go_enter Try.func78, Try.ntmps78
  go_wp2_with fail
  refine (grants_is b p bs 0 n _ 1 v w HR.out (by omega) (by omega)).mono ?_
  rintro e w1 ⟨rfl, hr, ho⟩
  rw [HF.out] at hr ⊢
  have hc1 := hr.is.cell 1
  have hf1 := hr.is.free 1
  simp at hc1
  have HR1 := Lib.hid hr
  have HO1 := Lib.hid ho
  clear hr ho
  go_wp2
  go_end0
  have e1 : (p : Int) + n = ((p + n : Nat) : Int) := by omega
  rw [e1]
  have ho2 : Only (fun k => k = b) w1 (w1.setCell ⟨b, 1, none⟩ (.int .i64 ((p + n : Nat) : Int))) := (Only.refl (fun k => k = b) w1).set (fun _ => rfl) _
  exact ⟨rfl, HR1.out.turn ho2 (Is.put HR1.out.is 1 _) HP.out, HO1.out.trans ho2 (fun _ _ x => x)⟩

set_option maxRecDepth 100000 in
set_option maxHeartbeats 400000 in
theorem left_rdr (b p : Nat) (bs : List Nat) (f : Int) (v : Value) (w : World) (h : Rdr w b bs p f v) :
    Calls Try.prog 60 #[ptr b] w fun e w' => e = .returned (.int .i64 ((8 * bs.length - p : Nat) : Int)) ∧ ∃ n, w' = w.drewN n := by
  obtain ⟨A, c, rfl, _⟩ := own_slice h.row
  exact left_is b A bs.length c p f w h.is h.place (by have := h.small; omega)
theorem err_rdr (b p : Nat) (bs : List Nat) (f : Int) (v : Value) (w : World) (h : Rdr w b bs p f v) :
    Calls Try.prog 59 #[ptr b] w fun e w' => e = .returned (.int .i64 f) ∧ w = w' := err_is b v p f w h.is
theorem Rdr.drewN {w : World} {b p : Nat} {bs : List Nat} {f : Int} {v : Value} (h : Rdr w b bs p f v) (n : Nat) : Rdr (w.drewN n) b bs p f v := ⟨h.is, h.row, h.bytes, h.small, h.place⟩
end Go.Proofs.Ytefcimkopgcagaa
