/- Merged of BitsD BitsE BitsF BitsG WBytes. Conditions: as each says. -/
import Derived.Test.YtefcimkopgcagaaBase
import Derived.StillTailTactics
import Derived.Laws.CopyOwn
import Derived.Deep.DeepCutAuto
/- What Take, Flag and Skip of a reader answer, and what it is then. Conditions: as each says. -/
set_option linter.unusedVariables false
namespace Go.Proofs.Ytefcimkopgcagaa
open Go.RowKit

/-- A number is answered; the reader stands at q, with the failure f. -/
def Took (w : World) (b : Nat) (bs : List Nat) (q : Nat) (f : Int) (v : Value) (x : Int) (e : Ending) (w' : World) : Prop :=
  e = .returned (.int .u64 x) ∧ Rdr w' b bs q f v ∧ Only (fun k => k = b) w w'

set_option maxRecDepth 100000 in
set_option maxHeartbeats 400000 in
theorem take_fail (b p : Nat) (bs : List Nat) (f n f' : Int) (v : Value) (w : World) (h : Rdr w b bs p f v) (hf : asked f n 64 (8 * bs.length - p) 1 = f') (hne : f' ≠ 0) :
    Calls Try.prog 57 #[ptr b, .int .i64 n] w (Took w b bs p f' v 0) := by
  have HR := Lib.hid h
  have HF := Lib.hid hf
  have hd : decide (f' = 0) = false := by simp [hne]
  have HN := Lib.hid hne
  clear h hf hne
  go_enter Try.func57, Try.ntmps57
  go_wp2_with fail
  refine (grants_is b p bs f n 64 1 v w HR.out (by omega) (by omega)).mono ?_
  rintro e w' ⟨rfl, hr, ho⟩
  rw [HF.out] at hr ⊢
  have HR1 := Lib.hid hr
  have HO1 := Lib.hid ho
  clear hr ho
  go_wp2
  go_ret
  exact ⟨rfl, HR1.out, HO1.out⟩

theorem asked_ok {f n most : Int} {left digits : Nat} (h : asked f n most left digits = 0) : f = 0 ∧ 0 ≤ n ∧ n ≤ most ∧ n ≤ ((left / digits : Nat) : Int) := by
  unfold asked at h
  by_cases h0 : f ≠ 0
  · rw [if_pos h0] at h
    exact absurd h h0
  · rw [if_neg h0] at h
    by_cases h1 : n < 0 ∨ most < n
    · rw [if_pos h1] at h
      omega
    · rw [if_neg h1] at h
      by_cases h2 : ((left / digits : Nat) : Int) < n
      · rw [if_pos h2] at h
        omega
      · exact ⟨by simpa using h0, by omega, by omega, by omega⟩
theorem asked_zero {n most : Int} {left digits : Nat} (h0 : 0 ≤ n) (h1 : n ≤ most) (h2 : n ≤ ((left / digits : Nat) : Int)) : asked 0 n most left digits = 0 := by
  unfold asked
  rw [if_neg (by simp), if_neg (by omega), if_neg (by omega)]

/-- The loop over a reader whose box was laid just now. -/
theorem next_row (b n p : Nat) (bs : List Nat) (v : Value) (w : World) (h : Rdr w b bs p 0 v) (hn : n ≤ 64) (hp : p + n ≤ 8 * bs.length) :
    Calls Try.prog 77 #[.int .i64 n, ptr w.heap.size] (w.alloc (.cells #[ptr b] 110)) (Took w b bs (p + n) 0 v (num bs p n : Nat)) := by
  rcases Nat.eq_zero_or_pos n with rfl | hpos
  · refine (next_none _ _).mono ?_
    rintro e w' ⟨rfl, rfl⟩
    have ho : Only (fun k => k = b) w (w.alloc (.cells #[ptr b] 110)) := (Only.refl _ w).alloc _
    exact ⟨by rw [num_zero]; rfl, h.turn ho (h.is.alloc _) h.place, ho⟩
  · obtain ⟨g, cap, rfl, _, hlt⟩ := h.row.form (by have := h.place; omega)
    have hbl := h.is.lt
    have hcell := h.row.cells (g := g) rfl
    refine (next_is b w.heap.size g 0 bs.length cap n p 0 bs _ (Is.made _ _ _) (h.is.alloc _) (h.apart g rfl) (by omega) rfl ?_ h.bytes hn hp (by have := h.small; omega)).mono ?_
    · intro j hj
      have := hcell j _ (cellsOf_get bs j hj)
      rw [Nat.zero_add]
      refine Lib.cell?_alloc_some _ ?_
      rw [add_plain, Nat.zero_add] at this
      exact this
    · rintro e w' ⟨rfl, hi, ho⟩
      have ho' : Only (fun k => k = b) w w' := ((Only.refl (fun k => k = b) w).alloc _).trans ho (fun _ _ x => x)
      exact ⟨rfl, h.turn ho' hi hp, ho'⟩

set_option maxRecDepth 100000 in
set_option maxHeartbeats 400000 in
theorem take_ok (b p n : Nat) (bs : List Nat) (v : Value) (w : World) (h : Rdr w b bs p 0 v) (hn : n ≤ 64) (hp : p + n ≤ 8 * bs.length) :
    Calls Try.prog 57 #[ptr b, .int .i64 n] w (Took w b bs (p + n) 0 v (num bs p n : Nat)) := by
  have HR := Lib.hid h
  have hF := asked_zero (n := (n : Int)) (most := 64) (left := 8 * bs.length - p) (digits := 1) (by omega) (by omega) (by rw [Nat.div_one]; omega)
  have HF := Lib.hid hF
  have HP := Lib.hid hp
  clear h hF hp
  go_enter Try.func57, Try.ntmps57
  go_wp2_with fail
  refine (grants_is b p bs 0 n 64 1 v w HR.out (by omega) (by omega)).mono ?_
  rintro e w1 ⟨rfl, hr, ho⟩
  rw [HF.out] at hr ⊢
  have HR1 := Lib.hid hr
  have HO1 := Lib.hid ho
  clear hr ho
  go_wp2_with (first | (go_at_call 68; go_in))
  refine (next_row b n p bs v w1 HR1.out hn HP.out).mono ?_
  rintro e w2 ⟨rfl, hr, ho⟩
  have HR2 := Lib.hid hr
  have HO2 := Lib.hid ho
  clear hr ho
  go_wp2
  go_ret
  exact ⟨rfl, HR2.out, HO1.out.trans HO2.out (fun _ _ x => x)⟩

set_option maxRecDepth 100000 in
set_option maxHeartbeats 400000 in
theorem skip_fail (b p : Nat) (bs : List Nat) (f n f' : Int) (v : Value) (w : World) (h : Rdr w b bs p f v) (hf : asked f n 9223372036854775807 (8 * bs.length - p) 1 = f') (hne : f' ≠ 0) :
    Calls Try.prog 78 #[ptr b, .int .i64 n] w fun e w' => e = .returned (.tuple #[]) ∧ Rdr w' b bs p f' v ∧ Only (fun k => k = b) w w' := by
  have HR := Lib.hid h
  have HF := Lib.hid hf
  have hd : decide (f' = 0) = false := by simp [hne]
  have HN := Lib.hid hne
  clear h hf hne
  go_enter Try.func78, Try.ntmps78
  go_wp2_with fail
  refine (grants_is b p bs f n _ 1 v w HR.out (by omega) (by omega)).mono ?_
  rintro e w' ⟨rfl, hr, ho⟩
  rw [HF.out] at hr ⊢
  have HR1 := Lib.hid hr
  have HO1 := Lib.hid ho
  clear hr ho
  go_wp2
  go_end0
  exact ⟨rfl, HR1.out, HO1.out⟩

set_option maxRecDepth 100000 in
set_option maxHeartbeats 400000 in
theorem skip_ok (b p n : Nat) (bs : List Nat) (v : Value) (w : World) (h : Rdr w b bs p 0 v) (hp : p + n ≤ 8 * bs.length) :
    Calls Try.prog 78 #[ptr b, .int .i64 n] w fun e w' => e = .returned (.tuple #[]) ∧ Rdr w' b bs (p + n) 0 v ∧ Only (fun k => k = b) w w' := by
  have hsm := h.small
  have HR := Lib.hid h
  have hF := asked_zero (n := (n : Int)) (most := 9223372036854775807) (left := 8 * bs.length - p) (digits := 1) (by omega) (by omega) (by rw [Nat.div_one]; omega)
  have HF := Lib.hid hF
  have HP := Lib.hid hp
  have hb : (p : Int) + n ≤ 9223372036854775807 := by omega
  clear h hF hp hsm
  go_enter Try.func78, Try.ntmps78
  go_wp2_with fail
  refine (grants_is b p bs 0 n _ 1 v w HR.out (by omega) (by omega)).mono ?_
  rintro e w1 ⟨rfl, hr, ho⟩
  rw [HF.out] at hr ⊢
  have hc1 := hr.is.cell 1
  have hf1 := hr.is.free 1
  simp at hc1
  have HR1 := Lib.hid hr
  have HO1 := Lib.hid ho
  clear hr ho
  go_wp2
  go_end0
  have e1 : (p : Int) + n = ((p + n : Nat) : Int) := by omega
  rw [e1]
  have ho2 : Only (fun k => k = b) w1 (w1.setCell ⟨b, 1, none⟩ (.int .i64 ((p + n : Nat) : Int))) := (Only.refl (fun k => k = b) w1).set (fun _ => rfl) _
  exact ⟨rfl, HR1.out.turn ho2 (Is.put HR1.out.is 1 _) HP.out, HO1.out.trans ho2 (fun _ _ x => x)⟩

set_option maxRecDepth 100000 in
set_option maxHeartbeats 400000 in
theorem left_rdr (b p : Nat) (bs : List Nat) (f : Int) (v : Value) (w : World) (h : Rdr w b bs p f v) :
    Calls Try.prog 60 #[ptr b] w fun e w' => e = .returned (.int .i64 ((8 * bs.length - p : Nat) : Int)) ∧ ∃ n, w' = w.drewN n := by
  obtain ⟨A, c, rfl, _⟩ := own_slice h.row
  exact left_is b A bs.length c p f w h.is h.place (by have := h.small; omega)
theorem err_rdr (b p : Nat) (bs : List Nat) (f : Int) (v : Value) (w : World) (h : Rdr w b bs p f v) :
    Calls Try.prog 59 #[ptr b] w fun e w' => e = .returned (.int .i64 f) ∧ w = w' := err_is b v p f w h.is
theorem Rdr.drewN {w : World} {b p : Nat} {bs : List Nat} {f : Int} {v : Value} (h : Rdr w b bs p f v) (n : Nat) : Rdr (w.drewN n) b bs p f v := ⟨h.is, h.row, h.bytes, h.small, h.place⟩
end Go.Proofs.Ytefcimkopgcagaa

/- What Bytes and Rest of a reader answer, and what it is then. Conditions: as each says. -/
set_option linter.unusedVariables false
namespace Go.Proofs.Ytefcimkopgcagaa
open Go.RowKit

/-- n bytes from place p on. -/
def bytesAt (bs : List Nat) (p : Nat) : Nat → List Nat
  | 0 => []
  | n + 1 => bytesAt bs p n ++ [num bs (p + 8 * n) 8]

theorem bytesAt_length (bs : List Nat) (p n : Nat) : (bytesAt bs p n).length = n := by
  induction n with
  | zero => rfl
  | succ n ih => simp [bytesAt, ih]
theorem digs_val_byte (bs : List Nat) (i : Nat) (h : i < bs.length) (hb : ∀ x ∈ bs, x < 256) : num bs (8 * i) 8 = bs[i] := by
  have h1 : 8 * i / 8 = i := by omega
  have h2 : 8 * i % 8 = 0 := by omega
  unfold num
  rw [D_mid bs (8 * i) 8 (by omega) (by omega), val_digs]
  simp only [h1, h2]
  have := hb _ (List.getElem_mem h)
  simp
  omega
theorem bytesAt_aligned (bs : List Nat) (i n : Nat) (h : i + n ≤ bs.length) (hb : ∀ x ∈ bs, x < 256) : bytesAt bs (8 * i) n = (bs.drop i).take n := by
  induction n with
  | zero => simp [bytesAt]
  | succ n ih =>
    rw [bytesAt, ih (by omega)]
    have e : 8 * i + 8 * n = 8 * (i + n) := by omega
    rw [e, digs_val_byte bs (i + n) (by omega) hb]
    rw [List.take_succ_eq_append_getElem (by rw [List.length_drop]; omega), List.getElem_drop]

set_option maxRecDepth 100000 in
set_option maxHeartbeats 400000 in
theorem bytes_fail (b p : Nat) (bs : List Nat) (f n f' : Int) (v : Value) (w : World) (h : Rdr w b bs p f v) (hf : asked f n 9223372036854775807 (8 * bs.length - p) 8 = f') (hne : f' ≠ 0) :
    Calls Try.prog 58 #[ptr b, .int .i64 n] w fun e w' => e = .returned (.slice none 0 0) ∧ Rdr w' b bs p f' v ∧ Only (fun k => k = b) w w' := by
  have HR := Lib.hid h
  have HF := Lib.hid hf
  have hd : decide (f' = 0) = false := by simp [hne]
  have HN := Lib.hid hne
  clear h hf hne
  go_enter Try.func58, Try.ntmps58
  go_wp2_with fail
  refine (grants_is b p bs f n _ 8 v w HR.out (by omega) (by omega)).mono ?_
  rintro e w' ⟨rfl, hr, ho⟩
  rw [HF.out] at hr ⊢
  have HR1 := Lib.hid hr
  have HO1 := Lib.hid ho
  clear hr ho
  go_wp2
  go_ret
  exact ⟨rfl, HR1.out, HO1.out⟩

/-- Bytes are answered, in new memory; the reader stands at q. -/
def Gave (w : World) (b : Nat) (bs : List Nat) (q : Nat) (v : Value) (out : List Nat) (e : Ending) (w' : World) : Prop :=
  ∃ u, e = .returned u ∧ w'.ownsRow w.heap.size 5 1 u out.length (cellsOf out) ∧ Rdr w' b bs q 0 v ∧ Only (fun k => k = b) w w'

set_option maxRecDepth 100000 in
set_option maxHeartbeats 1000000 in
theorem bytes_aligned (b i n : Nat) (bs : List Nat) (v : Value) (w : World) (h : Rdr w b bs (8 * i) 0 v) (hn : i + n ≤ bs.length) (hpos : 0 < n) :
    Calls Try.prog 58 #[ptr b, .int .i64 n] w (Gave w b bs (8 * i + 8 * n) v (bytesAt bs (8 * i) n)) := by
  have hsm := h.small
  have HR := Lib.hid h
  have hF := asked_zero (n := (n : Int)) (most := 9223372036854775807) (left := 8 * bs.length - 8 * i) (digits := 8) (by omega) (by omega) (by omega)
  have HF := Lib.hid hF
  obtain ⟨i0, hi, hz0, hz1, hz2⟩ := info_parts Try.infoU8
  clear h hF
  obtain ⟨g, cap, rfl, _, _⟩ := HR.out.row.form (by omega)
  have hcap : bs.length ≤ cap := by
    obtain ⟨A, c, e, hc⟩ := own_slice HR.out.row
    injection e with e1 e2 e3
    omega
  generalize hbl : bs.length = L at *
  have HBL := Lib.hid hbl
  clear hbl
  go_enter Try.func58, Try.ntmps58
  go_wp2_with fail
  refine (grants_is b _ bs 0 n _ 8 _ w HR.out (by omega) (by omega)).mono ?_
  rintro e w1 ⟨rfl, hr, ho⟩
  rw [HBL.out, HF.out] at hr ⊢
  have HR1 := Lib.hid hr
  have HO1 := Lib.hid ho
  clear hr ho
  go_wp2_with (at_make; refine wpList_make_full _ rfl _ _ 35 rfl w1.heap.size 5 i0 (.int .u8 0) 1 Try.underlying35 hi hz0 hz1 .i64 .i64 _ _ n rfl rfl rfl rfl (by rw [hz2]; omega) (by unfold maxLen; omega) (Nat.le_refl _) ?_)
  intro w2 hown hg
  have h2 := Only.grown (Only.refl (fun _ => False) w1) hg (by simp)
  have hr2 := HR1.out.only h2 (by simp) (by simp)
  have hc0 := hr2.is.cell 0
  have hc1 := hr2.is.cell 1
  have hf1 := hr2.is.free 1
  simp at hc0 hc1
  have HR2 := Lib.hid hr2
  have HOWN := Lib.hid hown
  have HG := Lib.hid hg
  have H2 := Lib.hid h2
  clear hr2 hown hg h2
  go_wp2
  have a0 : (8 * (i : Int)) / 8 = i := by omega
  have a1 : cap ≠ i := by omega
  have a2 : i ≤ L := by omega
  have a3 : i ≤ cap := by omega
  have a4 : IntKind.i64.wrap (i : Int) = i := IntWalk.i64_in _ (by omega)
  go_still_tail 11, (by kernel_rfl)
  obtain ⟨cur, hcur, hcl⟩ : ∃ cur : List Value, w2.heap[w1.heap.size]? = some (.cells cur.toArray 5 (0, 0)) ∧ cur.length = n := by
    rcases HOWN.out.2 with ⟨q, _⟩ | ⟨g', cap', cur, q, _, q2, _, _, q3, _⟩
    · simp at q
    · simp only [Value.slice.injEq, Option.some.injEq, Addr.mk.injEq, and_true, true_and] at q
      obtain ⟨rfl, rfl⟩ := q
      exact ⟨cur.toList, by simpa using q2, by simpa using q3⟩
  have hbel : Below w1.heap.size w1 w2.drew := ((Below.refl _ w1).grown HG.out (Nat.le_refl _) (by simp)).drew
  have hlen : (cellsOf ((bs.drop i).take n)).length = n := by rw [length_cellsOf, List.length_take, List.length_drop, HBL.out]; omega
  have hsrc : ∀ j v, (cellsOf ((bs.drop i).take n))[j]? = some v → w2.drew.cell? ((⟨g, i, none⟩ : Addr).add j) = some v := by
    intro j v hj
    have hjn : j < n := by
      have := (List.getElem?_eq_some_iff.1 hj).1
      omega
    have hrow := HR2.out.row.cells (g := g) rfl (i + j) v (by
      rw [← hj]
      simp only [cellsOf, List.getElem?_map, List.getElem?_take, List.getElem?_drop]
      rw [if_pos hjn])
    rw [add_plain, Nat.zero_add] at hrow
    rw [add_plain]
    exact hrow
  refine wpList_copy_splice rfl (.tmp 20) (.tmp 30) 35 35 rfl 5 Try.underlying35 Try.sizeU8 _ _ _ _ _ _ rfl rfl w1.heap.size 0 cur 5 hcur (cellsOf ((bs.drop i).take n)) (by rw [hlen]; exact (Nat.min_eq_right (by omega)).symm) (fun _ => ⟨rfl, _, rfl, hsrc⟩) (by omega) (cellsOf_one _) w1.heap.size w1 hbel (Nat.le_refl _) ?_
  intro w3 h3 hb3
  have hs3 : w3.heap[w1.heap.size]? = some (.cells (cellsOf ((bs.drop i).take n)).toArray 5 (0, 0)) := by
    rw [h3.out]
    simp [splice, hlen, hcl]
  have ho3 : Only (fun _ => False) w1 w3 := ⟨hb3.os, hb3.tape, hb3.output, hb3.size, fun k hk _ => hb3.block k hk⟩
  have hr3 := HR1.out.only ho3 (by simp) (by simp)
  have d1 := hr3.is.cell 1
  have df := hr3.is.free 1
  simp at d1
  have S3 := Lib.hid hs3
  have HL := Lib.hid hlen
  have O3 := Lib.hid ho3
  have R3 := Lib.hid hr3
  clear hcur hcl hbel hlen hsrc h3 hb3 hs3 ho3 hr3 hc0 hc1 hf1
  go_wp2
  go_ret
  have hlt : b < w1.heap.size := HR1.out.is.lt
  have ho4 : Only (fun k => k = b) w1 (w3.setCell ⟨b, 1, none⟩ (.int .i64 (8 * (i : Int) + 8 * n))) := (O3.out.mono (T := fun k => k = b) (by simp)).set (fun _ => rfl) _
  have e1 : 8 * (i : Int) + 8 * n = ((8 * i + 8 * n : Nat) : Int) := by omega
  have hbn : bytesAt bs (8 * i) n = (bs.drop i).take n := bytesAt_aligned bs i n (by rw [HBL.out]; omega) HR.out.bytes
  have hll : ((bs.drop i).take n).length = n := by have := HL.out; rwa [length_cellsOf] at this
  refine ⟨_, rfl, ?_, ?_, HO1.out.trans ho4 (fun _ _ x => x)⟩
  · rw [hbn, hll]
    refine ⟨by rw [length_cellsOf, hll, Nat.mul_one], .inr ⟨w1.heap.size, n, (cellsOf ((bs.drop i).take n)).toArray, rfl, HO1.out.size, ?_, Nat.le_refl _, by unfold maxLen; omega, by simpa using HL.out, ?_⟩⟩
    · rw [Below.heap_setCell _ _ _ _ (by show w1.heap.size ≠ b; omega)]
      exact S3.out
    · rw [Nat.mul_one]
      exact List.take_of_length_le (by rw [List.toList_toArray, HL.out]; exact Nat.le_refl _)
  · refine HR1.out.turn ho4 ?_ (by rw [HBL.out]; omega)
    rw [e1]
    exact Is.put R3.out.is 1 _

set_option maxRecDepth 100000 in
set_option maxHeartbeats 400000 in
theorem closure_is (b : Nat) (w : World) : Calls Try.prog 68 #[ptr b] w fun e w' => e = .returned (.func (.func 77) #[] #[ptr w.heap.size]) ∧ w.alloc (.cells #[ptr b] 110) = w' := by
  go_enter Try.func68, Try.ntmps68
  go_wp2
  go_ret
  exact ⟨rfl, rfl⟩

set_option maxRecDepth 100000 in
set_option maxHeartbeats 1000000 in
theorem bytes_amid (b p n : Nat) (bs : List Nat) (v : Value) (w : World) (h : Rdr w b bs p 0 v) (hn : p + 8 * n ≤ 8 * bs.length) (hp8 : p % 8 ≠ 0) :
    Calls Try.prog 58 #[ptr b, .int .i64 n] w (Gave w b bs (p + 8 * n) v (bytesAt bs p n)) := by
  have hsm := h.small
  have HR := Lib.hid h
  have hF := asked_zero (n := (n : Int)) (most := 9223372036854775807) (left := 8 * bs.length - p) (digits := 8) (by omega) (by omega) (by omega)
  have HF := Lib.hid hF
  obtain ⟨i0, hi, hz0, hz1, hz2⟩ := info_parts Try.infoU8
  clear h hF
  obtain ⟨g, cap, rfl, _, _⟩ := HR.out.row.form (by omega)
  generalize hbl : bs.length = L at *
  have HBL := Lib.hid hbl
  clear hbl
  have hb8 : ((p : Int) % 8 == 0) = false := by simp; omega
  go_enter Try.func58, Try.ntmps58
  go_wp2_with fail
  refine (grants_is b _ bs 0 n _ 8 _ w HR.out (by omega) (by omega)).mono ?_
  rintro e w1 ⟨rfl, hr, ho⟩
  rw [HBL.out, HF.out] at hr ⊢
  have HR1 := Lib.hid hr
  have HO1 := Lib.hid ho
  clear hr ho
  go_wp2_with (at_make; refine wpList_make_full _ rfl _ _ 35 rfl w1.heap.size 5 i0 (.int .u8 0) 1 Try.underlying35 hi hz0 hz1 .i64 .i64 _ _ n rfl rfl rfl rfl (by rw [hz2]; omega) (by unfold maxLen; omega) (Nat.le_refl _) ?_)
  intro w2 hown hg
  rw [madeU8] at hown
  have h2 := Only.grown (Only.refl (fun _ => False) w1) hg (by simp)
  have hr2 := HR1.out.only h2 (by simp) (by simp)
  have hc0 := hr2.is.cell 0
  have hc1 := hr2.is.cell 1
  simp at hc0 hc1
  have HR2 := Lib.hid hr2
  have HOWN := Lib.hid hown
  have H2 := Lib.hid h2
  clear hr2 hown hg h2
  go_wp2_with (go_at_call 68; refine (closure_is b _).mono ?_; rintro e w' ⟨rfl, rfl⟩)
  clear hc0 hc1
  go_loopw [46] (fun i wr => ∃ k : Nat, k ≤ n ∧ i = .int .i64 k ∧ Rdr wr b bs (p + 8 * k) 0 (.slice (some ⟨g, 0, none⟩) L cap) ∧ wr.ownsRow w1.heap.size 5 1 (.slice (some ⟨w1.heap.size, 0, none⟩) n n) n (cellsOf (bytesAt bs p k ++ List.replicate (n - k) 0)) ∧ Is wr w2.heap.size 110 #[ptr b] ∧ Only (fun k => k = b) w1 wr) (fun i _ => n - (intOf i).toNat)
  case atStart =>
    refine ⟨0, by omega, rfl, ?_, HOWN.out.alloc _, Is.made _ _ _, (H2.out.mono (by simp)).alloc _⟩
    exact HR2.out.only ((Only.refl (fun _ => False) w2).alloc _) (by simp) (by simp)
  case round =>
    obtain ⟨k, hk, rfl, hr, hown, hbx, ho⟩ := hrel
    by_cases hlt : k < n
    · have HR3 := Lib.hid hr
      have HW3 := Lib.hid hown
      have HX3 := Lib.hid hbx
      have HO3 := Lib.hid ho
      clear hr hown hbx ho
      have hbw : b < w1.heap.size := HR1.out.is.lt
      have hw12 : w1.heap.size ≤ w2.heap.size := H2.out.size
      go_wp2_with fail
      refine (next_is b w2.heap.size g 0 L cap 8 (p + 8 * k) 0 bs wr HX3.out HR3.out.is (HR3.out.apart g rfl) (by omega) HBL.out.symm ?_ HR3.out.bytes (by omega) (by omega) (by omega)).mono ?_
      · intro j hj
        have := HR3.out.row.cells (g := g) rfl j _ (cellsOf_get bs j hj)
        rw [add_plain] at this
        exact this
      rintro e w3 ⟨rfl, hi3, ho3⟩
      have hrd : Rdr w3 b bs (p + 8 * (k + 1)) 0 (.slice (some ⟨g, 0, none⟩) L cap) := by
        have e8 : p + 8 * (k + 1) = p + 8 * k + 8 := by omega
        rw [e8]
        exact HR3.out.turn ho3 hi3 (by rw [HBL.out]; omega)
      have hown3 : w3.ownsRow w1.heap.size 5 1 (.slice (some ⟨w1.heap.size, 0, none⟩) n n) n (cellsOf (bytesAt bs p k ++ List.replicate (n - k) 0)) := by
        refine ⟨HW3.out.1, ?_⟩
        rcases HW3.out.2 with q | ⟨g', cap', cur, q, q1, q2, q3⟩
        · exact .inl q
        · refine .inr ⟨g', cap', cur, q, q1, ?_, q3⟩
          rw [ho3.same g' (lt_of_heap q2) (by simp only [Value.slice.injEq, Option.some.injEq, Addr.mk.injEq] at q; omega)]
          exact q2
      have hlen : k < (cellsOf (bytesAt bs p k ++ List.replicate (n - k) 0)).length := by rw [length_cellsOf, List.length_append, bytesAt_length, List.length_replicate]; omega
      have hcell : w3.cell? ⟨w1.heap.size, k, none⟩ = some (.int .u8 0) := by
        rw [hown3.cellAt k (by omega)]
        simp [cellsOf, bytesAt_length, List.getElem?_append, List.getElem?_replicate]
        omega
      have hfree := hown3.frozenAt k
      have hnum := num_lt bs (p + 8 * k) 8
      have hwr : IntKind.u8.wrap ((num bs (p + 8 * k) 8 : Nat) : Int) = (num bs (p + 8 * k) 8 : Nat) := by
        rw [IntKind.wrap_u8']
        omega
      have HD := Lib.hid hrd
      have HW4 := Lib.hid hown3
      have HO4 := Lib.hid ho3
      have HX4 := Lib.hid (HX3.out.only ho3 (by omega))
      clear hi3 hrd hown3 hlen ho3 hnum
      go_wp2
      go_roundw
      case rel =>
        have hst := HW4.out.stored k (.int .u8 (num bs (p + 8 * k) 8 : Nat))
        have hset : (bytesAt bs p k ++ List.replicate (n - k) 0).set k (num bs (p + 8 * k) 8) = bytesAt bs p (k + 1) ++ List.replicate (n - (k + 1)) 0 := by
          rw [List.set_append_right _ _ (by rw [bytesAt_length]; exact Nat.le_refl _), bytesAt_length, Nat.sub_self]
          obtain ⟨m, hm⟩ : ∃ m, n - k = m + 1 := ⟨n - k - 1, by omega⟩
          have hm' : n - (k + 1) = m := by omega
          rw [hm, hm', List.replicate_succ, List.set_cons_zero, bytesAt, List.append_assoc]
          rfl
        have ho5 : Only (fun i => i = w1.heap.size) w3 (w3.setCell ⟨w1.heap.size, k, none⟩ (.int .u8 (num bs (p + 8 * k) 8 : Nat))) := (Only.refl (fun i => i = w1.heap.size) w3).set (fun _ => rfl) _
        refine ⟨k + 1, by omega, by go_num, HD.out.only ho5 (by omega) ?_, ?_, HX4.out.only ho5 ?_, ?_⟩
        · intro q hq
          have := (HR1.out.row.lt q hq).2
          omega
        · rw [← hset, cellsOf_set]
          exact hst.1
        · intro e
          have h1 := HX4.out
          rw [e] at h1
          obtain ⟨g', cap', q, _⟩ := HW4.out.form (by omega)
          rcases HW4.out.2 with ⟨q', _⟩ | ⟨g2, cap2, cur2, q', _, q2, _⟩
          · simp at q'
          · simp only [Value.slice.injEq, Option.some.injEq, Addr.mk.injEq, and_true, true_and] at q'
            obtain ⟨rfl, rfl⟩ := q'
            exact Is.apart (t := 5) (u := 110) q2 h1 (by decide) rfl
        · exact (HO3.out.trans HO4.out (fun _ _ x => x)).trans ho5 (fun q hq e => by omega)
      case measure => simp [intOf]; omega
    · have hkn : k = n := by omega
      subst hkn
      have HR3 := Lib.hid hr
      have HW3 := Lib.hid hown
      have HO3 := Lib.hid ho
      clear hr hown hbx ho
      go_wp2
      go_ret
      refine ⟨_, rfl, ?_, HR3.out, HO1.out.trans HO3.out (fun _ _ x => x)⟩
      have hq := HW3.out
      rw [Nat.sub_self, List.replicate_zero, List.append_nil] at hq
      rw [bytesAt_length]
      refine ⟨hq.1, ?_⟩
      rcases hq.2 with q | ⟨g', cap', cur, q, q1, q2⟩
      · exact .inl q
      · exact .inr ⟨g', cap', cur, q, Nat.le_trans HO1.out.size q1, q2⟩

set_option maxRecDepth 100000 in
set_option maxHeartbeats 1000000 in
theorem bytes_none (b i : Nat) (bs : List Nat) (v : Value) (w : World) (h : Rdr w b bs (8 * i) 0 v) :
    Calls Try.prog 58 #[ptr b, .int .i64 0] w (Gave w b bs (8 * i) v []) := by
  have hsm := h.small
  have hpl := h.place
  have HR := Lib.hid h
  have hF := asked_zero (n := (0 : Int)) (most := 9223372036854775807) (left := 8 * bs.length - 8 * i) (digits := 8) (by omega) (by omega) (by omega)
  have HF := Lib.hid hF
  obtain ⟨i0, hi, hz0, hz1, hz2⟩ := info_parts Try.infoU8
  clear h hF
  obtain ⟨A, cap, rfl, hcap⟩ := own_slice HR.out.row
  generalize hbl : bs.length = L at *
  have HBL := Lib.hid hbl
  clear hbl
  go_enter Try.func58, Try.ntmps58
  go_wp2_with fail
  refine (grants_is b _ bs 0 0 _ 8 _ w HR.out (by omega) (by omega)).mono ?_
  rintro e w1 ⟨rfl, hr, ho⟩
  rw [HBL.out, HF.out] at hr ⊢
  have HR1 := Lib.hid hr
  have HO1 := Lib.hid ho
  clear hr ho
  go_wp2_with (at_make; refine wpList_make_full _ rfl _ _ 35 rfl w1.heap.size 5 i0 (.int .u8 0) 1 Try.underlying35 hi hz0 hz1 .i64 .i64 _ _ 0 rfl rfl rfl rfl (by rw [hz2]; omega) (by unfold maxLen; omega) (Nat.le_refl _) ?_)
  intro w2 hown hg
  have h2 := Only.grown (Only.refl (fun _ => False) w1) hg (by simp)
  have hr2 := HR1.out.only h2 (by simp) (by simp)
  have hc0 := hr2.is.cell 0
  have hc1 := hr2.is.cell 1
  have hf1 := hr2.is.free 1
  simp at hc0 hc1
  have HR2 := Lib.hid hr2
  have HOWN := Lib.hid hown
  have H2 := Lib.hid h2
  clear hr2 hown hg h2
  have a0 : (8 * (i : Int)) / 8 = i := by omega
  have a2 : i ≤ L := by omega
  have a3 : i ≤ cap := by omega
  go_wp2
  have a4 : IntKind.i64.wrap (i : Int) = i := IntWalk.i64_in _ (by omega)
  go_still_tail 11, (by kernel_rfl)
  refine wpList_copy_nothing rfl (.tmp 20) (.tmp 30) 35 35 rfl 5 Try.underlying35 Try.sizeU8 _ _ _ _ _ _ rfl rfl (by simp) ?_
  clear a4
  have fin : ∀ w3 : World, w3 = w2.drew.setCell ⟨b, 1, none⟩ (.int .i64 (8 * (i : Int))) → Gave w b bs (8 * i) (.slice A L cap) [] (.returned (.slice (some ⟨w1.heap.size, 0, none⟩) 0 0)) w3 := by
    rintro w3 rfl
    have ho4 : Only (fun k => k = b) w1 (w2.drew.setCell ⟨b, 1, none⟩ (.int .i64 (8 * (i : Int)))) := (H2.out.drew.mono (T := fun k => k = b) (by simp)).set (fun _ => rfl) _
    have e1 : 8 * (i : Int) = ((8 * i : Nat) : Int) := by omega
    have hlt : b < w1.heap.size := HR1.out.is.lt
    refine ⟨_, rfl, ⟨rfl, ?_⟩, ?_, HO1.out.trans ho4 (fun _ _ x => x)⟩
    · rcases HOWN.out.2 with ⟨q, _⟩ | ⟨g', cap', cur, q, q1, q2, q3, q4, q5, _⟩
      · simp at q
      · simp only [Value.slice.injEq, Option.some.injEq, Addr.mk.injEq, and_true, true_and] at q
        obtain ⟨rfl, rfl⟩ := q
        refine .inr ⟨_, 0, cur, rfl, HO1.out.size, ?_, q3, q4, q5, rfl⟩
        rw [Below.heap_setCell _ _ _ _ (by show w1.heap.size ≠ b; omega)]
        exact q2
    · refine HR1.out.turn ho4 ?_ (by rw [HBL.out]; omega)
      rw [e1]
      exact Is.put (w := w2.drew) HR2.out.is 1 _
  have FIN := Lib.hid fin
  clear fin
  go_wp2
  all_goals
    go_ret
    first | (refine FIN.out _ ?_; rfl) | (obtain rfl : cap = i := (by assumption); refine FIN.out _ ?_; rfl)

/-- Bytes that are there are answered. -/
theorem bytes_ok (b p n : Nat) (bs : List Nat) (v : Value) (w : World) (h : Rdr w b bs p 0 v) (hn : p + 8 * n ≤ 8 * bs.length) :
    Calls Try.prog 58 #[ptr b, .int .i64 n] w (Gave w b bs (p + 8 * n) v (bytesAt bs p n)) := by
  by_cases h8 : p % 8 = 0
  · obtain ⟨i, rfl⟩ : ∃ i, p = 8 * i := ⟨p / 8, by omega⟩
    rcases Nat.eq_zero_or_pos n with rfl | hpos
    · exact bytes_none b i bs v w h
    · exact bytes_aligned b i n bs v w h (by omega) hpos
  · exact bytes_amid b p n bs v w h hn h8

end Go.Proofs.Ytefcimkopgcagaa

/- A writer as a whole: what Put makes of it. Conditions: as each says. -/
set_option linter.unusedVariables false
namespace Go.Proofs.Ytefcimkopgcagaa
open Go.RowKit

/-- Block b is a writer to which the digits d were put; its row is v, the bytes bs, of block B on. -/
structure Wr (w : World) (b : Nat) (d bs : List Nat) (v : Value) (B : Nat) : Prop where
  is : Is w b 123 #[v, .int .i64 (d.length : Nat)]
  row : w.ownsRow B 5 1 v bs.length (cellsOf bs)
  wrote : Wrote bs d
  base : B ≤ b

/-- A row of a writer that lies as another one, or is new. -/
def Moved (w : World) (v v' : Value) : Prop := v'.ownBlock = v.ownBlock ∨ ∃ k, v'.ownBlock = some k ∧ w.heap.size ≤ k
/-- What calls of a writer may change. -/
def Mine (b : Nat) (v : Value) : Nat → Prop := fun k => k = b ∨ v.ownBlock = some k

/-- How many digits are put. -/
def clamp (n : Int) : Nat := (min n 64).toNat

/-- The digits d stand there, and the writer is answered. -/
def DidPut (w : World) (b : Nat) (d : List Nat) (v : Value) (B : Nat) (e : Ending) (w' : World) : Prop :=
  e = .returned (ptr b) ∧ ∃ bs' v', Wr w' b d bs' v' B ∧ Moved w v v' ∧ Only (Mine b v) w w'

theorem Wr.apart {w : World} {b B : Nat} {d bs : List Nat} {v : Value} (h : Wr w b d bs v B) : v.ownBlock ≠ some b := by
  intro hk
  rcases h.row.2 with ⟨rfl, _⟩ | ⟨g, cap, cur, rfl, _, q2, _⟩
  · simp [Value.ownBlock] at hk
  · have : g = b := by simpa [Value.ownBlock] using hk
    subst this
    exact Is.apart (t := 5) (u := 123) q2 h.is (by decide) rfl

/-- What a round of Put comes to, behind the byte that it may add: the row v1 of block g has the digits d1 and z noughts. -/
structure Ready (w : World) (b g cap : Nat) (d1 bs1 : List Nat) (B : Nat) : Prop where
  is : Is w b 123 #[.slice (some ⟨g, 0, none⟩) bs1.length cap, .int .i64 (d1.length : Nat)]
  row : w.ownsRow B 5 1 (.slice (some ⟨g, 0, none⟩) bs1.length cap) bs1.length (cellsOf bs1)
  digits : D bs1 = d1 ++ List.replicate (8 - d1.length % 8) 0
  rows : 8 * bs1.length = d1.length + (8 - d1.length % 8)
  bytes : ∀ x ∈ bs1, x < 256

theorem ready_of_wr {w : World} {b B : Nat} {d1 bs : List Nat} {v : Value} (h : Wr w b d1 bs v B) (h8 : d1.length % 8 ≠ 0) : ∃ g cap, v = .slice (some ⟨g, 0, none⟩) bs.length cap ∧ Ready w b g cap d1 bs B := by
  have hr := h.wrote.rows
  obtain ⟨g, cap, rfl, _, _⟩ := h.row.form (by omega)
  refine ⟨g, cap, rfl, h.is, h.row, ?_, by omega, h.wrote.bytes⟩
  have e : 8 * bs.length - d1.length = 8 - d1.length % 8 := by omega
  rw [← e]
  exact h.wrote.digits

theorem ready_of_append {wr w2 : World} {b B g cap : Nat} {d1 bs : List Nat} {v : Value} {o : Obj} (h : Wr wr b d1 bs v B) (h8 : d1.length % 8 = 0)
    (hown : w2.ownsRow B 5 1 (.slice (some ⟨g, 0, none⟩) (bs.length + 1) cap) (bs.length + 1) (cellsOf bs ++ [.int .u8 0])) (hg : (wr.alloc o).grownBy w2 v.ownBlock) (hgg : v.ownBlock = some g ∨ g = (wr.alloc o).heap.size) :
    Ready (w2.setCell ⟨b, 0, none⟩ (.slice (some ⟨g, 0, none⟩) (bs.length + 1) cap)) b g cap d1 (bs ++ [0]) B ∧ Only (Mine b v) wr (w2.setCell ⟨b, 0, none⟩ (.slice (some ⟨g, 0, none⟩) (bs.length + 1) cap)) ∧ Moved wr v (.slice (some ⟨g, 0, none⟩) (bs.length + 1) cap) := by
  have hap := h.apart
  have hm := wrote_more h.wrote h8
  have hr := h.wrote.rows
  have ho : Only (Mine b v) wr w2 := ((Only.refl _ wr).alloc _).grown hg (fun i hi _ => .inr hi)
  have his2 : Is w2 b 123 #[v, .int .i64 (d1.length : Nat)] := by
    refine (hg.block b ?_ hap.symm).trans (h.is.alloc _)
    have := (h.is.alloc o).lt
    exact this
  have hgb : g ≠ b := by
    intro e
    subst e
    rcases hown.2 with ⟨q, _⟩ | ⟨g', cap', cur, q, _, q2, _⟩
    · simp at q
    · simp only [Value.slice.injEq, Option.some.injEq, Addr.mk.injEq, and_true, true_and] at q
      obtain ⟨rfl, rfl⟩ := q
      exact Is.apart (t := 5) (u := 123) q2 his2 (by decide) rfl
  have hlen : (bs ++ [0]).length = bs.length + 1 := by simp
  refine ⟨⟨?_, ?_, ?_, ?_, hm.2⟩, ho.set (fun _ => .inl rfl) _, ?_⟩
  · rw [hlen]
    exact Is.put his2 0 _
  · rw [hlen, cellsOf_append]
    refine ⟨by rw [← hown.1]; rfl, ?_⟩
    rcases hown.2 with ⟨q, _⟩ | ⟨g', cap', cur, q, q1, q2, q3⟩
    · simp at q
    · refine .inr ⟨g', cap', cur, q, q1, ?_, q3⟩
      simp only [Value.slice.injEq, Option.some.injEq, Addr.mk.injEq, and_true, true_and] at q
      obtain ⟨rfl, rfl⟩ := q
      rw [Below.heap_setCell _ _ _ _ hgb]
      exact q2
  · rw [hm.1, h8]
  · rw [hlen]; omega
  · rcases hgg with hgg | hgg
    · exact .inl hgg.symm
    · refine .inr ⟨g, rfl, ?_⟩
      rw [hgg]
      simp

theorem put_step {w w1 : World} {b g cap B : Nat} {d1 bs1 : List Nat} (h : Ready w b g cap d1 bs1 B) (hB : B ≤ b) (h1 : w1.heap = w.heap) (h1o : w1.os = w.os) (h1t : w1.tape = w.tape) (h1u : w1.output = w.output) (k part c : Nat) (hk : k ≤ 8 - d1.length % 8) (hk1 : 1 ≤ k) (hp : part < 2 ^ k) (hc : bs1[bs1.length - 1]? = some c) :
    Wr ((w1.setCell ⟨g, bs1.length - 1, none⟩ (.int .u8 ((c ||| part * 2 ^ (8 - d1.length % 8 - k) : Nat) : Int))).setCell ⟨b, 1, none⟩ (.int .i64 ((d1.length + k : Nat) : Int))) b (d1 ++ digs k part) (bs1.set (bs1.length - 1) (c ||| part * 2 ^ (8 - d1.length % 8 - k))) (.slice (some ⟨g, 0, none⟩) bs1.length cap) B ∧
    Only (fun i => i = b ∨ i = g) w ((w1.setCell ⟨g, bs1.length - 1, none⟩ (.int .u8 ((c ||| part * 2 ^ (8 - d1.length % 8 - k) : Nat) : Int))).setCell ⟨b, 1, none⟩ (.int .i64 ((d1.length + k : Nat) : Int))) := by
  have hgb : g ≠ b := by
    intro e
    subst e
    rcases h.row.2 with ⟨q, _⟩ | ⟨g', cap', cur, q, _, q2, _⟩
    · simp at q
    · simp only [Value.slice.injEq, Option.some.injEq, Addr.mk.injEq, and_true, true_and] at q
      obtain ⟨rfl, rfl⟩ := q
      exact Is.apart (t := 5) (u := 123) q2 h.is (by decide) rfl
  have hrows := h.rows
  have hrow1 : w1.ownsRow B 5 1 (.slice (some ⟨g, 0, none⟩) bs1.length cap) bs1.length (cellsOf bs1) := by
    refine ⟨h.row.1, ?_⟩
    rcases h.row.2 with q | ⟨g', cap', cur, q, q1, q2, q3⟩
    · exact .inl q
    · exact .inr ⟨g', cap', cur, q, q1, by rw [h1]; exact q2, q3⟩
  have his1 : Is w1 b 123 #[.slice (some ⟨g, 0, none⟩) bs1.length cap, .int .i64 (d1.length : Nat)] := by
    show w1.heap[b]? = _
    rw [h1]
    exact h.is
  have hon : Only (fun i => i = b ∨ i = g) w w1 := ⟨h1o, h1t, h1u, by rw [h1]; exact Nat.le_refl _, fun i _ _ => by rw [h1]⟩
  have hst := hrow1.stored (bs1.length - 1) (.int .u8 ((c ||| part * 2 ^ (8 - d1.length % 8 - k) : Nat) : Int))
  have hne : bs1 ≠ [] := by
    intro e
    subst e
    simp at hc
  obtain ⟨ini, c', rfl⟩ : ∃ ini c', bs1 = ini ++ [c'] := ⟨bs1.dropLast, bs1.getLast hne, (List.dropLast_concat_getLast hne).symm⟩
  have hcc : c' = c := by simpa using hc
  subst hcc
  have hlen : (ini ++ [c']).length = ini.length + 1 := by simp
  rw [hlen] at hrows
  have hpp := put_part ini d1 c' (8 - d1.length % 8) k part (by omega) hk (by omega) h.digits hp (h.bytes c' (by simp))
  have hset : ∀ x, (ini ++ [c']).set ((ini ++ [c']).length - 1) x = ini ++ [x] := by intro x; simp
  refine ⟨⟨?_, ?_, ?_, hB⟩, (hon.set (fun _ => .inr rfl) _).set (fun _ => .inl rfl) _⟩
  · have e : (d1 ++ digs k part).length = d1.length + k := by rw [List.length_append, digs_length]
    rw [e]
    refine Is.put (cs := #[.slice (some ⟨g, 0, none⟩) (ini ++ [c']).length cap, .int .i64 (d1.length : Nat)]) ?_ 1 _
    exact his1.far hgb.symm _
  · have e : (ini ++ [c' ||| part * 2 ^ (8 - d1.length % 8 - k)]).length = (ini ++ [c']).length := by simp
    rw [hset, e]
    have hq := hst.1
    rw [← cellsOf_set, hset] at hq
    refine ⟨hq.1, ?_⟩
    rcases hq.2 with q | ⟨g', cap', cur, q, q1, q2, q3⟩
    · exact .inl q
    · refine .inr ⟨g', cap', cur, q, q1, ?_, q3⟩
      simp only [Value.slice.injEq, Option.some.injEq, Addr.mk.injEq, and_true, true_and] at q
      obtain ⟨rfl, rfl⟩ := q
      rw [Below.heap_setCell _ _ _ _ hgb]
      exact q2
  · rw [hset]
    refine ⟨?_, ?_, ?_⟩
    · rw [hpp.1]
      congr 1
      congr 1
      rw [List.length_append, List.length_append, digs_length, List.length_singleton]
      omega
    · rw [List.length_append, List.length_append, digs_length, List.length_singleton]
      omega
    · intro x hx
      simp only [List.mem_append, List.mem_singleton] at hx
      rcases hx with hx | rfl
      · exact h.bytes x (by simp [hx])
      · exact hpp.2

theorem Moved.refl (w : World) (v : Value) : Moved w v v := .inl rfl
theorem Moved.trans {w w1 : World} {v v1 v2 : Value} (h : Moved w v v1) (k : Moved w1 v1 v2) (hs : w.heap.size ≤ w1.heap.size) : Moved w v v2 := by
  rcases k with k | ⟨i, k1, k2⟩
  · rcases h with h | ⟨j, h1, h2⟩
    · exact .inl (k.trans h)
    · exact .inr ⟨j, k.trans h1, h2⟩
  · exact .inr ⟨i, k1, Nat.le_trans hs k2⟩
theorem Moved.mine {w : World} {v v1 : Value} {b : Nat} (h : Moved w v v1) : ∀ i, i < w.heap.size → Mine b v1 i → Mine b v i := by
  intro i hi hm
  rcases hm with rfl | hm
  · exact .inl rfl
  · rcases h with h | ⟨j, h1, h2⟩
    · exact .inr (h ▸ hm)
    · rw [h1] at hm
      injection hm with hm
      omega
/-- One round more. -/
theorem digs_more (K j k x : Nat) (hk : k ≤ j) (hj : j ≤ K) : digs (K - j) (x / 2 ^ j) ++ digs k (x / 2 ^ (j - k) % 2 ^ k) = digs (K - (j - k)) (x / 2 ^ (j - k)) := by
  rw [digs_mod k k _ (Nat.le_refl _)]
  have e : K - (j - k) = (K - j) + k := by omega
  rw [e, digs_add, Nat.div_div_eq_div_mul, ← Nat.pow_add]
  have e2 : j - k + k = j := by omega
  rw [e2]

theorem or_byte (c part z k : Nat) (hc : c < 256) (hp : part < 2 ^ k) (hk : k ≤ z) (hz : z ≤ 8) : bits .or .u8 (c : Int) (IntKind.u64.wrap ((part : Int) * 2 ^ (z - k)) % 256) = ((c ||| part * 2 ^ (z - k) : Nat) : Int) := by
  have hp0 : 0 < 2 ^ (z - k) := Nat.pow_pos (by decide)
  have pz : 2 ^ z = 2 ^ k * 2 ^ (z - k) := by rw [← Nat.pow_add]; congr 1; omega
  have hsm : part * 2 ^ (z - k) < 2 ^ z := by rw [pz]; exact Nat.mul_lt_mul_of_pos_right hp hp0
  have h8 : 2 ^ z ≤ 2 ^ 8 := Nat.pow_le_pow_right (by decide) hz
  have e8 : 2 ^ 8 = 256 := by decide
  rw [e8] at h8
  rw [pow_cast, ← Int.natCast_mul]
  generalize part * 2 ^ (z - k) = q at *
  rw [wrap_u64_nat _ (by omega)]
  have e : (q : Int) % 256 = (q : Nat) := by omega
  rw [e, u8_or_nat _ _ hc (by omega)]
theorem Wr.drew {w : World} {b B : Nat} {d bs : List Nat} {v : Value} (h : Wr w b d bs v B) : Wr w.drew b d bs v B := ⟨h.is, h.row, h.wrote, h.base⟩
/-- What a round of Put leaves. -/
theorem put_close {w W W1 W' : World} {b g cap B M c k part : Nat} {d1 bs1 : List Nat} {v : Value} {y z : Int} (h : Ready W b g cap d1 bs1 B) (hB : B ≤ b) (nq : Nat) (hW1 : W.drewN nq = W1) (hM : bs1.length = M + 1) (hcc : bs1[M]? = some c)
    (hk : k ≤ 8 - d1.length % 8) (hk1 : 1 ≤ k) (hp : part < 2 ^ k) (he : W' = ((W1.setCell ⟨g, M, none⟩ (.int .u8 y)).setCell ⟨b, 1, none⟩ (.int .i64 z)).drew) (hy : y = ((c ||| part * 2 ^ (8 - d1.length % 8 - k) : Nat) : Int)) (hz : z = ((d1.length + k : Nat) : Int))
    (ho : Only (Mine b v) w W) (hm : Moved w v (.slice (some ⟨g, 0, none⟩) bs1.length cap)) : ∃ bs' v', Wr W' b (d1 ++ digs k part) bs' v' B ∧ Moved w v v' ∧ Only (Mine b v) w W' := by
  subst hW1 he hy hz
  have e1 : bs1.length - 1 = M := by omega
  have hst := put_step h hB (w1 := W.drewN nq) rfl rfl rfl rfl k part c hk hk1 hp (by rw [e1]; exact hcc)
  rw [e1] at hst
  refine ⟨_, _, hst.1.drew, hm, (ho.trans hst.2 ?_).drew⟩
  intro i hi hx
  rcases hx with rfl | rfl
  · exact .inl rfl
  · exact hm.mine i hi (.inr rfl)
end Go.Proofs.Ytefcimkopgcagaa

/- Put of a writer. Conditions: as each says. -/
set_option linter.unusedVariables false
namespace Go.Proofs.Ytefcimkopgcagaa
open Go.RowKit

set_option maxRecDepth 100000 in
set_option maxHeartbeats 2000000 in
theorem put_some (b B K x : Nat) (dg : Int) (d bs : List Nat) (v : Value) (w : World) (h : Wr w b d bs v B) (hB : B ≤ w.heap.size) (hx : x < 18446744073709551616) (hs : d.length + 64 ≤ 70368744177664) (hK : (dg = K ∧ K ≤ 64) ∨ (64 < dg ∧ K = 64)) :
    Calls Try.prog 45 #[ptr b, .int .u64 x, .int .i64 dg] w (DidPut w b (d ++ digs K x) v B) := by
  have HW := Lib.hid h
  have hK64 : K ≤ 64 := by omega
  obtain ⟨i0, hi, hz0, hz1, hz2⟩ := info_parts Try.infoU8
  generalize hdl : d.length = N at *
  have HN := Lib.hid hdl
  clear h hdl
  have hdec : dg ≤ 64 ∨ 64 < dg := by omega
  have hstart : (dg ≤ 64 → Value.int .i64 dg = .int .i64 K) ∧ (64 < dg → Value.int .i64 64 = .int .i64 K) := by
    refine ⟨fun _ => int_congr (by omega), fun _ => int_congr (by omega)⟩
  have HST := Lib.hid hstart
  clear hstart hK
  rcases hdec with hle | hle
  all_goals
    go_enter Try.func45, Try.ntmps45
    go_wp2
    go_loopw [7] (fun left wr => ∃ (j : Nat) (bs' : List Nat) (v' : Value), j ≤ K ∧ left = .int .i64 j ∧ Wr wr b (d ++ digs (K - j) (x / 2 ^ j)) bs' v' B ∧ Moved w v v' ∧ Only (Mine b v) w wr) (fun left _ => (intOf left).toNat)
    case atStart =>
      refine ⟨K, bs, v, Nat.le_refl _, (by first | exact HST.out.1 hle | exact HST.out.2 hle), ?_, .inl rfl, Only.refl _ _⟩
      rw [Nat.sub_self]
      simpa [digs] using HW.out
    case round =>
      obtain ⟨j, bs', v', hj, rfl, hw, hmv, ho⟩ := hrel
      generalize hd1 : d ++ digs (K - j) (x / 2 ^ j) = d1 at *
      have hn1 : d1.length = N + (K - j) := by rw [← hd1, List.length_append, digs_length, HN.out]
      have hc0 := hw.is.cell 0
      have hc1 := hw.is.cell 1
      have hf0 := hw.is.free 0
      have hf1 := hw.is.free 1
      simp at hc0 hc1
      have HW1 := Lib.hid hw
      have HM := Lib.hid hmv
      have HO := Lib.hid ho
      have HD := Lib.hid hd1
      generalize hl1 : d1.length = n1 at *
      have HL1 := Lib.hid hl1
      have hn1' : n1 ≤ N + 64 := by omega
      clear hw hmv ho hd1 hl1 hn1
      by_cases hj0 : 0 < j
      · by_cases h8 : n1 % 8 = 0
        · have hb8 : ((n1 : Int) % 8 == 0) = true := by simp; omega
          have hrows := HW1.out.wrote.rows
          rw [HL1.out] at hrows
          have hbl : bs'.length ≤ n1 := by omega
          generalize hbb : bs'.length = m at *
          have HBB := Lib.hid hbb
          clear hbb hrows
          go_wp2_with (at_builtin; refine wpList_append_lies _ rfl _ _ 35 rfl B 5 i0 (.int .u8 0) 1 1 Try.underlying35 hi hz0 hz1 hz2 rfl (by decide) v' m (cellsOf bs') rfl (by have := HW1.out.row.alloc (.cells #[.int .u8 0] 5); rw [HBB.out] at this; exact this) ⟨wr.heap.size, 0, none⟩ 1 1 [.int .u8 0] rfl rfl (cell_one_new _ _ _) (by simp [Value.oneCell']) (by omega) (by unfold maxLen; omega) (by omega) (by have := HO.out.size; simp; omega) _ rfl ?_)
          intro g cap w2 hown hg hgg _
          have hra := ready_of_append HW1.out (by rw [HL1.out]; exact h8) (by rw [HBB.out]; exact hown) hg (by simpa using hgg)
          rw [HBB.out] at hra
          have hbw : b < (wr.alloc (.cells #[.int .u8 0] 5)).heap.size := (HW1.out.is.alloc _).lt
          have hap := HW1.out.apart
          have hs0 : w2.cell? ⟨b, 0, none⟩ = some v' := (hg.cell_far ⟨b, 0, none⟩ hbw hap.symm).trans ((HW1.out.is.alloc _).cell 0)
          have hs0f : w2.frozen? ⟨b, 0, none⟩ = false := (hg.frozen_far ⟨b, 0, none⟩ hbw hap.symm).trans ((HW1.out.is.alloc _).free 0)
          have HRA := Lib.hid hra
          clear hra hown hg hgg hap
          go_upto_region 7 with (fail)
          obtain ⟨W, hW⟩ : ∃ W, W = w2.setCell ⟨b, 0, none⟩ (.slice (some ⟨g, 0, none⟩) (m + 1) cap) := ⟨_, rfl⟩
          rw [← hW] at HRA ⊢
          have hr := HRA.out
          clear HRA hW hs0 hs0f hc0 hc1 hf0 hf1 hbw
          obtain ⟨bs1, hbs1⟩ : ∃ bs1, bs1 = bs' ++ [0] := ⟨_, rfl⟩
          have hlen1 : bs1.length = m + 1 := by rw [hbs1, List.length_append, HBB.out]; rfl
          rw [← hbs1] at hr
          rw [← hlen1] at hr ⊢
          have HRD := Lib.hid hr.1
          have HOW := Lib.hid (HO.out.trans hr.2.1 HM.out.mine)
          have HMV := Lib.hid (HM.out.trans hr.2.2 HO.out.size)
          clear hr hbs1 hlen1 h8 hb8
          have q0 := HRD.out.is.cell 0
          have q1 := HRD.out.is.cell 1
          have q1f := HRD.out.is.free 1
          have hrow := HRD.out.rows
          simp at q0 q1
          rw [HL1.out] at q1 hrow
          obtain ⟨M, hM⟩ : ∃ M, bs1.length = M + 1 := ⟨bs1.length - 1, by omega⟩
          rw [hM] at q0 hrow
          try rw [hM]
          have HMM := Lib.hid hM
          obtain ⟨c, hcc⟩ : ∃ c, bs1[M]? = some c := ⟨bs1[M], List.getElem?_eq_getElem (by omega)⟩
          have hc256 := HRD.out.bytes c (List.mem_of_getElem? hcc)
          have qc : W.cell? ⟨g, M, none⟩ = some (.int .u8 (c : Int)) := by
            have hrw := HRD.out.row
            rw [HMM.out] at hrw
            rw [hrw.cellAt M (by omega)]
            simp [cellsOf, hcc]
          have qf : W.frozen? ⟨g, M, none⟩ = false := by
            have hrw := HRD.out.row
            rw [HMM.out] at hrw
            exact hrw.frozenAt M
          have hgb : g ≠ b := by
            intro e
            subst e
            rcases HRD.out.row.2 with ⟨q, _⟩ | ⟨g', cap', cur, q, _, q2, _⟩
            · simp at q
            · simp only [Value.slice.injEq, Option.some.injEq, Addr.mk.injEq, and_true, true_and] at q
              obtain ⟨rfl, rfl⟩ := q
              exact Is.apart (t := 5) (u := 123) q2 HRD.out.is (by decide) rfl
          have HCC := Lib.hid hcc
          clear hM hcc
          by_cases hk : j ≤ 8 - n1 % 8
          · have b1 : (j : Int) ≤ 8 - (n1 : Int) % 8 := by omega
            have b2 : IntKind.i64.wrap ((j : Int) - j) = 0 := by rw [Int.sub_self]; rfl
            go_wp2
            go_quiet (fail)
            clear b2
            rw [part_u64' x j hx (by omega)]
            have hpl : x % 2 ^ j < 2 ^ j := Nat.mod_lt _ (Nat.pow_pos (by decide))
            generalize hpt : x % 2 ^ j = part at *
            have HPT := Lib.hid hpt
            have HPL := Lib.hid hpl
            clear hpt hpl
            have b3 : IntKind.i64.wrap (M : Int) = M := IntWalk.i64_in _ (by omega)
            have b4 : (M : Int) < (M : Int) + 1 := by omega
            have b7 : IntKind.i64.wrap (8 - (n1 : Int) % 8 - j) = 8 - (n1 : Int) % 8 - j := IntWalk.i64_in _ (by omega)
            have b8 : (0 : Int) ≤ 8 - (n1 : Int) % 8 - j := by omega
            have b9 : (8 - (n1 : Int) % 8 - j).toNat = 8 - n1 % 8 - j := by omega
            go_wp2
            replace q0 : (W.drewN nq).cell? ⟨b, 0, none⟩ = some (.slice (some ⟨g, 0, none⟩) (M + 1) cap) := q0
            replace q1 : (W.drewN nq).cell? ⟨b, 1, none⟩ = some (.int .i64 (n1 : Nat)) := q1
            replace q1f : (W.drewN nq).frozen? ⟨b, 1, none⟩ = false := q1f
            replace qc : (W.drewN nq).cell? ⟨g, M, none⟩ = some (.int .u8 (c : Int)) := qc
            replace qf : (W.drewN nq).frozen? ⟨g, M, none⟩ = false := qf
            generalize hW1 : W.drewN nq = W1 at *
            have HW2 := Lib.hid hW1
            clear hW1
            go_still_tail 20, (by kernel_rfl)
            go_wp2
            clear b1 b3 b4 b7 b8 b9 q0 q1 q1f qc qf
            have hcl := put_close (k := j) (part := part) (y := bits .or .u8 (c : Int) (IntKind.u64.wrap ((part : Int) * 2 ^ (8 - n1 % 8 - j)) % 256)) (z := (n1 : Int) + j) HRD.out HW1.out.base nq HW2.out HMM.out HCC.out (by rw [HL1.out]; exact hk) hj0 HPL.out rfl ?_ ?_ HOW.out HMV.out
            · obtain ⟨bs2, v2, r1, r2, r3⟩ := hcl
              refine ⟨⟨0, bs2, v2, by omega, rfl, ?_, r2, r3⟩, by simp [intOf]; omega⟩
              have hdm := digs_more K j j x (Nat.le_refl _) hj
              rw [Nat.sub_self, Nat.pow_zero, Nat.div_one, HPT.out] at hdm
              rw [Nat.pow_zero, Nat.div_one, ← hdm, ← List.append_assoc, HD.out]
              exact r1
            · rw [HL1.out]
              exact or_byte c part (8 - n1 % 8) j hc256 HPL.out (by omega) (by omega)
            · rw [HL1.out]; omega
          · have b1 : 8 - (n1 : Int) % 8 < (j : Int) := by omega
            have b2 : IntKind.i64.wrap ((j : Int) - (8 - (n1 : Int) % 8)) = (j : Int) - (8 - (n1 : Int) % 8) := IntWalk.i64_in _ (by omega)
            have b22 : (0 : Int) ≤ (j : Int) - (8 - (n1 : Int) % 8) := by omega
            have b23 : ((j : Int) - (8 - (n1 : Int) % 8)).toNat = j - (8 - n1 % 8) := by omega
            go_wp2
            go_quiet (fail)
            clear b2 b22 b23
            rw [part_u64 x (j - (8 - n1 % 8)) (8 - n1 % 8) hx (by omega)]
            have hpl : x / 2 ^ (j - (8 - n1 % 8)) % 2 ^ (8 - n1 % 8) < 2 ^ (8 - n1 % 8) := Nat.mod_lt _ (Nat.pow_pos (by decide))
            generalize hpt : x / 2 ^ (j - (8 - n1 % 8)) % 2 ^ (8 - n1 % 8) = part at *
            have HPT := Lib.hid hpt
            have HPL := Lib.hid hpl
            clear hpt hpl
            have b3 : IntKind.i64.wrap (M : Int) = M := IntWalk.i64_in _ (by omega)
            have b4 : (M : Int) < (M : Int) + 1 := by omega
            have b7 : IntKind.i64.wrap 0 = 0 := rfl
            go_wp2
            replace q0 : (W.drewN nq).cell? ⟨b, 0, none⟩ = some (.slice (some ⟨g, 0, none⟩) (M + 1) cap) := q0
            replace q1 : (W.drewN nq).cell? ⟨b, 1, none⟩ = some (.int .i64 (n1 : Nat)) := q1
            replace q1f : (W.drewN nq).frozen? ⟨b, 1, none⟩ = false := q1f
            replace qc : (W.drewN nq).cell? ⟨g, M, none⟩ = some (.int .u8 (c : Int)) := qc
            replace qf : (W.drewN nq).frozen? ⟨g, M, none⟩ = false := qf
            generalize hW1 : W.drewN nq = W1 at *
            have HW2 := Lib.hid hW1
            clear hW1
            go_still_tail 20, (by kernel_rfl)
            go_wp2
            clear b1 b3 b4 b7 q0 q1 q1f qc qf
            have hcl := put_close (k := 8 - n1 % 8) (part := part) (y := bits .or .u8 (c : Int) (IntKind.u64.wrap (part : Int) % 256)) (z := (n1 : Int) + (8 - (n1 : Int) % 8)) HRD.out HW1.out.base nq HW2.out HMM.out HCC.out (by rw [HL1.out]; exact Nat.le_refl _) (by omega) HPL.out rfl ?_ ?_ HOW.out HMV.out
            · obtain ⟨bs2, v2, r1, r2, r3⟩ := hcl
              refine ⟨⟨j - (8 - n1 % 8), bs2, v2, by omega, int_congr (by omega), ?_, r2, r3⟩, by simp [intOf]; omega⟩
              have hdm := digs_more K j (8 - n1 % 8) x (by omega) hj
              rw [HPT.out] at hdm
              rw [← hdm, ← List.append_assoc, HD.out]
              exact r1
            · rw [HL1.out]
              have hob := or_byte c part (8 - n1 % 8) (8 - n1 % 8) hc256 HPL.out (Nat.le_refl _) (by omega)
              rw [Nat.sub_self, Int.pow_zero, Int.mul_one] at hob
              rw [Nat.sub_self]
              exact hob
            · rw [HL1.out]; omega
        · have hb8 : ((n1 : Int) % 8 == 0) = false := by simp; omega
          obtain ⟨g, cap, rfl, hr⟩ := ready_of_wr HW1.out (by rw [HL1.out]; exact h8)
          clear hf0 hf1
          go_upto_region 7 with (fail)
          clear hc0 hc1
          obtain ⟨bs1, rfl⟩ : ∃ bs1, bs1 = bs' := ⟨_, rfl⟩
          obtain ⟨W, rfl⟩ : ∃ W, W = wr := ⟨_, rfl⟩
          have HRD := Lib.hid hr
          have HOW := Lib.hid HO.out
          have HMV := Lib.hid HM.out
          clear hr h8 hb8
          have q0 := HRD.out.is.cell 0
          have q1 := HRD.out.is.cell 1
          have q1f := HRD.out.is.free 1
          have hrow := HRD.out.rows
          simp at q0 q1
          rw [HL1.out] at q1 hrow
          obtain ⟨M, hM⟩ : ∃ M, bs1.length = M + 1 := ⟨bs1.length - 1, by omega⟩
          rw [hM] at q0 hrow
          try rw [hM]
          have HMM := Lib.hid hM
          obtain ⟨c, hcc⟩ : ∃ c, bs1[M]? = some c := ⟨bs1[M], List.getElem?_eq_getElem (by omega)⟩
          have hc256 := HRD.out.bytes c (List.mem_of_getElem? hcc)
          have qc : W.cell? ⟨g, M, none⟩ = some (.int .u8 (c : Int)) := by
            have hrw := HRD.out.row
            rw [HMM.out] at hrw
            rw [hrw.cellAt M (by omega)]
            simp [cellsOf, hcc]
          have qf : W.frozen? ⟨g, M, none⟩ = false := by
            have hrw := HRD.out.row
            rw [HMM.out] at hrw
            exact hrw.frozenAt M
          have hgb : g ≠ b := by
            intro e
            subst e
            rcases HRD.out.row.2 with ⟨q, _⟩ | ⟨g', cap', cur, q, _, q2, _⟩
            · simp at q
            · simp only [Value.slice.injEq, Option.some.injEq, Addr.mk.injEq, and_true, true_and] at q
              obtain ⟨rfl, rfl⟩ := q
              exact Is.apart (t := 5) (u := 123) q2 HRD.out.is (by decide) rfl
          have HCC := Lib.hid hcc
          clear hM hcc
          by_cases hk : j ≤ 8 - n1 % 8
          · have b1 : (j : Int) ≤ 8 - (n1 : Int) % 8 := by omega
            have b2 : IntKind.i64.wrap ((j : Int) - j) = 0 := by rw [Int.sub_self]; rfl
            go_wp2
            go_quiet (fail)
            clear b2
            rw [part_u64' x j hx (by omega)]
            have hpl : x % 2 ^ j < 2 ^ j := Nat.mod_lt _ (Nat.pow_pos (by decide))
            generalize hpt : x % 2 ^ j = part at *
            have HPT := Lib.hid hpt
            have HPL := Lib.hid hpl
            clear hpt hpl
            have b3 : IntKind.i64.wrap (M : Int) = M := IntWalk.i64_in _ (by omega)
            have b4 : (M : Int) < (M : Int) + 1 := by omega
            have b7 : IntKind.i64.wrap (8 - (n1 : Int) % 8 - j) = 8 - (n1 : Int) % 8 - j := IntWalk.i64_in _ (by omega)
            have b8 : (0 : Int) ≤ 8 - (n1 : Int) % 8 - j := by omega
            have b9 : (8 - (n1 : Int) % 8 - j).toNat = 8 - n1 % 8 - j := by omega
            go_wp2
            replace q0 : (W.drewN nq).cell? ⟨b, 0, none⟩ = some (.slice (some ⟨g, 0, none⟩) (M + 1) cap) := q0
            replace q1 : (W.drewN nq).cell? ⟨b, 1, none⟩ = some (.int .i64 (n1 : Nat)) := q1
            replace q1f : (W.drewN nq).frozen? ⟨b, 1, none⟩ = false := q1f
            replace qc : (W.drewN nq).cell? ⟨g, M, none⟩ = some (.int .u8 (c : Int)) := qc
            replace qf : (W.drewN nq).frozen? ⟨g, M, none⟩ = false := qf
            generalize hW1 : W.drewN nq = W1 at *
            have HW2 := Lib.hid hW1
            clear hW1
            go_still_tail 20, (by kernel_rfl)
            go_wp2
            clear b1 b3 b4 b7 b8 b9 q0 q1 q1f qc qf
            have hcl := put_close (k := j) (part := part) (y := bits .or .u8 (c : Int) (IntKind.u64.wrap ((part : Int) * 2 ^ (8 - n1 % 8 - j)) % 256)) (z := (n1 : Int) + j) HRD.out HW1.out.base nq HW2.out HMM.out HCC.out (by rw [HL1.out]; exact hk) hj0 HPL.out rfl ?_ ?_ HOW.out HMV.out
            · obtain ⟨bs2, v2, r1, r2, r3⟩ := hcl
              refine ⟨⟨0, bs2, v2, by omega, rfl, ?_, r2, r3⟩, by simp [intOf]; omega⟩
              have hdm := digs_more K j j x (Nat.le_refl _) hj
              rw [Nat.sub_self, Nat.pow_zero, Nat.div_one, HPT.out] at hdm
              rw [Nat.pow_zero, Nat.div_one, ← hdm, ← List.append_assoc, HD.out]
              exact r1
            · rw [HL1.out]
              exact or_byte c part (8 - n1 % 8) j hc256 HPL.out (by omega) (by omega)
            · rw [HL1.out]; omega
          · have b1 : 8 - (n1 : Int) % 8 < (j : Int) := by omega
            have b2 : IntKind.i64.wrap ((j : Int) - (8 - (n1 : Int) % 8)) = (j : Int) - (8 - (n1 : Int) % 8) := IntWalk.i64_in _ (by omega)
            have b22 : (0 : Int) ≤ (j : Int) - (8 - (n1 : Int) % 8) := by omega
            have b23 : ((j : Int) - (8 - (n1 : Int) % 8)).toNat = j - (8 - n1 % 8) := by omega
            go_wp2
            go_quiet (fail)
            clear b2 b22 b23
            rw [part_u64 x (j - (8 - n1 % 8)) (8 - n1 % 8) hx (by omega)]
            have hpl : x / 2 ^ (j - (8 - n1 % 8)) % 2 ^ (8 - n1 % 8) < 2 ^ (8 - n1 % 8) := Nat.mod_lt _ (Nat.pow_pos (by decide))
            generalize hpt : x / 2 ^ (j - (8 - n1 % 8)) % 2 ^ (8 - n1 % 8) = part at *
            have HPT := Lib.hid hpt
            have HPL := Lib.hid hpl
            clear hpt hpl
            have b3 : IntKind.i64.wrap (M : Int) = M := IntWalk.i64_in _ (by omega)
            have b4 : (M : Int) < (M : Int) + 1 := by omega
            have b7 : IntKind.i64.wrap 0 = 0 := rfl
            go_wp2
            replace q0 : (W.drewN nq).cell? ⟨b, 0, none⟩ = some (.slice (some ⟨g, 0, none⟩) (M + 1) cap) := q0
            replace q1 : (W.drewN nq).cell? ⟨b, 1, none⟩ = some (.int .i64 (n1 : Nat)) := q1
            replace q1f : (W.drewN nq).frozen? ⟨b, 1, none⟩ = false := q1f
            replace qc : (W.drewN nq).cell? ⟨g, M, none⟩ = some (.int .u8 (c : Int)) := qc
            replace qf : (W.drewN nq).frozen? ⟨g, M, none⟩ = false := qf
            generalize hW1 : W.drewN nq = W1 at *
            have HW2 := Lib.hid hW1
            clear hW1
            go_still_tail 20, (by kernel_rfl)
            go_wp2
            clear b1 b3 b4 b7 q0 q1 q1f qc qf
            have hcl := put_close (k := 8 - n1 % 8) (part := part) (y := bits .or .u8 (c : Int) (IntKind.u64.wrap (part : Int) % 256)) (z := (n1 : Int) + (8 - (n1 : Int) % 8)) HRD.out HW1.out.base nq HW2.out HMM.out HCC.out (by rw [HL1.out]; exact Nat.le_refl _) (by omega) HPL.out rfl ?_ ?_ HOW.out HMV.out
            · obtain ⟨bs2, v2, r1, r2, r3⟩ := hcl
              refine ⟨⟨j - (8 - n1 % 8), bs2, v2, by omega, int_congr (by omega), ?_, r2, r3⟩, by simp [intOf]; omega⟩
              have hdm := digs_more K j (8 - n1 % 8) x (by omega) hj
              rw [HPT.out] at hdm
              rw [← hdm, ← List.append_assoc, HD.out]
              exact r1
            · rw [HL1.out]
              have hob := or_byte c part (8 - n1 % 8) (8 - n1 % 8) hc256 HPL.out (Nat.le_refl _) (by omega)
              rw [Nat.sub_self, Int.pow_zero, Int.mul_one] at hob
              rw [Nat.sub_self]
              exact hob
            · rw [HL1.out]; omega
      · have hz : j = 0 := by omega
        subst hz
        go_wp2
        go_ret
        rw [Nat.sub_zero, Nat.pow_zero, Nat.div_one] at HD
        refine ⟨rfl, bs', v', ?_, HM.out, HO.out⟩
        rw [HD.out]
        exact HW1.out

set_option maxRecDepth 100000 in
set_option maxHeartbeats 400000 in
theorem put_none (b B : Nat) (x : Int) (dg : Int) (d bs : List Nat) (v : Value) (w : World) (h : Wr w b d bs v B) (hd : dg ≤ 0) :
    Calls Try.prog 45 #[ptr b, .int .u64 x, .int .i64 dg] w (DidPut w b d v B) := by
  have HW := Lib.hid h
  have h64 : dg ≤ 64 := by omega
  clear h
  go_enter Try.func45, Try.ntmps45
  go_wp2
  go_loopw [7] (fun left wr => left = .int .i64 dg ∧ w = wr) (fun _ _ => 0)
  case atStart => exact ⟨rfl, rfl⟩
  case round =>
    obtain ⟨rfl, rfl⟩ := hrel
    go_wp2
    go_ret
    exact ⟨rfl, bs, v, HW.out, .inl rfl, Only.refl _ _⟩

/-- Put: the lowest so many digits more. -/
theorem put_is (b B x : Nat) (dg : Int) (d bs : List Nat) (v : Value) (w : World) (h : Wr w b d bs v B) (hB : B ≤ w.heap.size) (hx : x < 18446744073709551616) (hs : d.length + 64 ≤ 70368744177664) :
    Calls Try.prog 45 #[ptr b, .int .u64 x, .int .i64 dg] w (DidPut w b (d ++ digs (clamp dg) x) v B) := by
  rcases Int.le_total dg 0 with h0 | h0
  · have e : clamp dg = 0 := by unfold clamp; omega
    rw [e]
    simp only [digs, List.append_nil]
    exact put_none b B x dg d bs v w h h0
  · refine put_some b B (clamp dg) x dg d bs v w h hB hx hs ?_
    unfold clamp
    omega

set_option maxRecDepth 100000 in
set_option maxHeartbeats 400000 in
theorem put_nil (x dg : Int) (w : World) : Calls Try.prog 45 #[.pointer none, .int .u64 x, .int .i64 dg] w fun e w' => e = .returned (.pointer none) ∧ w = w' := by
  go_enter Try.func45, Try.ntmps45
  go_wp2
  go_ret
  exact ⟨rfl, rfl⟩

/-- A digit, as a number. -/
def bit (x : Bool) : Nat := if x then 1 else 0

/-- Out: the bytes, in new memory. -/
theorem out_is (b B C : Nat) (d bs : List Nat) (v : Value) (w : World) (h : Wr w b d bs v B) (hC : C ≤ w.heap.size) (hs : d.length ≤ 70368744177664) :
    Calls Try.prog 47 #[ptr b] w (OwnRow C (cellsOf bs) w) :=
  out_row b v _ bs w C hC h.is (Src.of_own h.row) (by have := h.wrote.rows; omega)
/-- A writer that put nothing. -/
theorem wr_new (w : World) (B : Nat) (hB : B ≤ w.heap.size) : Wr (w.alloc (.cells #[.slice none 0 0, .int .i64 0] 123)) w.heap.size [] [] (.slice none 0 0) B :=
  ⟨Is.made _ _ _, World.ownsRow_nil _ _ _ _, Wrote.none, hB⟩
end Go.Proofs.Ytefcimkopgcagaa

/- A writer's Bytes of one row, where it stands at a whole byte. Conditions: as it says. -/
set_option linter.unusedVariables false
namespace Go.Proofs.Ytefcimkopgcagaa
open Go.RowKit

/-- Whole bytes are put behind whole bytes. -/
theorem wrote_bytes {bs d xs : List Nat} (h : Wrote bs d) (h8 : d.length % 8 = 0) (hx : ∀ x ∈ xs, x < 256) : Wrote (bs ++ xs) (d ++ D xs) := by
  have hr := h.rows
  have hd := h.digits
  have e : 8 * bs.length - d.length = 0 := by omega
  rw [e, List.replicate_zero, List.append_nil] at hd
  refine ⟨?_, ?_, fun x hx' => ?_⟩
  · have e2 : 8 * (bs ++ xs).length - (d ++ D xs).length = 0 := by
      rw [List.length_append, List.length_append, D_length]
      omega
    rw [e2, List.replicate_zero, List.append_nil, D_append, hd]
  · rw [List.length_append, List.length_append, D_length, hr]
    omega
  · rcases List.mem_append.1 hx' with h' | h'
    · exact h.bytes x h'
    · exact hx x h'

/-- What is done when the row has grown. -/
theorem wr_grown {w w2 : World} {b B : Nat} {d bs xs : List Nat} {v v' : Value} (h : Wr w b d bs v B) (h8 : d.length % 8 = 0) (hx : ∀ x ∈ xs, x < 256)
    (hown : w2.ownsRow B 5 1 v' (bs.length + xs.length) (cellsOf bs ++ cellsOf xs)) (hg : w.grownBy w2 v.ownBlock) (n : Int) (hn : n = ((d ++ D xs).length : Nat)) :
    Wr ((w2.setCell ⟨b, 0, none⟩ v').setCell ⟨b, 1, none⟩ (.int .i64 n)) b (d ++ D xs) (bs ++ xs) v' B ∧ Only (Mine b v) w ((w2.setCell ⟨b, 0, none⟩ v').setCell ⟨b, 1, none⟩ (.int .i64 n)) := by
  subst hn
  have ho : Only (Mine b v) w w2 := (Only.refl _ w).grown hg (fun i hi _ => .inr hi)
  have his2 : Is w2 b 123 #[v, .int .i64 (d.length : Nat)] := (hg.block b h.is.lt h.apart.symm).trans h.is
  have hvb : v'.ownBlock ≠ some b := by
    intro hk
    rcases hown.2 with ⟨rfl, _⟩ | ⟨g, cap, cur, rfl, _, q2, _⟩
    · simp [Value.ownBlock] at hk
    · have : g = b := by simpa [Value.ownBlock] using hk
      subst this
      exact Is.apart (t := 5) (u := 123) q2 his2 (by decide) rfl
  have hset : Only (fun k => k = b) w2 ((w2.setCell ⟨b, 0, none⟩ v').setCell ⟨b, 1, none⟩ (.int .i64 ((d ++ D xs).length : Nat))) :=
    Only.set (S := fun k => k = b) (p := ⟨b, 1, none⟩) (Only.set (S := fun k => k = b) (p := ⟨b, 0, none⟩) (Only.refl _ w2) (fun _ => rfl) v') (fun _ => rfl) _
  refine ⟨⟨(his2.put 0 v').put 1 _, ?_, wrote_bytes h.wrote h8 hx, h.base⟩, ho.trans hset (fun i _ e => .inl e)⟩
  have := hown
  rw [← cellsOf_append, ← List.length_append] at this
  obtain ⟨q1, q2⟩ := this
  refine ⟨q1, ?_⟩
  rcases q2 with q | ⟨g, cap, cur, r1, r2, r3, r4⟩
  · exact .inl q
  · exact .inr ⟨g, cap, cur, r1, r2, (hset.same g (lt_of_heap r3) (fun e => hvb (by rw [r1, ← e]; rfl))).trans r3, r4⟩

/-- What is answered. -/
def DidBytes (w : World) (b : Nat) (d : List Nat) (v : Value) (B : Nat) (e : Ending) (w' : World) : Prop :=
  e = .returned (ptr b) ∧ ∃ bs' v', Wr w' b d bs' v' B ∧ Only (Mine b v) w w'

set_option maxRecDepth 100000 in
set_option maxHeartbeats 1000000 in
theorem wbytes_one (b B lb cl : Nat) (d bs xs : List Nat) (v vx : Value) (w : World) (h : Wr w b d bs v B) (h8 : d.length % 8 = 0) (hB : B ≤ w.heap.size) (hl : w.cell? ⟨lb, 0, none⟩ = some vx) (hs : Src w vx xs) (hx : ∀ x ∈ xs, x < 256) (hd : d.length ≤ 1000000) (hxl : xs.length ≤ 1000000) :
    Calls Try.prog 46 #[ptr b, .slice (some ⟨lb, 0, none⟩) 1 cl] w (DidBytes w b (d ++ D xs) v B) := by
  obtain ⟨Ax, cx, rfl⟩ := hs.slice
  obtain ⟨Av, cv, rfl, _⟩ := own_slice h.row
  have hrow := h.wrote.rows
  have H := Lib.hid h
  have H8 := Lib.hid h8
  have HS := Lib.hid hs
  have HX := Lib.hid hx
  have c0 := h.is.cell 0
  simp at c0
  have c1 := h.is.cell 1
  simp at c1
  have hb8 : (((d.length : Nat) : Int) % 8 == 0) = true := by simp; omega
  have hbl : bs.length ≤ 1000000 := by omega
  clear h h8 hs hx hrow
  go_enter Try.func46, Try.ntmps46
  go_wp2
  go_loopw [13] (fun i wr => (i = .int .i64 0 ∧ wr = w) ∨ (i = .int .i64 1 ∧ DidBytes w b (d ++ D xs) (.slice Av bs.length cv) B (.returned (ptr b)) wr)) (fun i _ => 1 - (intOf i).toNat)
  case atStart => exact .inl ⟨rfl, rfl⟩
  case round =>
    rcases hrel with ⟨rfl, rfl⟩ | ⟨rfl, hdone⟩
    · go_wp2_with (refine wpList_append_src _ rfl (.tmp 27) (.tmp 28) rfl B _ bs rfl H.out.row _ xs rfl HS.out (by omega) hB ?_)
      intro v' w2 hown hg
      obtain ⟨Av', cv', rfl, _⟩ := own_slice hown
      have his2 : Is w2 b 123 #[.slice Av bs.length cv, .int .i64 (d.length : Nat)] := (hg.block b H.out.is.lt H.out.apart.symm).trans H.out.is
      have e0 := his2.cell 0
      simp at e0
      have e1 := his2.cell 1
      simp at e1
      have f0 := his2.free 0
      have f1 := his2.free 1
      have HO := Lib.hid hown
      have HG := Lib.hid hg
      clear his2 hown hg c0 c1
      go_wp2
      exact ⟨.inr ⟨rfl, rfl, bs ++ xs, _, wr_grown H.out H8.out HX.out HO.out HG.out _ (by rw [List.length_append, D_length]; omega)⟩, by simp [intOf]⟩
    · have HD := Lib.hid hdone
      clear hdone c0 c1
      go_wp2
      go_ret
      exact HD.out
end Go.Proofs.Ytefcimkopgcagaa
