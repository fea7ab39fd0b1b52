/- What Bytes and Rest of a reader answer, and what it is then. Conditions: as each says. -/
import Derived.Test.YtefcimkopgcagaaBitsD
import Derived.StillTailTactics
import Derived.Laws.CopyOwn
set_option linter.unusedVariables false
namespace Go.Proofs.Ytefcimkopgcagaa
open Go.RowKit

/-- n bytes from place p on. -/
def bytesAt (bs : List Nat) (p : Nat) : Nat → List Nat
  | 0 => []
  | n + 1 => bytesAt bs p n ++ [num bs (p + 8 * n) 8]

theorem bytesAt_length (bs : List Nat) (p n : Nat) : (bytesAt bs p n).length = n := by
  induction n with
  | zero => rfl
  | succ n ih => simp [bytesAt, ih]
theorem digs_val_byte (bs : List Nat) (i : Nat) (h : i < bs.length) (hb : ∀ x ∈ bs, x < 256) : num bs (8 * i) 8 = bs[i] := by
  have h1 : 8 * i / 8 = i := by omega
  have h2 : 8 * i % 8 = 0 := by omega
  unfold num
  rw [D_mid bs (8 * i) 8 (by omega) (by omega), val_digs]
  simp only [h1, h2]
  have := hb _ (List.getElem_mem h)
  simp
  omega
theorem bytesAt_aligned (bs : List Nat) (i n : Nat) (h : i + n ≤ bs.length) (hb : ∀ x ∈ bs, x < 256) : bytesAt bs (8 * i) n = (bs.drop i).take n := by
  induction n with
  | zero => simp [bytesAt]
  | succ n ih =>
    rw [bytesAt, ih (by omega)]
    have e : 8 * i + 8 * n = 8 * (i + n) := by omega
    rw [e, digs_val_byte bs (i + n) (by omega) hb]
    rw [List.take_succ_eq_append_getElem (by rw [List.length_drop]; omega), List.getElem_drop]

set_option maxRecDepth 100000 in
set_option maxHeartbeats 400000 in
theorem bytes_fail (b p : Nat) (bs : List Nat) (f n f' : Int) (v : Value) (w : World) (h : Rdr w b bs p f v) (hf : asked f n 9223372036854775807 (8 * bs.length - p) 8 = f') (hne : f' ≠ 0) :
    Calls Try.prog 58 #[ptr b, .int .i64 n] w fun e w' => e = .returned (.slice none 0 0) ∧ Rdr w' b bs p f' v ∧ Only (fun k => k = b) w w' := by
  have HR := Lib.hid h
  have HF := Lib.hid hf
  have hd : decide (f' = 0) = false := by simp [hne]
  have HN := Lib.hid hne
  clear h hf hne
  go_enter Try.func58, Try.ntmps58
  go_wp2_with fail
  refine (grants_is b p bs f n _ 8 v w HR.out (by omega) (by omega)).mono ?_
  rintro e w' ⟨rfl, hr, ho⟩
  rw [HF.out] at hr ⊢
  have HR1 := Lib.hid hr
  have HO1 := Lib.hid ho
  clear hr ho
  go_wp2
  go_ret
  exact ⟨rfl, HR1.out, HO1.out⟩

/-- Bytes are answered, in new memory; the reader stands at q. -/
def Gave (w : World) (b : Nat) (bs : List Nat) (q : Nat) (v : Value) (out : List Nat) (e : Ending) (w' : World) : Prop :=
  ∃ u, e = .returned u ∧ w'.ownsRow w.heap.size 5 1 u out.length (cellsOf out) ∧ Rdr w' b bs q 0 v ∧ Only (fun k => k = b) w w'

set_option maxRecDepth 100000 in
set_option maxHeartbeats 1000000 in
theorem bytes_aligned (b i n : Nat) (bs : List Nat) (v : Value) (w : World) (h : Rdr w b bs (8 * i) 0 v) (hn : i + n ≤ bs.length) (hpos : 0 < n) :
    Calls Try.prog 58 #[ptr b, .int .i64 n] w (Gave w b bs (8 * i + 8 * n) v (bytesAt bs (8 * i) n)) := by
  have hsm := h.small
  have HR := Lib.hid h
  have hF := asked_zero (n := (n : Int)) (most := 9223372036854775807) (left := 8 * bs.length - 8 * i) (digits := 8) (by omega) (by omega) (by omega)
  have HF := Lib.hid hF
  obtain ⟨i0, hi, hz0, hz1, hz2⟩ := info_parts Try.infoU8
  clear h hF
  obtain ⟨g, cap, rfl, _, _⟩ := HR.out.row.form (by omega)
  have hcap : bs.length ≤ cap := by
    obtain ⟨A, c, e, hc⟩ := own_slice HR.out.row
    injection e with e1 e2 e3
    omega
  generalize hbl : bs.length = L at *
  have HBL := Lib.hid hbl
  clear hbl
  go_enter Try.func58, Try.ntmps58
  go_wp2_with fail
  refine (grants_is b _ bs 0 n _ 8 _ w HR.out (by omega) (by omega)).mono ?_
  rintro e w1 ⟨rfl, hr, ho⟩
  rw [HBL.out, HF.out] at hr ⊢
  have HR1 := Lib.hid hr
  have HO1 := Lib.hid ho
  clear hr ho
  go_wp2_with (at_make; refine wpList_make_full _ rfl _ _ 35 rfl w1.heap.size 5 i0 (.int .u8 0) 1 Try.underlying35 hi hz0 hz1 .i64 .i64 _ _ n rfl rfl rfl rfl (by rw [hz2]; omega) (by unfold maxLen; omega) (Nat.le_refl _) ?_)
  intro w2 hown hg
  have h2 := Only.grown (Only.refl (fun _ => False) w1) hg (by simp)
  have hr2 := HR1.out.only h2 (by simp) (by simp)
  have hc0 := hr2.is.cell 0
  have hc1 := hr2.is.cell 1
  have hf1 := hr2.is.free 1
  simp at hc0 hc1
  have HR2 := Lib.hid hr2
  have HOWN := Lib.hid hown
  have HG := Lib.hid hg
  have H2 := Lib.hid h2
  clear hr2 hown hg h2
  go_wp2
  have a0 : (8 * (i : Int)) / 8 = i := by omega
  have a1 : cap ≠ i := by omega
  have a2 : i ≤ L := by omega
  have a3 : i ≤ cap := by omega
  have a4 : IntKind.i64.wrap (i : Int) = i := IntWalk.i64_in _ (by omega)
  go_still_tail 11, (by kernel_rfl)
  obtain ⟨cur, hcur, hcl⟩ : ∃ cur : List Value, w2.heap[w1.heap.size]? = some (.cells cur.toArray 5 (0, 0)) ∧ cur.length = n := by
    rcases HOWN.out.2 with ⟨q, _⟩ | ⟨g', cap', cur, q, _, q2, _, _, q3, _⟩
    · simp at q
    · simp only [Value.slice.injEq, Option.some.injEq, Addr.mk.injEq, and_true, true_and] at q
      obtain ⟨rfl, rfl⟩ := q
      exact ⟨cur.toList, by simpa using q2, by simpa using q3⟩
  have hbel : Below w1.heap.size w1 w2.drew := ((Below.refl _ w1).grown HG.out (Nat.le_refl _) (by simp)).drew
  have hlen : (cellsOf ((bs.drop i).take n)).length = n := by rw [length_cellsOf, List.length_take, List.length_drop, HBL.out]; omega
  have hsrc : ∀ j v, (cellsOf ((bs.drop i).take n))[j]? = some v → w2.drew.cell? ((⟨g, i, none⟩ : Addr).add j) = some v := by
    intro j v hj
    have hjn : j < n := by
      have := (List.getElem?_eq_some_iff.1 hj).1
      omega
    have hrow := HR2.out.row.cells (g := g) rfl (i + j) v (by
      rw [← hj]
      simp only [cellsOf, List.getElem?_map, List.getElem?_take, List.getElem?_drop]
      rw [if_pos hjn])
    rw [add_plain, Nat.zero_add] at hrow
    rw [add_plain]
    exact hrow
  refine wpList_copy_splice rfl (.tmp 20) (.tmp 30) 35 35 rfl 5 Try.underlying35 Try.sizeU8 _ _ _ _ _ _ rfl rfl w1.heap.size 0 cur 5 hcur (cellsOf ((bs.drop i).take n)) (by rw [hlen]; exact (Nat.min_eq_right (by omega)).symm) (fun _ => ⟨rfl, _, rfl, hsrc⟩) (by omega) (cellsOf_one _) w1.heap.size w1 hbel (Nat.le_refl _) ?_
  intro w3 h3 hb3
  have hs3 : w3.heap[w1.heap.size]? = some (.cells (cellsOf ((bs.drop i).take n)).toArray 5 (0, 0)) := by
    rw [h3.out]
    simp [splice, hlen, hcl]
  have ho3 : Only (fun _ => False) w1 w3 := ⟨hb3.os, hb3.tape, hb3.output, hb3.size, fun k hk _ => hb3.block k hk⟩
  have hr3 := HR1.out.only ho3 (by simp) (by simp)
  have d1 := hr3.is.cell 1
  have df := hr3.is.free 1
  simp at d1
  have S3 := Lib.hid hs3
  have HL := Lib.hid hlen
  have O3 := Lib.hid ho3
  have R3 := Lib.hid hr3
  clear hcur hcl hbel hlen hsrc h3 hb3 hs3 ho3 hr3 hc0 hc1 hf1
  go_wp2
  go_ret
  have hlt : b < w1.heap.size := HR1.out.is.lt
  have ho4 : Only (fun k => k = b) w1 (w3.setCell ⟨b, 1, none⟩ (.int .i64 (8 * (i : Int) + 8 * n))) := (O3.out.mono (T := fun k => k = b) (by simp)).set (fun _ => rfl) _
  have e1 : 8 * (i : Int) + 8 * n = ((8 * i + 8 * n : Nat) : Int) := by omega
  have hbn : bytesAt bs (8 * i) n = (bs.drop i).take n := bytesAt_aligned bs i n (by rw [HBL.out]; omega) HR.out.bytes
  have hll : ((bs.drop i).take n).length = n := by have := HL.out; rwa [length_cellsOf] at this
  refine ⟨_, rfl, ?_, ?_, HO1.out.trans ho4 (fun _ _ x => x)⟩
  · rw [hbn, hll]
    refine ⟨by rw [length_cellsOf, hll, Nat.mul_one], .inr ⟨w1.heap.size, n, (cellsOf ((bs.drop i).take n)).toArray, rfl, HO1.out.size, ?_, Nat.le_refl _, by unfold maxLen; omega, by simpa using HL.out, ?_⟩⟩
    · rw [Below.heap_setCell _ _ _ _ (by show w1.heap.size ≠ b; omega)]
      exact S3.out
    · rw [Nat.mul_one]
      exact List.take_of_length_le (by rw [List.toList_toArray, HL.out]; exact Nat.le_refl _)
  · refine HR1.out.turn ho4 ?_ (by rw [HBL.out]; omega)
    rw [e1]
    exact Is.put R3.out.is 1 _

set_option maxRecDepth 100000 in
set_option maxHeartbeats 400000 in
theorem closure_is (b : Nat) (w : World) : Calls Try.prog 68 #[ptr b] w fun e w' => e = .returned (.func (.func 77) #[] #[ptr w.heap.size]) ∧ w.alloc (.cells #[ptr b] 110) = w' := by
  go_enter Try.func68, Try.ntmps68
  go_wp2
  go_ret
  exact ⟨rfl, rfl⟩

set_option maxRecDepth 100000 in
set_option maxHeartbeats 1000000 in
theorem bytes_amid (b p n : Nat) (bs : List Nat) (v : Value) (w : World) (h : Rdr w b bs p 0 v) (hn : p + 8 * n ≤ 8 * bs.length) (hp8 : p % 8 ≠ 0) :
    Calls Try.prog 58 #[ptr b, .int .i64 n] w (Gave w b bs (p + 8 * n) v (bytesAt bs p n)) := by
  have hsm := h.small
  have HR := Lib.hid h
  have hF := asked_zero (n := (n : Int)) (most := 9223372036854775807) (left := 8 * bs.length - p) (digits := 8) (by omega) (by omega) (by omega)
  have HF := Lib.hid hF
  obtain ⟨i0, hi, hz0, hz1, hz2⟩ := info_parts Try.infoU8
  clear h hF
  obtain ⟨g, cap, rfl, _, _⟩ := HR.out.row.form (by omega)
  generalize hbl : bs.length = L at *
  have HBL := Lib.hid hbl
  clear hbl
  have hb8 : ((p : Int) % 8 == 0) = false := by simp; omega
  go_enter Try.func58, Try.ntmps58
  go_wp2_with fail
  refine (grants_is b _ bs 0 n _ 8 _ w HR.out (by omega) (by omega)).mono ?_
  rintro e w1 ⟨rfl, hr, ho⟩
  rw [HBL.out, HF.out] at hr ⊢
  have HR1 := Lib.hid hr
  have HO1 := Lib.hid ho
  clear hr ho
  go_wp2_with (at_make; refine wpList_make_full _ rfl _ _ 35 rfl w1.heap.size 5 i0 (.int .u8 0) 1 Try.underlying35 hi hz0 hz1 .i64 .i64 _ _ n rfl rfl rfl rfl (by rw [hz2]; omega) (by unfold maxLen; omega) (Nat.le_refl _) ?_)
  intro w2 hown hg
  rw [madeU8] at hown
  have h2 := Only.grown (Only.refl (fun _ => False) w1) hg (by simp)
  have hr2 := HR1.out.only h2 (by simp) (by simp)
  have hc0 := hr2.is.cell 0
  have hc1 := hr2.is.cell 1
  simp at hc0 hc1
  have HR2 := Lib.hid hr2
  have HOWN := Lib.hid hown
  have H2 := Lib.hid h2
  clear hr2 hown hg h2
  go_wp2_with (go_at_call 68; refine (closure_is b _).mono ?_; rintro e w' ⟨rfl, rfl⟩)
  clear hc0 hc1
  go_loopw [46] (fun i wr => ∃ k : Nat, k ≤ n ∧ i = .int .i64 k ∧ Rdr wr b bs (p + 8 * k) 0 (.slice (some ⟨g, 0, none⟩) L cap) ∧ wr.ownsRow w1.heap.size 5 1 (.slice (some ⟨w1.heap.size, 0, none⟩) n n) n (cellsOf (bytesAt bs p k ++ List.replicate (n - k) 0)) ∧ Is wr w2.heap.size 110 #[ptr b] ∧ Only (fun k => k = b) w1 wr) (fun i _ => n - (intOf i).toNat)
  case atStart =>
    refine ⟨0, by omega, rfl, ?_, HOWN.out.alloc _, Is.made _ _ _, (H2.out.mono (by simp)).alloc _⟩
    exact HR2.out.only ((Only.refl (fun _ => False) w2).alloc _) (by simp) (by simp)
  case round =>
    obtain ⟨k, hk, rfl, hr, hown, hbx, ho⟩ := hrel
    by_cases hlt : k < n
    · have HR3 := Lib.hid hr
      have HW3 := Lib.hid hown
      have HX3 := Lib.hid hbx
      have HO3 := Lib.hid ho
      clear hr hown hbx ho
      have hbw : b < w1.heap.size := HR1.out.is.lt
      have hw12 : w1.heap.size ≤ w2.heap.size := H2.out.size
      go_wp2_with fail
      refine (next_is b w2.heap.size g 0 L cap 8 (p + 8 * k) 0 bs wr HX3.out HR3.out.is (HR3.out.apart g rfl) (by omega) HBL.out.symm ?_ HR3.out.bytes (by omega) (by omega) (by omega)).mono ?_
      · intro j hj
        have := HR3.out.row.cells (g := g) rfl j _ (cellsOf_get bs j hj)
        rw [add_plain] at this
        exact this
      rintro e w3 ⟨rfl, hi3, ho3⟩
      have hrd : Rdr w3 b bs (p + 8 * (k + 1)) 0 (.slice (some ⟨g, 0, none⟩) L cap) := by
        have e8 : p + 8 * (k + 1) = p + 8 * k + 8 := by omega
        rw [e8]
        exact HR3.out.turn ho3 hi3 (by rw [HBL.out]; omega)
      have hown3 : w3.ownsRow w1.heap.size 5 1 (.slice (some ⟨w1.heap.size, 0, none⟩) n n) n (cellsOf (bytesAt bs p k ++ List.replicate (n - k) 0)) := by
        refine ⟨HW3.out.1, ?_⟩
        rcases HW3.out.2 with q | ⟨g', cap', cur, q, q1, q2, q3⟩
        · exact .inl q
        · refine .inr ⟨g', cap', cur, q, q1, ?_, q3⟩
          rw [ho3.same g' (lt_of_heap q2) (by simp only [Value.slice.injEq, Option.some.injEq, Addr.mk.injEq] at q; omega)]
          exact q2
      have hlen : k < (cellsOf (bytesAt bs p k ++ List.replicate (n - k) 0)).length := by rw [length_cellsOf, List.length_append, bytesAt_length, List.length_replicate]; omega
      have hcell : w3.cell? ⟨w1.heap.size, k, none⟩ = some (.int .u8 0) := by
        rw [hown3.cellAt k (by omega)]
        simp [cellsOf, bytesAt_length, List.getElem?_append, List.getElem?_replicate]
        omega
      have hfree := hown3.frozenAt k
      have hnum := num_lt bs (p + 8 * k) 8
      have hwr : IntKind.u8.wrap ((num bs (p + 8 * k) 8 : Nat) : Int) = (num bs (p + 8 * k) 8 : Nat) := by
        rw [IntKind.wrap_u8']
        omega
      have HD := Lib.hid hrd
      have HW4 := Lib.hid hown3
      have HO4 := Lib.hid ho3
      have HX4 := Lib.hid (HX3.out.only ho3 (by omega))
      clear hi3 hrd hown3 hlen ho3 hnum
      go_wp2
      go_roundw
      case rel =>
        have hst := HW4.out.stored k (.int .u8 (num bs (p + 8 * k) 8 : Nat))
        have hset : (bytesAt bs p k ++ List.replicate (n - k) 0).set k (num bs (p + 8 * k) 8) = bytesAt bs p (k + 1) ++ List.replicate (n - (k + 1)) 0 := by
          rw [List.set_append_right _ _ (by rw [bytesAt_length]; exact Nat.le_refl _), bytesAt_length, Nat.sub_self]
          obtain ⟨m, hm⟩ : ∃ m, n - k = m + 1 := ⟨n - k - 1, by omega⟩
          have hm' : n - (k + 1) = m := by omega
          rw [hm, hm', List.replicate_succ, List.set_cons_zero, bytesAt, List.append_assoc]
          rfl
        have ho5 : Only (fun i => i = w1.heap.size) w3 (w3.setCell ⟨w1.heap.size, k, none⟩ (.int .u8 (num bs (p + 8 * k) 8 : Nat))) := (Only.refl (fun i => i = w1.heap.size) w3).set (fun _ => rfl) _
        refine ⟨k + 1, by omega, by go_num, HD.out.only ho5 (by omega) ?_, ?_, HX4.out.only ho5 ?_, ?_⟩
        · intro q hq
          have := (HR1.out.row.lt q hq).2
          omega
        · rw [← hset, cellsOf_set]
          exact hst.1
        · intro e
          have h1 := HX4.out
          rw [e] at h1
          obtain ⟨g', cap', q, _⟩ := HW4.out.form (by omega)
          rcases HW4.out.2 with ⟨q', _⟩ | ⟨g2, cap2, cur2, q', _, q2, _⟩
          · simp at q'
          · simp only [Value.slice.injEq, Option.some.injEq, Addr.mk.injEq, and_true, true_and] at q'
            obtain ⟨rfl, rfl⟩ := q'
            exact Is.apart (t := 5) (u := 110) q2 h1 (by decide) rfl
        · exact (HO3.out.trans HO4.out (fun _ _ x => x)).trans ho5 (fun q hq e => by omega)
      case measure => simp [intOf]; omega
    · have hkn : k = n := by omega
      subst hkn
      have HR3 := Lib.hid hr
      have HW3 := Lib.hid hown
      have HO3 := Lib.hid ho
      clear hr hown hbx ho
      go_wp2
      go_ret
      refine ⟨_, rfl, ?_, HR3.out, HO1.out.trans HO3.out (fun _ _ x => x)⟩
      have hq := HW3.out
      rw [Nat.sub_self, List.replicate_zero, List.append_nil] at hq
      rw [bytesAt_length]
      refine ⟨hq.1, ?_⟩
      rcases hq.2 with q | ⟨g', cap', cur, q, q1, q2⟩
      · exact .inl q
      · exact .inr ⟨g', cap', cur, q, Nat.le_trans HO1.out.size q1, q2⟩

set_option maxRecDepth 100000 in
set_option maxHeartbeats 1000000 in
theorem bytes_none (b i : Nat) (bs : List Nat) (v : Value) (w : World) (h : Rdr w b bs (8 * i) 0 v) :
    Calls Try.prog 58 #[ptr b, .int .i64 0] w (Gave w b bs (8 * i) v []) := by
  have hsm := h.small
  have hpl := h.place
  have HR := Lib.hid h
  have hF := asked_zero (n := (0 : Int)) (most := 9223372036854775807) (left := 8 * bs.length - 8 * i) (digits := 8) (by omega) (by omega) (by omega)
  have HF := Lib.hid hF
  obtain ⟨i0, hi, hz0, hz1, hz2⟩ := info_parts Try.infoU8
  clear h hF
  obtain ⟨A, cap, rfl, hcap⟩ := own_slice HR.out.row
  generalize hbl : bs.length = L at *
  have HBL := Lib.hid hbl
  clear hbl
  go_enter Try.func58, Try.ntmps58
  go_wp2_with fail
  refine (grants_is b _ bs 0 0 _ 8 _ w HR.out (by omega) (by omega)).mono ?_
  rintro e w1 ⟨rfl, hr, ho⟩
  rw [HBL.out, HF.out] at hr ⊢
  have HR1 := Lib.hid hr
  have HO1 := Lib.hid ho
  clear hr ho
  go_wp2_with (at_make; refine wpList_make_full _ rfl _ _ 35 rfl w1.heap.size 5 i0 (.int .u8 0) 1 Try.underlying35 hi hz0 hz1 .i64 .i64 _ _ 0 rfl rfl rfl rfl (by rw [hz2]; omega) (by unfold maxLen; omega) (Nat.le_refl _) ?_)
  intro w2 hown hg
  have h2 := Only.grown (Only.refl (fun _ => False) w1) hg (by simp)
  have hr2 := HR1.out.only h2 (by simp) (by simp)
  have hc0 := hr2.is.cell 0
  have hc1 := hr2.is.cell 1
  have hf1 := hr2.is.free 1
  simp at hc0 hc1
  have HR2 := Lib.hid hr2
  have HOWN := Lib.hid hown
  have H2 := Lib.hid h2
  clear hr2 hown hg h2
  have a0 : (8 * (i : Int)) / 8 = i := by omega
  have a2 : i ≤ L := by omega
  have a3 : i ≤ cap := by omega
  go_wp2
  have a4 : IntKind.i64.wrap (i : Int) = i := IntWalk.i64_in _ (by omega)
  go_still_tail 11, (by kernel_rfl)
  refine wpList_copy_nothing rfl (.tmp 20) (.tmp 30) 35 35 rfl 5 Try.underlying35 Try.sizeU8 _ _ _ _ _ _ rfl rfl (by simp) ?_
  clear a4
  have fin : ∀ w3 : World, w3 = w2.drew.setCell ⟨b, 1, none⟩ (.int .i64 (8 * (i : Int))) → Gave w b bs (8 * i) (.slice A L cap) [] (.returned (.slice (some ⟨w1.heap.size, 0, none⟩) 0 0)) w3 := by
    rintro w3 rfl
    have ho4 : Only (fun k => k = b) w1 (w2.drew.setCell ⟨b, 1, none⟩ (.int .i64 (8 * (i : Int)))) := (H2.out.drew.mono (T := fun k => k = b) (by simp)).set (fun _ => rfl) _
    have e1 : 8 * (i : Int) = ((8 * i : Nat) : Int) := by omega
    have hlt : b < w1.heap.size := HR1.out.is.lt
    refine ⟨_, rfl, ⟨rfl, ?_⟩, ?_, HO1.out.trans ho4 (fun _ _ x => x)⟩
    · rcases HOWN.out.2 with ⟨q, _⟩ | ⟨g', cap', cur, q, q1, q2, q3, q4, q5, _⟩
      · simp at q
      · simp only [Value.slice.injEq, Option.some.injEq, Addr.mk.injEq, and_true, true_and] at q
        obtain ⟨rfl, rfl⟩ := q
        refine .inr ⟨_, 0, cur, rfl, HO1.out.size, ?_, q3, q4, q5, rfl⟩
        rw [Below.heap_setCell _ _ _ _ (by show w1.heap.size ≠ b; omega)]
        exact q2
    · refine HR1.out.turn ho4 ?_ (by rw [HBL.out]; omega)
      rw [e1]
      exact Is.put (w := w2.drew) HR2.out.is 1 _
  have FIN := Lib.hid fin
  clear fin
  go_wp2
  all_goals
    go_ret
    first | (refine FIN.out _ ?_; rfl) | (obtain rfl : cap = i := (by assumption); refine FIN.out _ ?_; rfl)

/-- Bytes that are there are answered. -/
theorem bytes_ok (b p n : Nat) (bs : List Nat) (v : Value) (w : World) (h : Rdr w b bs p 0 v) (hn : p + 8 * n ≤ 8 * bs.length) :
    Calls Try.prog 58 #[ptr b, .int .i64 n] w (Gave w b bs (p + 8 * n) v (bytesAt bs p n)) := by
  by_cases h8 : p % 8 = 0
  · obtain ⟨i, rfl⟩ : ∃ i, p = 8 * i := ⟨p / 8, by omega⟩
    rcases Nat.eq_zero_or_pos n with rfl | hpos
    · exact bytes_none b i bs v w h
    · exact bytes_aligned b i n bs v w h (by omega) hpos
  · exact bytes_amid b p n bs v w h hn h8

end Go.Proofs.Ytefcimkopgcagaa
