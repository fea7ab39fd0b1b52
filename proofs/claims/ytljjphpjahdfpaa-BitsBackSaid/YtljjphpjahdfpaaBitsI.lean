/- The chapter's examples, as the statements' own function works has them: it answers true, and writes nothing that was there. Conditions: none. -/
import Derived.Test.YtljjphpjahdfpaaBitsH
set_option linter.unusedVariables false
namespace Go.Proofs.Ytljjphpjahdfpaa
open Go.RowKit

theorem digs8_inj (a b : Nat) (ha : a < 256) (hb : b < 256) (h : digs 8 a = digs 8 b) : a = b := by
  have h1 := congrArg val h
  rw [val_digs, val_digs] at h1
  have e8 : 2 ^ 8 = 256 := by decide
  rw [e8] at h1
  omega
theorem D_inj : ∀ (a b : List Nat), (∀ x ∈ a, x < 256) → (∀ x ∈ b, x < 256) → D a = D b → a = b
  | [], [], _, _, _ => rfl
  | [], y :: b, _, _, h => by
    have := congrArg List.length h
    rw [D_length, D_length] at this
    simp at this
  | x :: a, [], _, _, h => by
    have := congrArg List.length h
    rw [D_length, D_length] at this
    simp at this
  | x :: a, y :: b, ha, hb, h => by
    rw [D_cons, D_cons] at h
    obtain ⟨h1, h2⟩ := List.append_inj h (by rw [digs_length, digs_length])
    rw [digs8_inj x y (ha x (by simp)) (hb y (by simp)) h1, D_inj a b (fun z hz => ha z (by simp [hz])) (fun z hz => hb z (by simp [hz])) h2]
/-- Digits make the same bytes. -/
theorem Wrote.unique {a b d : List Nat} (h : Wrote a d) (k : Wrote b d) : a = b := by
  refine D_inj a b h.bytes k.bytes ?_
  rw [h.digits, k.digits, h.rows, k.rows]

/-- A reader, and another one's calls. -/
theorem Rdr.far {w w1 : World} {b b' p p' : Nat} {bs bs' : List Nat} {f f' : Int} {v v' : Value} (h : Rdr w b bs p f v) (h' : Rdr w b' bs' p' f' v') (hne : b ≠ b') (ho : Only (fun k => k = b') w w1) : Rdr w1 b bs p f v := by
  refine h.only ho hne ?_
  intro k hk e
  subst e
  rcases h.row.2 with ⟨rfl, _⟩ | ⟨g, cap, cur, rfl, _, q2, _⟩
  · simp [Value.ownBlock] at hk
  · have : g = k := by simpa [Value.ownBlock] using hk
    subst this
    exact Is.apart (t := 5) (u := 59) q2 h'.is (by decide) rfl

theorem only_at {w w1 w2 : World} {b : Nat} (h : Only (fun _ => False) w w1) (hb : w.heap.size ≤ b) (ho : Only (fun k => k = b) w1 w2) : Only (fun _ => False) w w2 :=
  h.trans ho (fun i hi e => by omega)
theorem only_more {w w1 w2 : World} (h : Only (fun _ => False) w w1) (ho : Only (fun _ => False) w1 w2) : Only (fun _ => False) w w2 := h.trans ho (fun _ _ e => e)

/-- Of bytes that a literal laid just now. -/
theorem src_lit (w : World) (bs : List Nat) : Src (w.alloc (.cells (cellsOf bs).toArray 5)) (.slice (some ⟨w.heap.size, 0, none⟩) bs.length bs.length) bs := by
  refine .inr ⟨_, bs.length, rfl, Nat.le_refl _, fun j u hu => ?_⟩
  rw [add_plain, Nat.zero_add]
  have := (Is.made w 5 (cellsOf bs).toArray).cell j
  rw [this]
  simpa using hu

/-- What Of makes is a reader. -/
theorem rdr_of {w : World} {b B : Nat} {bs : List Nat} {u : Value} (hi : Is w b 59 #[u, .int .i64 0, .int .i64 0]) (ho : w.ownsRow B 5 1 u bs.length (cellsOf bs)) (hb : ∀ x ∈ bs, x < 256) (hs : bs.length ≤ 140737488355328) : Rdr w b bs 0 0 u := by
  refine ⟨hi, ⟨ho.1, ?_⟩, hb, hs, by omega⟩
  rcases ho.2 with q | ⟨g, cap, cur, q, _, q2⟩
  · exact .inl q
  · exact .inr ⟨g, cap, cur, q, Nat.zero_le _, q2⟩

/-- Numbers that a literal laid just now. -/
theorem rd_lit (w : World) (t : TypeId) (k : IntKind) (zs : List Int) : Rd k (w.alloc (.cells (zs.map (Value.int k)).toArray t)) (.slice (some ⟨w.heap.size, 0, none⟩) zs.length zs.length) zs := by
  refine ⟨_, zs.length, rfl, Nat.le_refl _, fun _ => ⟨w.heap.size, 0, rfl, fun j hj => ?_⟩⟩
  rw [Nat.zero_add, (Is.made w t _).cell j]
  simp [hj]

set_option maxHeartbeats 2000000 in
theorem works_is (w : World) : Calls Try.prog 6 #[] w fun e w' => e = .returned (.bool true) ∧ Only (fun _ => False) w w' := by
  go_enter Try.func6, Try.ntmps6
  go_wp2_with fail
  refine (new_is w).mono ?_
  rintro e w1 ⟨rfl, hw1⟩
  have hwr := wr_new w w.heap.size (Nat.le_refl _)
  have o1 : Only (fun _ => False) w w1 := hw1 ▸ (Only.refl _ w).alloc _
  rw [hw1] at hwr
  clear hw1
  have s1 := o1.size
  have HWR := Lib.hid hwr
  have O1 := Lib.hid o1
  clear hwr o1
  go_wp2_with fail
  refine (put_is _ _ 2 2 _ _ _ w1 HWR.out s1 (by decide) (by decide)).mono ?_
  rintro e w2 ⟨rfl, bs2, v2, hw2, _, ho2⟩
  have HW2 := Lib.hid hw2
  have O2 := Lib.hid (only_new HWR.out O1.out (Nat.le_refl _) ho2)
  have s2 := O2.out.size
  clear hw2 ho2
  go_wp2_with fail
  refine (wflag_is _ _ true _ _ _ w2 HW2.out s2 (by decide)).mono ?_
  rintro e w3 ⟨rfl, bs3, v3, hw3, _, ho3⟩
  have HW3 := Lib.hid hw3
  have O3 := Lib.hid (only_new HW2.out O2.out (Nat.le_refl _) ho3)
  have s3 := O3.out.size
  clear hw3 ho3
  go_wp2_with fail
  refine (put_is _ _ 5 5 _ _ _ w3 HW3.out s3 (by decide) (by decide)).mono ?_
  rintro e w4 ⟨rfl, bs4, v4, hw4, _, ho4⟩
  have O4 := Lib.hid (only_new HW3.out O3.out (Nat.le_refl _) ho4)
  have s4 := O4.out.size
  have e4 : bs4 = [165] := hw4.wrote.unique ⟨by decide, by decide, by decide⟩
  subst e4
  have HW4 := Lib.hid hw4
  clear hw4 ho4
  go_wp2_with fail
  refine (out_is _ _ w.heap.size _ _ _ w4 HW4.out s4 (by decide)).mono ?_
  rintro e w5 ⟨va, rfl, hva, ho5, _⟩
  have HVA := Lib.hid (Src.of_own (bs := [165]) hva)
  have O5 := Lib.hid (only_more O4.out ho5)
  have s5 := O5.out.size
  clear hva ho5
  go_wp2_with fail
  refine (of_src _ [165, 15] _ w.heap.size (by simp; omega) (src_lit w5 [165, 15]) (by decide)).mono ?_
  rintro e w6 ⟨r, vr, rfl, hr, hri, hro, _, ho6⟩
  have RR := Lib.hid (rdr_of hri hro (by decide) (by decide))
  have O6 := Lib.hid (only_more (O5.out.alloc _) ho6)
  have V6 := Lib.hid (HVA.out.only (((Only.refl (fun _ => False) w5).alloc _).trans ho6 (fun _ _ e => e)) (by simp))
  have s6 := O6.out.size
  have hr' : w5.heap.size < r := by simp at hr; omega
  clear hri hro ho6 hr
  go_wp2_with fail
  refine (of_src _ [165] _ w.heap.size (by simp; omega) (src_lit w6 [165]) (by decide)).mono ?_
  rintro e w7 ⟨s, vs, rfl, hs, hsi, hso, _, ho7⟩
  have SS := Lib.hid (rdr_of hsi hso (by decide) (by decide))
  have c7 := ((Only.refl (fun _ => False) w6).alloc _).trans ho7 (fun _ _ e => e)
  have R7 := Lib.hid (RR.out.only c7 (by simp) (by simp))
  have V7 := Lib.hid (V6.out.only c7 (by simp))
  have O7 := Lib.hid (only_more O6.out c7)
  have s7 := O7.out.size
  have hlr : r < w6.heap.size := RR.out.is.lt
  have hrs : s ≠ r := by simp at hs; omega
  have hsw : w.heap.size ≤ s := by simp at hs; omega
  clear hsi hso ho7 c7 hs
  go_wp2_with fail
  refine (same_is _ _ [165] [165] _ (V7.out.only ((Only.refl (fun _ => False) w7).alloc _) (by simp)) (src_lit w7 [165]) (by decide)).mono ?_
  rintro e w8 ⟨rfl, n8, rfl⟩
  have c8 := ((Only.refl (fun _ => False) w7).alloc (.cells (cellsOf [165]).toArray 5)).drewN n8
  have R8 := Lib.hid (R7.out.only c8 (by simp) (by simp))
  have S8 := Lib.hid (SS.out.only c8 (by simp) (by simp))
  have O8 := Lib.hid (only_more O7.out c8)
  clear c8
  go_wp2_with fail
  refine (take_ok r 0 2 [165, 15] vr _ R8.out (by decide) (by decide)).mono ?_
  rintro e w9 ⟨rfl, hr9, ho9⟩
  have R9 := Lib.hid hr9
  have S9 := Lib.hid (S8.out.far R8.out hrs ho9)
  have O9 := Lib.hid (only_at O8.out (by omega) ho9)
  clear hr9 ho9
  rw [show num [165, 15] 0 2 = 2 from by decide]
  go_wp2_with fail
  refine (flag_ok r 2 [165, 15] vr _ R9.out (by decide)).mono ?_
  rintro e w10 ⟨rfl, hr10, ho10⟩
  have R10 := Lib.hid hr10
  have S10 := Lib.hid (S9.out.far R9.out hrs ho10)
  have O10 := Lib.hid (only_at O9.out (by omega) ho10)
  clear hr10 ho10
  rw [show (num [165, 15] 2 1 == 1) = true from by decide]
  go_wp2_with fail
  refine (take_ok r 3 5 [165, 15] vr _ R10.out (by decide) (by decide)).mono ?_
  rintro e w11 ⟨rfl, hr11, ho11⟩
  have R11 := Lib.hid hr11
  have S11 := Lib.hid (S10.out.far R10.out hrs ho11)
  have O11 := Lib.hid (only_at O10.out (by omega) ho11)
  clear hr11 ho11
  rw [show num [165, 15] 3 5 = 5 from by decide]
  go_wp2_with fail
  refine (bytes_ok r 8 1 [165, 15] vr _ R11.out (by decide)).mono ?_
  rintro e w12 ⟨vb, rfl, hvb, hr12, ho12⟩
  have R12 := Lib.hid hr12
  have S12 := Lib.hid (S11.out.far R11.out hrs ho12)
  have O12 := Lib.hid (only_at O11.out (by omega) ho12)
  have V12 := Lib.hid (Src.of_own hvb)
  clear hvb hr12 ho12
  go_wp2_with fail
  refine (same_is _ _ [15] [15] _ (V12.out.only ((Only.refl (fun _ => False) w12).alloc _) (by simp)) (src_lit w12 [15]) (by decide)).mono ?_
  rintro e w13 ⟨rfl, n13, rfl⟩
  have c13 := ((Only.refl (fun _ => False) w12).alloc (.cells (cellsOf [15]).toArray 5)).drewN n13
  have R13 := Lib.hid (R12.out.only c13 (by simp) (by simp))
  have S13 := Lib.hid (S12.out.only c13 (by simp) (by simp))
  have O13 := Lib.hid (only_more O12.out c13)
  clear c13
  go_wp2_with fail
  refine (err_rdr r _ [165, 15] 0 vr _ R13.out).mono ?_
  rintro e w' ⟨rfl, rfl⟩
  go_wp2_with fail
  refine (take_ok s 0 4 [165] vs _ S13.out (by decide) (by decide)).mono ?_
  rintro e w14 ⟨rfl, hs14, ho14⟩
  have S14 := Lib.hid hs14
  have O14 := Lib.hid (only_at O13.out hsw ho14)
  clear hs14 ho14
  rw [show num [165] 0 4 = 10 from by decide]
  go_wp2_with fail
  refine (take_fail s 4 [165] 0 5 10 vs _ S14.out (by decide) (by decide)).mono ?_
  rintro e w15 ⟨rfl, hs15, ho15⟩
  have S15 := Lib.hid hs15
  have O15 := Lib.hid (only_at O14.out hsw ho15)
  clear hs15 ho15
  go_wp2_with fail
  refine (left_rdr s 4 [165] 10 vs _ S15.out).mono ?_
  rintro e w16 ⟨rfl, n16, rfl⟩
  go_wp2_with fail
  refine (err_rdr s 4 [165] 10 vs _ (S15.out.drewN n16)).mono ?_
  rintro e w' ⟨rfl, rfl⟩
  have O16 := Lib.hid (O15.out.drewN n16)
  have s16 := O15.out.size
  go_wp2_with fail
  refine (pack_is 4 _ [1, 2, 3] _ w.heap.size (by simp; omega) (rd_lit (w15.drewN n16) 28 .u64 [1, 2, 3]) (by decide) (by decide)).mono ?_
  rintro e w17 ⟨bs17, hwt, vp, rfl, hvp, ho17, _⟩
  have e17 : bs17 = [18, 48] := hwt.unique ⟨by decide, by decide, by decide⟩
  subst e17
  have V17 := Lib.hid (Src.of_own (bs := [18, 48]) hvp)
  have O17 := Lib.hid (only_more (O16.out.alloc _) ho17)
  clear hvp ho17 hwt
  go_wp2_with fail
  refine (same_is _ _ [18, 48] [18, 48] _ (V17.out.only ((Only.refl (fun _ => False) w17).alloc _) (by simp)) (src_lit w17 [18, 48]) (by decide)).mono ?_
  rintro e w18 ⟨rfl, n18, rfl⟩
  have O18 := Lib.hid ((O17.out.alloc (.cells (cellsOf [18, 48]).toArray 5)).drewN n18)
  go_wp2
  go_ret
  exact ⟨rfl, O18.out⟩

/-- The statement's short calls write nothing that was there. -/
theorem works_below (w : World) : Calls Try.prog 6 #[] w fun e w' => e = .returned (.bool true) ∧ Below w.heap.size w w' :=
  (works_is w).mono fun _ _ h => ⟨h.1, h.2.below (by simp) (Nat.le_refl _)⟩
end Go.Proofs.Ytljjphpjahdfpaa
