/- ext.Put. Conditions: as each says. -/
import Derived.Test.YtcgfmjdlningpaaExB
import Derived.Test.YtcgfmjdlningpaaFill
import Derived.Test.YtcgfmjdlningpaaBase
set_option linter.unusedVariables false
namespace Go.Proofs.Ytcgfmjdlningpaa
open Go.RowKit

theorem Wr.pure {w w1 : World} {b B : Nat} {d bs : List Nat} {v : Value} (h : Wr w b d bs v B) (ho : Only (fun _ => False) w w1) : Wr w1 b d bs v B :=
  ⟨h.is.only ho (by simp), own_only h.row ho (by simp), h.wrote, h.base⟩
/-- What a writer's call leaves: blocks of other types. -/
def FarW (w w1 : World) : Prop := ∀ ob t cs, t ≠ 140 → t ≠ 5 → Is w ob t cs → Is w1 ob t cs
theorem FarW.is {w w1 : World} (h : FarW w w1) {ob : Nat} {t : TypeId} {cs : Array Value} (hi : Is w ob t cs) (h1 : t ≠ 140) (h2 : t ≠ 5) : Is w1 ob t cs := h ob t cs h1 h2 hi
theorem wr_far {w1 w2 : World} {b B ob : Nat} {d bs : List Nat} {v : Value} {t : TypeId} {cs : Array Value} (hi : Is w1 ob t cs) (hw : Wr w1 b d bs v B) (h1 : t ≠ 140) (h2 : t ≠ 5) (ho : Only (Mine b v) w1 w2) : Is w2 ob t cs :=
  hi.only ho (fun e => by
    rcases e with e | e
    · exact Is.apart hi hw.is h1 e
    · exact row_apart hi hw.row (fun e => h2 e.symm) e)
theorem farW_of {w1 w2 : World} {b B : Nat} {d bs : List Nat} {v : Value} (hw : Wr w1 b d bs v B) (ho : Only (Mine b v) w1 w2) : FarW w1 w2 := fun ob t cs h1 h2 hi => wr_far hi hw h1 h2 ho
theorem wr_new_only {w w1 w2 : World} {b B : Nat} {d bs : List Nat} {v : Value} (hw : Wr w1 b d bs v B) (h : Only (fun _ => False) w w1) (hB : w.heap.size ≤ B) (ho : Only (Mine b v) w1 w2) : Only (fun _ => False) w w2 :=
  h.trans ho (fun i hi e => by
    rcases e with rfl | e
    · have := hw.base; omega
    · have := (hw.row.lt i e).1; omega)
theorem xdigs8_inj (a b : Nat) (ha : a < 256) (hb : b < 256) (h : digs 8 a = digs 8 b) : a = b := by
  have h1 := congrArg val h
  rw [val_digs, val_digs] at h1
  have e8 : 2 ^ 8 = 256 := by decide
  rw [e8] at h1
  omega
theorem xD_inj : ∀ (a b : List Nat), (∀ x ∈ a, x < 256) → (∀ x ∈ b, x < 256) → D a = D b → a = b
  | [], [], _, _, _ => rfl
  | [], y :: b, _, _, h => by
    have := congrArg List.length h
    rw [D_length, D_length] at this
    simp at this
  | x :: a, [], _, _, h => by
    have := congrArg List.length h
    rw [D_length, D_length] at this
    simp at this
  | x :: a, y :: b, ha, hb, h => by
    rw [D_cons, D_cons] at h
    obtain ⟨h1, h2⟩ := List.append_inj h (by rw [digs_length, digs_length])
    rw [xdigs8_inj x y (ha x (by simp)) (hb y (by simp)) h1, xD_inj a b (fun z hz => ha z (by simp [hz])) (fun z hz => hb z (by simp [hz])) h2]
theorem wrote_is {bs xs : List Nat} (h : Wrote bs (D xs)) (hx : ∀ x ∈ xs, x < 256) : bs = xs := by
  refine xD_inj bs xs h.bytes hx ?_
  have hr := h.rows
  have hd := h.digits
  rw [D_length] at hr hd
  rw [hd, show 8 * bs.length - 8 * xs.length = 0 from by omega, List.replicate_zero, List.append_nil]
/-- An element's digits. -/
theorem el_digits (one : Bool) (x : El) (h : elOk one x = true) (hi : x.id < 256) : D (elEnc one x) = digs (fDig one) x.id ++ digs (fDig one) (x.data.length - fLeast one) ++ D x.data := by
  cases one
  · show D (x.id :: x.data.length :: x.data) = digs 8 x.id ++ digs 8 (x.data.length - 0) ++ D x.data
    rw [D_cons, D_cons, Nat.sub_zero, List.append_assoc]
  · have h2 : x.data.length - 1 < 16 := by
      unfold elOk at h
      simp at h
      omega
    show D ((x.id * 16 + (x.data.length - 1)) :: x.data) = digs 4 x.id ++ digs 4 (x.data.length - 1) ++ D x.data
    rw [D_cons]
    congr 1
    rw [show (8 : Nat) = 4 + 4 from rfl, digs_add, show (2 : Nat) ^ 4 = 16 from rfl, show (x.id * 16 + (x.data.length - 1)) / 16 = x.id from by omega]
    congr 1
    have e : ∀ m, m < 16 → digs 4 (x.id * 16 + m) = digs 4 m := by
      intro m hm
      simp only [digs]
      rw [show (x.id * 16 + m) / 2 ^ 3 % 2 = m / 2 ^ 3 % 2 from by omega, show (x.id * 16 + m) / 2 ^ 2 % 2 = m / 2 ^ 2 % 2 from by omega, show (x.id * 16 + m) / 2 ^ 1 % 2 = m / 2 ^ 1 % 2 from by omega, show (x.id * 16 + m) / 2 ^ 0 % 2 = m / 2 ^ 0 % 2 from by omega]
    exact e _ h2
theorem elsEnc_snoc (one : Bool) {l : List El} {k : Nat} {x : El} (h : l[k]? = some x) : elsEnc one (l.take (k + 1)) = elsEnc one (l.take k) ++ elEnc one x := by
  obtain ⟨hk, rfl⟩ := List.getElem?_eq_some_iff.1 h
  unfold elsEnc
  rw [List.take_succ_eq_append_getElem hk, List.flatMap_append]
  simp
theorem elsEnc_le (one : Bool) (l : List El) (k : Nat) : (elsEnc one (l.take k)).length ≤ (elsEnc one l).length := by
  have e : elsEnc one l = elsEnc one (l.take k) ++ elsEnc one (l.drop k) := by
    unfold elsEnc
    rw [← List.flatMap_append, List.take_append_drop]
  rw [e, List.length_append]
  omega
theorem elEnc_lt (one : Bool) (x : El) (h : elOk one x = true) (hi : x.id < 256) (hb : ∀ y ∈ x.data, y < 256) : ∀ y ∈ elEnc one x, y < 256 := by
  intro y hy
  unfold elOk at h
  cases one
  · simp at h
    unfold elEnc at hy
    simp at hy
    rcases hy with rfl | rfl | hy
    · exact hi
    · omega
    · exact hb y hy
  · simp at h
    unfold elEnc at hy
    simp at hy
    rcases hy with rfl | hy
    · omega
    · exact hb y hy
theorem exPut_lt (one : Bool) (l : List El) (h : l.all (elOk one) = true) (hf : ∀ x ∈ l, x.id < 256 ∧ ∀ y ∈ x.data, y < 256) : ∀ y ∈ exPut one l, y < 256 := by
  intro y hy
  unfold exPut at hy
  rcases List.mem_append.1 hy with hy | hy
  · unfold elsEnc at hy
    obtain ⟨x, hx, hy⟩ := List.mem_flatMap.1 hy
    exact elEnc_lt one x (List.all_eq_true.1 h x hx) (hf x hx).1 (hf x hx).2 y hy
  · rw [List.eq_of_mem_replicate hy]; decide
/-- What is answered of elements that are put. -/
def ExPutEnd (r : Nat) (out : List Nat) (w : World) (e : Ending) (w' : World) : Prop :=
  Only (fun _ => False) w w' ∧ ((r ≠ 0 ∧ e = .returned (.tuple #[.slice none 0 0, .int .i64 (r : Nat)])) ∨
    (r = 0 ∧ ∃ v, e = .returned (.tuple #[v, .int .i64 0]) ∧ w'.ownsRow w.heap.size 5 1 v out.length (cellsOf out)))

set_option maxRecDepth 100000 in
set_option maxHeartbeats 1000000 in
theorem exput_none (p : Nat) (v : Value) (w : World) (hv : ∃ A n c, v = .slice A n c) (hp : p < 65536) (hf : formB p = 0) :
    Calls Try.prog 35 #[.int .u16 p, v] w fun e w' => e = .returned (.tuple #[.slice none 0 0, .int .i64 30]) ∧ Only (fun _ => False) w w' := by
  obtain ⟨A, n, c, rfl⟩ := hv
  have HN := Lib.hid (fun w => formOf_none p w hp hf)
  have VF := Lib.hid zeroF_one
  clear hf
  go_enter Try.func35, Try.ntmps35
  go_wp2_with (first | (go_at_call 61; refine (HN.out _).mono ?_; rintro e w1 ⟨rfl, ho1⟩; have O1 := Lib.hid ho1; clear ho1) | (refine wpList_store_is rfl 104 _ _ rfl w1.heap.size zeroF rfl rfl 104 zeroF (Is.made _ _ zeroF) Try.sizeForm rfl VF.out ?_; intro w2 hi2 ho2))
  go_ret2
  exact ⟨rfl, only_more O1.out (only_made ho2)⟩
set_option maxRecDepth 100000 in
set_option maxHeartbeats 2000000 in
theorem exput_bad (p : Nat) (v : Value) (l : List El) (w : World) (hr : RdE w v l) (hp : p < 65536) (hf : formB p ≠ 0) (hx : ∀ x ∈ l, x.id < 256) (hl : l.length ≤ 1000000) (hb : ∀ x ∈ l, x.data.length ≤ 1000000) (hbad : l.all (elOk (formB p == 1)) = false) :
    Calls Try.prog 35 #[.int .u16 p, v] w fun e w' => e = .returned (.tuple #[.slice none 0 0, .int .i64 31]) ∧ Only (fun _ => False) w w' := by
  have HR := Lib.hid hr
  obtain ⟨A, c, rfl, -, -⟩ := hr
  have HN := Lib.hid (fun w => formOf_some p w hp hf)
  generalize (formB p == 1) = one at *
  have VF := Lib.hid (formC_one one)
  have HH := Lib.hid (fun w' (ho : Only (fun _ => False) w w') => holds_is one _ l w' (HR.out.only ho) hx hl hb)
  rw [hbad] at HH
  clear hf hx hb hbad hl
  generalize l.length = L at *
  go_enter Try.func35, Try.ntmps35
  go_wp2_with (first
    | (go_at_call 61; refine (HN.out _).mono ?_; rintro e w1 ⟨rfl, ho1⟩; have O1 := Lib.hid ho1; clear ho1)
    | (refine wpList_store_is rfl 104 _ _ rfl w1.heap.size (formC one) rfl rfl 104 zeroF (Is.made _ _ zeroF) Try.sizeForm rfl VF.out ?_; intro w2 hi2 ho2; have O2 := Lib.hid (only_more O1.out (only_made ho2)); have I2 := Lib.hid hi2; clear hi2 ho2)
    | (refine wpList_load_want rfl _ _ rfl w1.heap.size rfl _ _ _ I2.out Try.underlying104 rfl Try.sizeForm ?_)
    | (go_at_call 69; refine (HH.out _ O2.out).mono ?_; rintro e w4 ⟨rfl, ho4⟩; have O4 := Lib.hid (only_more O2.out ho4); clear ho4))
  go_ret2
  exact ⟨rfl, O4.out⟩
set_option maxRecDepth 100000 in
set_option maxHeartbeats 4000000 in
theorem exput_good (p : Nat) (v : Value) (l : List El) (w : World) (hr : RdE w v l) (hp : p < 65536) (hf : formB p ≠ 0) (hx : ∀ x ∈ l, x.id < 256 ∧ ∀ y ∈ x.data, y < 256) (hl : l.length ≤ 1000000) (hb : ∀ x ∈ l, x.data.length ≤ 1000000) (hall : l.all (elOk (formB p == 1)) = true) (ht : (elsEnc (formB p == 1) l).length ≤ 100000) :
    Calls Try.prog 35 #[.int .u16 p, v] w fun e w' => Only (fun _ => False) w w' ∧ ∃ v, e = .returned (.tuple #[v, .int .i64 0]) ∧ w'.ownsRow w.heap.size 5 1 v (exPut (formB p == 1) l).length (cellsOf (exPut (formB p == 1) l)) := by
  have HR := Lib.hid hr
  obtain ⟨A, c, rfl, hlc, hh⟩ := hr
  have HRC := Lib.hid hh
  have HN := Lib.hid (fun w => formOf_some p w hp hf)
  generalize (formB p == 1) = one at *
  have VF := Lib.hid (formC_one one)
  have HH := Lib.hid (fun w' (ho : Only (fun _ => False) w w') => holds_is one _ l w' (HR.out.only ho) (fun x h => (hx x h).1) hl hb)
  rw [hall] at HH
  have HX := Lib.hid hx
  have HBD := Lib.hid hb
  have HALL := Lib.hid (List.all_eq_true.1 hall)
  have HT := Lib.hid ht
  have HLT := Lib.hid (exPut_lt one l hall hx)
  have HFIN := Lib.hid (show ∀ bs, Wrote bs (D (elsEnc one l) ++ List.replicate (fill32 (D (elsEnc one l)).length) 0) → bs = exPut one l from by
    intro bs hw
    refine wrote_is ?_ (exPut_lt one l hall hx)
    unfold exPut
    rw [D_append, D_noughts]
    have e : fill32 (D (elsEnc one l)).length = 8 * noughts4 (elsEnc one l).length := by unfold fill32 noughts4; rw [D_length]; omega
    rw [← e]
    exact hw)
  obtain ⟨B, hB⟩ : ∃ n, w.heap.size = n := ⟨_, rfl⟩
  have HB := Lib.hid hB
  obtain ⟨L, hL⟩ : ∃ L, l.length = L := ⟨_, rfl⟩
  have HL := Lib.hid hL
  rw [hL] at hl hlc HH ⊢
  rw [hB]
  clear hf hx hb hall hh ht hB hL
  go_enter Try.func35, Try.ntmps35
  go_upto_region 7 with (first
    | (go_at_call 61; refine (HN.out _).mono ?_; rintro e w1 ⟨rfl, ho1⟩; have O1 := Lib.hid ho1; clear ho1)
    | (refine wpList_store_is rfl 104 _ _ rfl w1.heap.size (formC one) rfl rfl 104 zeroF (Is.made _ _ zeroF) Try.sizeForm rfl VF.out ?_; intro w2 hi2 ho2; have O2 := Lib.hid (only_more O1.out (only_made ho2)); have I2 := Lib.hid hi2; clear hi2 ho2)
    | (refine wpList_load_want rfl _ _ rfl w1.heap.size rfl _ _ _ I2.out Try.underlying104 rfl Try.sizeForm ?_)
    | (go_at_call 69; refine (HH.out _ O2.out).mono ?_; rintro e w4 ⟨rfl, ho4⟩; have O4 := Lib.hid (only_more O2.out ho4); have I4 := Lib.hid (I2.out.only ho4 (by simp)); clear ho4)
    | (go_at_call 70; refine (new_is _).mono ?_; rintro e w5 ⟨rfl, hw5⟩; have W5 := Lib.hid (show Wr w5 w4.heap.size [] [] (.slice none 0 0) B from by rw [← hw5]; exact wr_new w4 B (Nat.le_trans (Nat.le_of_eq HB.out.symm) O4.out.size)); have O5 := Lib.hid (show Only (fun _ => False) w w5 from by rw [← hw5]; exact O4.out.alloc _); have I5 := Lib.hid (show Is w5 w1.heap.size 104 (formC one) from by rw [← hw5]; exact I4.out.alloc _); clear hw5))
  generalize w4.heap.size = wb at *
  generalize w1.heap.size = fb at *
  have HDI := Lib.hid (show fDig one = 4 ∨ fDig one = 8 from by cases one <;> simp [fDig])
  have HDIG := Lib.hid (fun x h hi => el_digits one x h hi)
  have HLE := Lib.hid (show ∀ x : El, elOk one x = true → fLeast one ≤ x.data.length from fun x h => by unfold elOk at h; cases one <;> simp [fLeast] at h ⊢; omega)
  have IFC := Lib.hid (show Is w5 fb 104 #[.int .u8 (fLast one : Nat), .int .i64 (fLeast one : Nat), .int .i64 (fMost one : Nat), .int .i64 (fDig one : Nat), fFn one] from I5.out)
  have hle1 : fLeast one ≤ 1 := by cases one <;> decide
  have hdi8 : fDig one ≤ 8 := by cases one <;> decide
  clear I2 I4 I5 VF HH HN
  generalize fLast one = la at *
  generalize fLeast one = le at *
  generalize fMost one = mo at *
  generalize fDig one = di at *
  generalize fFn one = fv at *
  have HCL := Lib.hid (show clamp (di : Int) = di from by unfold clamp; have := HDI.out; omega)
  go_wp2
  go_loopw [25] (fun s25 wr => ∃ (k : Nat) (bs : List Nat) (vv : Value), k ≤ L ∧ s25 = .int .i64 k ∧ Wr wr wb (D (elsEnc one (l.take k))) bs vv B ∧ Is wr fb 104 #[.int .u8 (la : Nat), .int .i64 (le : Nat), .int .i64 (mo : Nat), .int .i64 (di : Nat), fv] ∧ Only (fun _ => False) w wr) (fun s25 _ => L - (intOf s25).toNat)
  case atStart => exact ⟨0, [], _, by omega, rfl, W5.out, IFC.out, O5.out⟩
  case round =>
    obtain ⟨k, bs0, v0, hk, rfl, hwr, hif, ho⟩ := hrel
    have W1 := Lib.hid hwr
    have IF1 := Lib.hid hif
    have O1 := Lib.hid ho
    clear hwr hif ho
    by_cases hkl : k < L
    · have hkb : k < l.length := by rw [HL.out]; exact hkl
      obtain ⟨x, hx⟩ : ∃ x, l[k]? = some x := ⟨_, List.getElem?_eq_getElem hkb⟩
      obtain ⟨g, o, rfl, hcell⟩ := HRC.out (by rw [HL.out]; omega)
      obtain ⟨u, hu1, hu2⟩ := hcell k x hx
      have hm := List.mem_of_getElem? hx
      have HXI := Lib.hid (HX.out x hm).1
      have HXB := Lib.hid (HX.out x hm).2
      have HXL := Lib.hid (HBD.out x hm)
      have HOK := Lib.hid (HALL.out x hm)
      have HSN := Lib.hid (show elsEnc one (l.take (k + 1)) = elsEnc one (l.take k) ++ elEnc one x from elsEnc_snoc one hx)
      have HLE1 := Lib.hid (elsEnc_le one l k)
      obtain ⟨d, hd⟩ : ∃ d, D (elsEnc one (l.take k)) = d := ⟨_, rfl⟩
      have HDL := Lib.hid (show d.length ≤ 800000 from by rw [← hd, D_length]; have := HLE1.out; have := HT.out; omega)
      have HD8 := Lib.hid (show d.length % 8 = 0 from by rw [← hd, D_length]; omega)
      have hid := HXI.out
      have hdl := HXL.out
      have hle := HLE.out x HOK.out
      obtain ⟨m, hm0⟩ : ∃ m, x.data.length - le = m := ⟨_, rfl⟩
      have HML := Lib.hid (show m ≤ 1000000 from by omega)
      have HNX := Lib.hid (show D (elsEnc one (l.take (k + 1))) = d ++ digs di x.id ++ digs di m ++ D x.data from by rw [HSN.out, D_append, hd, HDIG.out x HOK.out HXI.out, hm0]; simp only [List.append_assoc])
      rw [hd] at W1
      have e1 : IntKind.i64.wrap ((x.data.length : Int) - (le : Int)) = (m : Int) := by rw [IntWalk.i64_in _ (by omega)]; omega
      have e2 : IntKind.u64.wrap (m : Int) = (m : Int) := by rw [IntKind.wrap_u64]; omega
      have e3 : IntKind.u64.wrap (x.id : Int) = (x.id : Int) := by rw [IntKind.wrap_u64]; omega
      obtain ⟨q0, q1⟩ := hu1.only O1.out
      have SU := Lib.hid hu2
      obtain ⟨Au, cu, rfl⟩ := hu2.slice
      have hkI : (k : Int) < (L : Int) := by omega
      clear hcell hu1 hu2 hx hm hkb hd hm0
      have V1 := Lib.hid (show (#[.int .u8 (x.id : Nat), .slice Au x.data.length cu] : Array Value).all (·.oneCell') = true from by simp [Value.oneCell'])
      go_upto_region 10 with (refine wpList_store_is rfl 50 _ _ rfl wr.heap.size #[.int .u8 (x.id : Nat), .slice Au x.data.length cu] rfl rfl 50 zeroE (Is.made _ _ zeroE) Try.sizeEl rfl V1.out ?_; intro w2 hi2 ho2)
      have I2 := Lib.hid hi2
      have O2 := Lib.hid (only_more O1.out (only_made ho2))
      have IF2 := Lib.hid (IF1.out.only (only_made ho2) (by simp))
      have W2 := Lib.hid (W1.out.pure (only_made ho2))
      generalize wr.heap.size = ep at *
      clear hi2 ho2 q0 q1
      refine wp_region_posts [[], [], [1], [2, 1], [], [4], [0, 3, 5, 2, 1, 4], [], [7], [8, 7], [], [10], [9, 11, 8, 7, 10], [12, 9, 11, 8, 7, 10], [], [14], [6, 13, 15, 0, 3, 5, 2, 1, 4, 12, 9, 11, 8, 7, 10, 14], [], [17], [18, 17], [16, 19, 6, 13, 15, 0, 3, 5, 2, 1, 4, 12, 9, 11, 8, 7, 10, 14, 18, 17]] [6, 16, 19, 20] [6, 16, 19, 20, 21] [[], [], [], [], [], [], [21], [], [], [], [], [], [], [], [], [], [6, 21], [], [], [], [6, 16, 19, 21]] [[], [], [], [], [], [], [21], [], [], [], [], [], [], [], [], [], [6], [], [], [], [16, 19]] [20] [] [] [21]
          [some ?v0, some ?v1, some ?v2, some ?v3, some ?v4, some ?v5, some (.pointer (some ⟨wb, 0, none⟩)), some ?v7, some ?v8, some ?v9, some ?v10, some ?v11, some ?v12, some ?v13, some ?v14, some ?v15, some (.pointer (some ⟨wb, 0, none⟩)), some ?v17, some ?v18, none, some (.pointer (some ⟨wb, 0, none⟩))]
          ?T (fun wx => Is wx fb 104 #[.int .u8 (la : Nat), .int .i64 (le : Nat), .int .i64 (mo : Nat), .int .i64 (di : Nat), fv] ∧ Is wx ep 50 #[.int .u8 (x.id : Nat), .slice Au x.data.length cu] ∧ Only (fun _ => False) w wx) ?W ?E (by kernel_rfl) (by kernel_rfl) (by kernel_rfl) (fun y => ?hT) ?hF ?hini (Reg.all_ops ?runs) ?pres ?fin
      case W => exact fun j y w' => match j with | 21 => ∃ bs v, Wr w' wb (d) bs v B | 6 => ∃ bs v, Wr w' wb (d ++ digs di x.id) bs v B | 16 => ∃ bs v, Wr w' wb (d ++ digs di x.id ++ digs di m) bs v B | 19 => ∃ lb, y 19 = .slice (some ⟨lb, 0, none⟩) 1 1 ∧ Is w' lb 22 #[.slice Au x.data.length cu] | 20 => ∃ bs v, Wr w' wb (d ++ digs di x.id ++ digs di m ++ D x.data) bs v B | _ => True
      case E => exact fun i w' w'' => match i with | 19 => Only (fun _ => False) w' w'' | _ => FarW w' w''
      case hT =>
        simp only [Reg.fillV, Act.put, List.setIfInBounds_toArray, List.set_cons_zero, List.set_cons_succ]
        rfl
      case runs =>
        refine And.intro ?_ ?_
        · refine Reg.ob_pure (fun _ => rfl) rfl rfl rfl rfl (fun y w1 hF => ?_)
          obtain ⟨hFF, hE, hO⟩ := hF
          have f3 := hFF.cell 3
          have f1 := hFF.cell 1
          have c0 := hE.cell 0
          have c1 := hE.cell 1
          simp at f3 f1 c0 c1
          go_simp
          with_reducible rfl
        refine And.intro ?_ ?_
        · refine Reg.ob_pure (fun _ => rfl) rfl rfl rfl rfl (fun y w1 hF => ?_)
          obtain ⟨hFF, hE, hO⟩ := hF
          have f3 := hFF.cell 3
          have f1 := hFF.cell 1
          have c0 := hE.cell 0
          have c1 := hE.cell 1
          simp at f3 f1 c0 c1
          go_simp
          with_reducible rfl
        refine And.intro ?_ ?_
        · refine Reg.ob_pure (fun _ => rfl) rfl rfl rfl rfl (fun y w1 hF => ?_)
          obtain ⟨hFF, hE, hO⟩ := hF
          have f3 := hFF.cell 3
          have f1 := hFF.cell 1
          have c0 := hE.cell 0
          have c1 := hE.cell 1
          simp at f3 f1 c0 c1
          go_simp
          with_reducible rfl
        refine And.intro ?_ ?_
        · refine Reg.ob_pure (fun _ => rfl) rfl rfl rfl rfl (fun y w1 hF => ?_)
          obtain ⟨hFF, hE, hO⟩ := hF
          have f3 := hFF.cell 3
          have f1 := hFF.cell 1
          have c0 := hE.cell 0
          have c1 := hE.cell 1
          simp at f3 f1 c0 c1
          go_simp
          with_reducible rfl
        refine And.intro ?_ ?_
        · refine Reg.ob_pure (fun _ => rfl) rfl rfl rfl rfl (fun y w1 hF => ?_)
          obtain ⟨hFF, hE, hO⟩ := hF
          have f3 := hFF.cell 3
          have f1 := hFF.cell 1
          have c0 := hE.cell 0
          have c1 := hE.cell 1
          simp at f3 f1 c0 c1
          go_simp
          with_reducible rfl
        refine And.intro ?_ ?_
        · refine Reg.ob_pure (fun _ => rfl) rfl rfl rfl rfl (fun y w1 hF => ?_)
          obtain ⟨hFF, hE, hO⟩ := hF
          have f3 := hFF.cell 3
          have f1 := hFF.cell 1
          have c0 := hE.cell 0
          have c1 := hE.cell 1
          simp at f3 f1 c0 c1
          go_simp
          with_reducible rfl
        refine And.intro ?_ ?_
        · refine Reg.ob_told (fun _ => rfl) rfl (fun y w1 hF hU K hK => ?_)
          obtain ⟨hFF, hE, hO⟩ := hF rfl
          obtain ⟨⟨bs, v, hw⟩, -⟩ := hU
          have hw : Wr w1 wb d bs v B := hw
          go_simp
          refine (put_is wb B x.id _ d bs v w1 hw (Nat.le_trans (Nat.le_of_eq HB.out.symm) hO.size) (by have := HXI.out; omega) (by have := HDL.out; omega)).mono ?_
          rintro e w3 ⟨rfl, bs', v', hw', -, ho⟩
          rw [HCL.out] at hw'
          exact hK w3 (fun _ _ _ => ⟨wr_far hFF hw (by decide) (by decide) ho, wr_far hE hw (by decide) (by decide) ho, wr_new_only hw hO (Nat.le_of_eq HB.out) ho⟩) (farW_of hw ho) ⟨bs', v', hw'⟩
        refine And.intro ?_ ?_
        · refine Reg.ob_pure (fun _ => rfl) rfl rfl rfl rfl (fun y w1 hF => ?_)
          obtain ⟨hFF, hE, hO⟩ := hF
          have f3 := hFF.cell 3
          have f1 := hFF.cell 1
          have c0 := hE.cell 0
          have c1 := hE.cell 1
          simp at f3 f1 c0 c1
          go_simp
          with_reducible rfl
        refine And.intro ?_ ?_
        · refine Reg.ob_pure (fun _ => rfl) rfl rfl rfl rfl (fun y w1 hF => ?_)
          obtain ⟨hFF, hE, hO⟩ := hF
          have f3 := hFF.cell 3
          have f1 := hFF.cell 1
          have c0 := hE.cell 0
          have c1 := hE.cell 1
          simp at f3 f1 c0 c1
          go_simp
          with_reducible rfl
        refine And.intro ?_ ?_
        · refine Reg.ob_pure (fun _ => rfl) rfl rfl rfl rfl (fun y w1 hF => ?_)
          obtain ⟨hFF, hE, hO⟩ := hF
          have f3 := hFF.cell 3
          have f1 := hFF.cell 1
          have c0 := hE.cell 0
          have c1 := hE.cell 1
          simp at f3 f1 c0 c1
          go_simp
          with_reducible rfl
        refine And.intro ?_ ?_
        · refine Reg.ob_pure (fun _ => rfl) rfl rfl rfl rfl (fun y w1 hF => ?_)
          obtain ⟨hFF, hE, hO⟩ := hF
          have f3 := hFF.cell 3
          have f1 := hFF.cell 1
          have c0 := hE.cell 0
          have c1 := hE.cell 1
          simp at f3 f1 c0 c1
          go_simp
          with_reducible rfl
        refine And.intro ?_ ?_
        · refine Reg.ob_pure (fun _ => rfl) rfl rfl rfl rfl (fun y w1 hF => ?_)
          obtain ⟨hFF, hE, hO⟩ := hF
          have f3 := hFF.cell 3
          have f1 := hFF.cell 1
          have c0 := hE.cell 0
          have c1 := hE.cell 1
          simp at f3 f1 c0 c1
          go_simp
          with_reducible rfl
        refine And.intro ?_ ?_
        · refine Reg.ob_pure (fun _ => rfl) rfl rfl rfl rfl (fun y w1 hF => ?_)
          obtain ⟨hFF, hE, hO⟩ := hF
          have f3 := hFF.cell 3
          have f1 := hFF.cell 1
          have c0 := hE.cell 0
          have c1 := hE.cell 1
          simp at f3 f1 c0 c1
          go_simp
          with_reducible rfl
        refine And.intro ?_ ?_
        · refine Reg.ob_pure (fun _ => rfl) rfl rfl rfl rfl (fun y w1 hF => ?_)
          obtain ⟨hFF, hE, hO⟩ := hF
          have f3 := hFF.cell 3
          have f1 := hFF.cell 1
          have c0 := hE.cell 0
          have c1 := hE.cell 1
          simp at f3 f1 c0 c1
          go_simp
          with_reducible rfl
        refine And.intro ?_ ?_
        · refine Reg.ob_pure (fun _ => rfl) rfl rfl rfl rfl (fun y w1 hF => ?_)
          obtain ⟨hFF, hE, hO⟩ := hF
          have f3 := hFF.cell 3
          have f1 := hFF.cell 1
          have c0 := hE.cell 0
          have c1 := hE.cell 1
          simp at f3 f1 c0 c1
          go_simp
          with_reducible rfl
        refine And.intro ?_ ?_
        · refine Reg.ob_pure (fun _ => rfl) rfl rfl rfl rfl (fun y w1 hF => ?_)
          obtain ⟨hFF, hE, hO⟩ := hF
          have f3 := hFF.cell 3
          have f1 := hFF.cell 1
          have c0 := hE.cell 0
          have c1 := hE.cell 1
          simp at f3 f1 c0 c1
          go_simp
          with_reducible rfl
        refine And.intro ?_ ?_
        · refine Reg.ob_told (fun _ => rfl) rfl (fun y w1 hF hU K hK => ?_)
          obtain ⟨hFF, hE, hO⟩ := hF rfl
          obtain ⟨⟨bs, v, hw⟩, -⟩ := hU
          have hw : Wr w1 wb (d ++ digs di x.id) bs v B := hw
          go_simp
          refine (put_is wb B m _ _ bs v w1 hw (Nat.le_trans (Nat.le_of_eq HB.out.symm) hO.size) (by have := HML.out; omega) (by have := HDL.out; simp only [List.length_append, digs_length]; omega)).mono ?_
          rintro e w3 ⟨rfl, bs', v', hw', -, ho⟩
          rw [HCL.out] at hw'
          exact hK w3 (fun _ _ _ => ⟨wr_far hFF hw (by decide) (by decide) ho, wr_far hE hw (by decide) (by decide) ho, wr_new_only hw hO (Nat.le_of_eq HB.out) ho⟩) (farW_of hw ho) ⟨bs', v', hw'⟩
        refine And.intro ?_ ?_
        · refine Reg.ob_pure (fun _ => rfl) rfl rfl rfl rfl (fun y w1 hF => ?_)
          obtain ⟨hFF, hE, hO⟩ := hF
          have f3 := hFF.cell 3
          have f1 := hFF.cell 1
          have c0 := hE.cell 0
          have c1 := hE.cell 1
          simp at f3 f1 c0 c1
          go_simp
          with_reducible rfl
        refine And.intro ?_ ?_
        · refine Reg.ob_pure (fun _ => rfl) rfl rfl rfl rfl (fun y w1 hF => ?_)
          obtain ⟨hFF, hE, hO⟩ := hF
          have f3 := hFF.cell 3
          have f1 := hFF.cell 1
          have c0 := hE.cell 0
          have c1 := hE.cell 1
          simp at f3 f1 c0 c1
          go_simp
          with_reducible rfl
        refine And.intro ?_ ?_
        · refine Reg.ob_some (fun _ => rfl) rfl (fun y w1 hF hU K hK => ?_)
          obtain ⟨hFF, hE, hO⟩ := hF rfl
          have c1 := hE.cell 1
          simp at c1
          go_simp
          exact hK _ _ (fun _ _ _ => ⟨hFF.only ((Only.refl (fun _ => False) w1).alloc _) (by simp), hE.only ((Only.refl (fun _ => False) w1).alloc _) (by simp), only_more hO ((Only.refl _ w1).alloc _)⟩) ((Only.refl _ w1).alloc _) ⟨_, rfl, Is.made w1 _ _⟩
        refine And.intro ?_ ?_
        · refine Reg.ob_told (fun _ => rfl) rfl (fun y w1 hF hU K hK => ?_)
          obtain ⟨hFF, hE, hO⟩ := hF rfl
          obtain ⟨⟨bs, v, hw⟩, ⟨lb, h19, hIl⟩, -⟩ := hU
          have hw : Wr w1 wb (d ++ digs di x.id ++ digs di m) bs v B := hw
          have h19 : y 19 = .slice (some ⟨lb, 0, none⟩) 1 1 := h19
          have hlc := hIl.cell 0
          simp at hlc
          revert hK
          simp only [Nat.reduceAdd, h19]
          intro hK
          go_simp
          have hd2 : (d ++ digs di x.id ++ digs di m).length = d.length + di + di := by simp only [List.length_append, digs_length]
          refine (wbytes_one wb B lb 1 (d ++ digs di x.id ++ digs di m) bs x.data v _ w1 hw (by rw [hd2]; have := HD8.out; have := HDI.out; omega) (Nat.le_trans (Nat.le_of_eq HB.out.symm) hO.size) hlc (SU.out.only hO (by simp)) HXB.out (by rw [hd2]; have := HDL.out; omega) (by have := HXL.out; omega)).mono ?_
          rintro e w3 ⟨rfl, bs', v', hw', ho⟩
          exact hK w3 (fun _ _ _ => ⟨wr_far hFF hw (by decide) (by decide) ho, wr_far hE hw (by decide) (by decide) ho, wr_new_only hw hO (Nat.le_of_eq HB.out) ho⟩) (farW_of hw ho) ⟨bs', v', hw'⟩
        exact trivial
      case hF =>
        exact ⟨IF2.out.only ((Only.refl (fun _ => False) _).drewN 1) (by simp), I2.out.only ((Only.refl (fun _ => False) _).drewN 1) (by simp), O2.out.drewN 1⟩
      case hini =>
        exact ⟨fun y => ⟨_, _, W2.out.pure ((Only.refl (fun _ => False) _).drewN 1)⟩, trivial⟩
      case pres =>
        intro i hi j hj hc y w1 w2 hF hE hW
        simp only [List.mem_cons, List.mem_nil_iff, or_false] at hi hj
        rcases hi with rfl | rfl | rfl | rfl <;> rcases hj with rfl | rfl | rfl | rfl | rfl
        all_goals first
          | (exfalso; revert hc; decide)
          | (obtain ⟨bs, v, hw⟩ := hW; exact ⟨bs, v, Wr.pure hw hE⟩)
          | (obtain ⟨lb, h19, hIl⟩ := hW; exact ⟨lb, h19, FarW.is hE hIl (by decide) (by decide)⟩)
      case fin =>
        rintro y w5 hF ⟨⟨bs5, v5, hw5⟩, -⟩
        obtain ⟨hFF, hE, hO⟩ := hF rfl
        have hw5 : Wr w5 wb (d ++ digs di x.id ++ digs di m ++ D x.data) bs5 v5 B := hw5
        have HW5 := Lib.hid hw5
        have HF5 := Lib.hid hFF
        have HO5 := Lib.hid hO
        clear hw5 hFF hE hO
        go_wp2_with fail
        go_roundw
        case rel => exact ⟨k + 1, bs5, v5, by omega, by go_num, by rw [HNX.out]; exact HW5.out, HF5.out, HO5.out⟩
        case measure => simp [intOf]; omega

    · obtain rfl : k = L := by omega
      have hfull : l.take k = l := List.take_of_length_le (by rw [HL.out]; exact Nat.le_refl _)
      rw [hfull] at W1
      have HFI := Lib.hid (fill_is wb B _ bs0 v0 wr W1.out (by rw [D_length]; omega) (Nat.le_trans (Nat.le_of_eq HB.out.symm) O1.out.size) (by rw [D_length]; have := HT.out; omega))
      have HDN := Lib.hid (show (D (elsEnc one l)).length ≤ 800000 from by rw [D_length]; have := HT.out; omega)
      clear hfull
      go_wp2_with (first
        | (go_at_call 73; refine HFI.out.mono ?_; rintro e w6 ⟨rfl, bs6, v6, hw6, ho6⟩; have W6 := Lib.hid hw6; have O6 := Lib.hid (wr_new_only W1.out O1.out (Nat.le_of_eq HB.out) ho6); have HO6 := Lib.hid (out_is wb B B _ bs6 v6 w6 hw6 (Nat.le_trans (Nat.le_of_eq HB.out.symm) (wr_new_only W1.out O1.out (Nat.le_of_eq HB.out) ho6).size) (by rw [List.length_append, List.length_replicate]; have := HDN.out; unfold fill32; omega)); clear hw6 ho6)
        | (go_at_call 74; refine HO6.out.mono ?_; rintro e w7 ⟨v7, rfl, hv7, ho7, -⟩; have OV := Lib.hid hv7; have O7 := Lib.hid (only_more O6.out ho7); clear hv7 ho7))
      go_ret2
      refine ⟨O7.out, v7, rfl, ?_⟩
      have h1 := OV.out
      rw [length_cellsOf, HFIN.out bs6 W6.out.wrote] at h1
      exact h1
theorem exput_any (p : Nat) (v : Value) (l : List El) (w : World) (hr : RdE w v l) (hp : p < 65536) (hx : ∀ x ∈ l, x.id < 256 ∧ ∀ y ∈ x.data, y < 256) (hl : l.length ≤ 1000000) (hb : ∀ x ∈ l, x.data.length ≤ 1000000) (ht : putErr p l = 0 → (elsEnc (formB p == 1) l).length ≤ 100000) :
    Calls Try.prog 35 #[.int .u16 p, v] w (ExPutEnd (putErr p l) (exPut (formB p == 1) l) w) := by
  by_cases hf : formB p = 0
  · have e : putErr p l = 30 := by unfold putErr; rw [if_pos hf]
    obtain ⟨A, c, h, -⟩ := hr
    refine (exput_none p v w ⟨A, _, c, h⟩ hp hf).mono ?_
    rintro e' w' ⟨rfl, ho⟩
    rw [e]
    exact ⟨ho, .inl ⟨by decide, rfl⟩⟩
  · by_cases ha : l.all (elOk (formB p == 1)) = true
    · have e : putErr p l = 0 := by unfold putErr; rw [if_neg hf, if_pos ha]
      refine (exput_good p v l w hr hp hf hx hl hb ha (ht e)).mono ?_
      rintro e' w' ⟨ho, u, rfl, hu⟩
      rw [e]
      exact ⟨ho, .inr ⟨rfl, u, rfl, hu⟩⟩
    · have e : putErr p l = 31 := by unfold putErr; rw [if_neg hf, if_neg ha]
      refine (exput_bad p v l w hr hp hf (fun x h => (hx x h).1) hl hb (by simpa using ha)).mono ?_
      rintro e' w' ⟨rfl, ho⟩
      rw [e]
      exact ⟨ho, .inl ⟨by decide, rfl⟩⟩
end Go.Proofs.Ytcgfmjdlningpaa
