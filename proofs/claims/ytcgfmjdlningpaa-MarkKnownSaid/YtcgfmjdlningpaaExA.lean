/- ext: rows of elements; forms (formOf, holds, Known). Conditions: as each says. -/
import Derived.Test.YtcgfmjdlningpaaExP
import Derived.Test.YtcgfmjdlningpaaBase
import Derived.Deep.DeepCutAuto
import Derived.Outline
set_option linter.unusedVariables false
namespace Go.Proofs.Ytcgfmjdlningpaa
open Go.RowKit

theorem only_made {w w1 : World} {o : Obj} (h : Only (fun k => k = w.heap.size) (w.alloc o) w1) : Only (fun _ => False) w w1 :=
  ((Only.refl _ w).alloc o).trans h (fun i hi e => by omega)
def El.lst (x : El) (v : Value) : List Value := [.int .u8 (x.id : Nat), v]
theorem el_len (l : List El) (vs : List Value) : ∀ xs ∈ List.zipWith El.lst l vs, xs.length = 2 := by
  intro xs hx
  obtain ⟨i, hi⟩ := List.getElem?_of_mem hx
  rw [List.getElem?_zipWith] at hi
  split at hi
  · injection hi with hi; subst hi; rfl
  · cases hi
/-- Elements in a row that is owned, their data too. -/
structure Els (w : World) (B : Nat) (T : TypeId) (v : Value) (vs : List Value) (l : List El) : Prop where
  row : OwnS w B T 2 v (List.zipWith El.lst l vs)
  bods : Bods w B vs (l.map El.data)
section
variable {w w1 : World} {B : Nat} {T : TypeId} {v : Value} {vs : List Value} {l : List El}
theorem Els.len (h : Els w B T v vs l) : vs.length = l.length := by simpa using h.bods.len
theorem Els.zip (h : Els w B T v vs l) : (List.zipWith El.lst l vs).length = l.length := by rw [List.length_zipWith, h.len, Nat.min_self]
theorem Els.nil (w : World) (B : Nat) (T : TypeId) : Els w B T (.slice none 0 0) [] [] := ⟨OwnS.nil w B T 2, Bods.nil w B⟩
theorem Els.slice (h : Els w B T v vs l) : ∃ A c, v = .slice A l.length c ∧ l.length ≤ c := by
  have := h.row.slice
  rwa [h.zip] at this
theorem Els.pure (h : Els w B T v vs l) (ho : Only (fun _ => False) w w1) : Els w1 B T v vs l := ⟨h.row.only ho (by simp), h.bods.pure ho⟩
theorem ezip_snoc (hl : vs.length = l.length) (x : El) (u : Value) : List.zipWith El.lst (l ++ [x]) (vs ++ [u]) = List.zipWith El.lst l vs ++ [x.lst u] := by
  rw [List.zipWith_append (by omega)]
  rfl
theorem Els.get (h : Els w B T v vs l) (i : Nat) (hi : i < l.length) : ∃ x u, l[i]? = some x ∧ vs[i]? = some u ∧ (List.zipWith El.lst l vs)[i]? = some (x.lst u) ∧ w.ownsRow B 5 1 u x.data.length (cellsOf x.data) := by
  have hv : i < vs.length := by rw [h.len]; exact hi
  have e1 : l[i]? = some l[i] := List.getElem?_eq_getElem hi
  have e2 : vs[i]? = some vs[i] := List.getElem?_eq_getElem hv
  exact ⟨_, _, e1, e2, by rw [List.getElem?_zipWith, e1, e2], h.bods.own i _ _ e2 (by rw [List.getElem?_map, e1]; rfl)⟩
end
/-- An element's cells, where they lie. -/
def ECells (w : World) (g o i : Nat) (x : El) (u : Value) : Prop :=
  w.cell? ⟨g, o + i * 2, none⟩ = some (.int .u8 (x.id : Nat)) ∧ w.cell? ⟨g, o + i * 2 + 1, none⟩ = some u
theorem ECells.only {w w1 : World} {g o i : Nat} {x : El} {u : Value} (h : ECells w g o i x u) (ho : Only (fun _ => False) w w1) : ECells w1 g o i x u := by
  obtain ⟨h0, h1⟩ := h
  exact ⟨(ho.cell (World.block_lt_of_cell? w _ h0) (by simp)).trans h0, (ho.cell (World.block_lt_of_cell? w _ h1) (by simp)).trans h1⟩
/-- Elements that can be read. -/
def RdE (w : World) (v : Value) (l : List El) : Prop :=
  ∃ A c, v = .slice A l.length c ∧ l.length ≤ c ∧ (0 < l.length → ∃ g o, A = some ⟨g, o, none⟩ ∧ ∀ (i : Nat) (x : El), l[i]? = some x → ∃ u, ECells w g o i x u ∧ Src w u x.data)
theorem RdE.only {w w1 : World} {v : Value} {l : List El} (h : RdE w v l) (ho : Only (fun _ => False) w w1) : RdE w1 v l := by
  obtain ⟨A, c, rfl, hc, hh⟩ := h
  refine ⟨A, c, rfl, hc, fun hp => ?_⟩
  obtain ⟨g, o, rfl, hi⟩ := hh hp
  exact ⟨g, o, rfl, fun i x hx => by obtain ⟨u, h1, h2⟩ := hi i x hx; exact ⟨u, h1.only ho, h2.of_only ho⟩⟩
theorem Els.rd {w : World} {B : Nat} {T : TypeId} {v : Value} {vs : List Value} {l : List El} (h : Els w B T v vs l) : RdE w v l := by
  rcases Nat.eq_zero_or_pos l.length with h0 | hpos
  · obtain ⟨A, c, rfl, hc⟩ := h.slice
    exact ⟨A, c, rfl, hc, fun hp => by omega⟩
  · obtain ⟨g, c, rfl, hc, hg, hB, hcell⟩ := h.row.at_ (by rw [h.zip]; exact hpos)
    refine ⟨some ⟨g, 0, none⟩, c, by rw [h.zip], by rw [h.zip] at hc; exact hc, fun _ => ⟨g, 0, rfl, fun i x hi => ?_⟩⟩
    have hil : i < l.length := (List.getElem?_eq_some_iff.1 hi).1
    obtain ⟨x', u, e1, e2, e3, hu⟩ := h.get i hil
    rw [hi] at e1
    injection e1 with e1
    subst e1
    refine ⟨u, ⟨?_, ?_⟩, Src.of_own hu⟩
    · have := hcell i 0 _ e3 (by decide); simpa [El.lst] using this
    · have := hcell i 1 _ e3 (by decide); simpa [El.lst] using this

/-- The cells of a form, and of none. -/
def fLast (one : Bool) : Nat := if one then 14 else 255
def fLeast (one : Bool) : Nat := if one then 1 else 0
def fMost (one : Bool) : Nat := if one then 16 else 255
def fDig (one : Bool) : Nat := if one then 4 else 8
def fFn (one : Bool) : Value := if one then .func (.func 90) #[] #[] else .func (.func 91) #[] #[]
def formC (one : Bool) : Array Value := #[.int .u8 (fLast one : Nat), .int .i64 (fLeast one : Nat), .int .i64 (fMost one : Nat), .int .i64 (fDig one : Nat), fFn one]
def zeroF : Array Value := #[.int .u8 0, .int .i64 0, .int .i64 0, .int .i64 0, .nilFunc]
def zeroE : Array Value := #[.int .u8 0, .slice none 0 0]
theorem Try.sizeForm : (Try.prog.info? 104).map (·.size) = some 5 := by kernel_rfl
theorem Try.sizeEl : (Try.prog.info? 50).map (·.size) = some 2 := by kernel_rfl
/-- What is answered of a struct and a number. -/
theorem res_cell {P : Program} {fn : Func} {p q : Tmp} {ty : TypeId} (h : fn.results = #[.cell p ty, .tmp q]) (tmps : Array Value) (w : World) (g : Nat) (t : TypeId) (cs : Array Value) (d : TypeDesc) (x : Value)
    (hp : tmps.getD p undef = .pointer (some ⟨g, 0, none⟩)) (hq : tmps.getD q undef = x) (hg : Is w g t cs)
    (hu : P.underlying ty = some d) (hd : (match d with | .struct _ | .array _ _ => true | _ => false) = true) (hi : (P.info? ty).map (·.size) = some cs.size) :
    (results fn tmps).run P w = .ok (.tuple #[.agg cs, x]) w := by
  have hp' : tmps[p]?.getD undef = .pointer (some ⟨g, 0, none⟩) := by simpa using hp
  have hq' : tmps[q]?.getD undef = x := by simpa using hq
  simp [results, h, hp', hq', asAddr, run_loadVar_row w g t ty cs (0, 0) d hg hu hd hi]
theorem u16_andNot15 (p : Nat) (h : p < 65536) : bits .andNot .u16 (p : Int) 15 = ((p / 16 * 16 : Nat) : Int) := by
  have h1 := u16_andNot (p : Int) 15 (by omega) (by omega) (by omega) (by omega)
  rw [h1, Int.toNat_natCast]
  congr 1
  show p &&& (65535 - 15) = p / 16 * 16
  have e : (65535 - 15 : Nat) = 4095 * 16 := by decide
  apply Nat.eq_of_testBit_eq
  intro i
  rw [e, Nat.testBit_and]
  have h2 : (4095 * 16).testBit i = (decide (4 ≤ i) && decide (i < 16)) := by
    by_cases hi : i < 16
    · have : ∀ j : Fin 16, (4095 * 16).testBit j.val = (decide (4 ≤ j.val) && decide (j.val < 16)) := by decide
      exact this ⟨i, hi⟩
    · rw [Nat.testBit_lt_two_pow (show 4095 * 16 < 2 ^ i from Nat.lt_of_lt_of_le (by decide : 4095 * 16 < 2 ^ 16) (Nat.pow_le_pow_right (by decide) (by omega)))]
      simp [hi]
  have h3 : (p / 16 * 16).testBit i = (decide (4 ≤ i) && p.testBit i) := by
    have e1 : p / 16 * 16 = (p >>> 4) <<< 4 := by rw [Nat.shiftLeft_eq, Nat.shiftRight_eq_div_pow]
    rw [e1, Nat.testBit_shiftLeft, Nat.testBit_shiftRight]
    by_cases hi : 4 ≤ i
    · simp [hi, show 4 + (i - 4) = i by omega]
    · simp [hi]
  rw [h2, h3]
  by_cases hi : i < 16
  · simp [hi, Bool.and_comm]
  · rw [Nat.testBit_lt_two_pow (show p < 2 ^ i from Nat.lt_of_lt_of_le (show p < 2 ^ 16 from h) (Nat.pow_le_pow_right (by decide) (by omega)))]
    simp

set_option maxRecDepth 100000 in
set_option maxHeartbeats 1000000 in
theorem formOf_some (p : Nat) (w : World) (hp : p < 65536) (hf : formB p ≠ 0) :
    Calls Try.prog 61 #[.int .u16 p] w fun e w' => e = .returned (.tuple #[.agg (formC (formB p == 1)), .bool true]) ∧ Only (fun _ => False) w w' := by
  by_cases h1 : p = 48862
  · subst h1
    go_enter Try.func61, Try.ntmps61
    go_wp2_with (refine wpList_store_is rfl 104 _ _ rfl w.heap.size (formC true) rfl rfl 104 zeroF (Is.made _ _ zeroF) Try.sizeForm rfl (by simp [formC, fFn, Value.oneCell']) ?_; intro w2 hi2 ho2)
    exact bodyPost_ret (res_cell Try.results61 _ w2 w.heap.size 104 (formC true) _ (.bool true) rfl rfl hi2 Try.underlying104 rfl Try.sizeForm) rfl ⟨rfl, only_made ho2⟩
  · have h2 : 4096 ≤ p ∧ p ≤ 4111 := by
      unfold formB at hf
      rw [if_neg h1] at hf
      by_cases h : 4096 ≤ p ∧ p ≤ 4111
      · exact h
      · rw [if_neg h] at hf; exact absurd rfl hf
    have hv : formB p = 2 := by unfold formB; rw [if_neg h1, if_pos h2]
    have ea := u16_andNot15 p hp
    have e16 : p / 16 * 16 = 4096 := by omega
    rw [e16] at ea
    have e1 : ((p : Int) == 48862) = false := by simp; omega
    rw [hv]
    clear hf hv h1 h2 e16
    go_enter Try.func61, Try.ntmps61
    go_wp2_with (refine wpList_store_is rfl 104 _ _ rfl w.heap.size (formC false) rfl rfl 104 zeroF (Is.made _ _ zeroF) Try.sizeForm rfl (by simp [formC, fFn, Value.oneCell']) ?_; intro w2 hi2 ho2)
    exact bodyPost_ret (res_cell Try.results61 _ w2 w.heap.size 104 (formC false) _ (.bool true) rfl rfl hi2 Try.underlying104 rfl Try.sizeForm) rfl ⟨rfl, only_made ho2⟩
set_option maxRecDepth 100000 in
set_option maxHeartbeats 1000000 in
theorem formOf_none (p : Nat) (w : World) (hp : p < 65536) (hf : formB p = 0) :
    Calls Try.prog 61 #[.int .u16 p] w fun e w' => e = .returned (.tuple #[.agg zeroF, .bool false]) ∧ Only (fun _ => False) w w' := by
  have h1 : ¬ p = 48862 := by intro h; subst h; exact absurd hf (by decide)
  have h2 : ¬ (4096 ≤ p ∧ p ≤ 4111) := by
    intro h
    unfold formB at hf
    rw [if_neg h1, if_pos h] at hf
    cases hf
  have ea := u16_andNot15 p hp
  have e1 : ((p : Int) == 48862) = false := by simp; omega
  have e2 : (((p / 16 * 16 : Nat) : Int) == 4096) = false := by simp; omega
  generalize p / 16 * 16 = y at *
  clear hf h1 h2
  go_enter Try.func61, Try.ntmps61
  go_wp2_with (refine wpList_store_is rfl 104 _ _ rfl w.heap.size (zeroF) rfl rfl 104 zeroF (Is.made _ _ zeroF) Try.sizeForm rfl (by simp [zeroF, Value.oneCell']) ?_; intro w2 hi2 ho2)
  exact bodyPost_ret (res_cell Try.results61 _ w2 w.heap.size 104 (zeroF) _ (.bool false) rfl rfl hi2 Try.underlying104 rfl Try.sizeForm) rfl ⟨rfl, only_made ho2⟩

/-- May a form of these bounds hold an element? -/
def heldBy (la le mo : Nat) (x : El) : Bool := !(decide (x.id < 1) || decide (la < x.id) || decide (x.data.length < le) || decide (mo < x.data.length))
theorem held_ok (one : Bool) (x : El) (h : x.id < 256) : heldBy (if one then 14 else 255) (if one then 1 else 0) (if one then 16 else 255) x = elOk one x := by
  unfold heldBy elOk
  generalize x.data.length = n
  generalize x.id = i at *
  rw [Bool.eq_iff_iff]
  cases one
  · simp; omega
  · simp; omega
set_option maxRecDepth 100000 in
set_option maxHeartbeats 2000000 in
theorem holds_gen (la le mo di : Nat) (fv : Value) (v : Value) (l : List El) (w : World) (hr : RdE w v l) (hf : ∀ x ∈ l, x.id < 256) (hl : l.length ≤ 1000000) (hb : ∀ x ∈ l, x.data.length ≤ 1000000) (hla : la < 256) (hle : le < 256) (hmo : mo < 256) (hfv : fv.oneCell' = true) :
    Calls Try.prog 69 #[.agg #[.int .u8 la, .int .i64 le, .int .i64 mo, .int .i64 di, fv], v] w fun e w' => e = .returned (.bool (l.all (heldBy la le mo))) ∧ Only (fun _ => False) w w' := by
  obtain ⟨A, c, rfl, hlc, hh⟩ := hr
  have HF := Lib.hid hf
  have HB := Lib.hid hb
  have HH := Lib.hid hh
  obtain ⟨L, hL⟩ : ∃ L, l.length = L := ⟨_, rfl⟩
  have HL := Lib.hid hL
  rw [hL] at hl hlc ⊢
  clear hf hb hL hh
  go_enter Try.func69, Try.ntmps69
  go_wp2
  obtain ⟨fb, hfb⟩ : ∃ b, w.heap.size = b := ⟨_, rfl⟩
  generalize hw0 : w.alloc _ = w0
  have IF := Lib.hid (show Is w0 fb 104 #[.int .u8 la, .int .i64 le, .int .i64 mo, .int .i64 di, fv] from by rw [← hw0, ← hfb]; exact Is.made _ _ _)
  have O0 := Lib.hid (show Only (fun _ => False) w w0 from by rw [← hw0]; exact (Only.refl _ w).alloc _)
  try rw [hfb]
  clear hw0 hfb
  go_loopw [10] (fun s10 wr => ∃ k : Nat, k ≤ L ∧ s10 = .int .i64 k ∧ (l.drop k).all (heldBy la le mo) = l.all (heldBy la le mo) ∧ Only (fun _ => False) w0 wr) (fun s10 _ => L - (intOf s10).toNat)
  case atStart => exact ⟨0, by omega, rfl, rfl, Only.refl _ _⟩
  case round =>
    obtain ⟨k, hk, rfl, hall, ho⟩ := hrel
    have HALL := Lib.hid hall
    have O1 := Lib.hid ho
    clear hall ho
    by_cases hkl : k < L
    · have hkb : k < l.length := by rw [HL.out]; exact hkl
      obtain ⟨x, hx⟩ : ∃ x, l[k]? = some x := ⟨_, List.getElem?_eq_getElem hkb⟩
      obtain ⟨g, o, rfl, hcell⟩ := HH.out (by rw [HL.out]; omega)
      obtain ⟨u, hu1, hu2⟩ := hcell k x hx
      have hm := List.mem_of_getElem? hx
      have hid := HF.out x hm
      have hdl := HB.out x hm
      have HDR := Lib.hid (show l.drop k = x :: l.drop (k + 1) from by
        obtain ⟨hk', rfl⟩ := List.getElem?_eq_some_iff.1 hx
        exact List.drop_eq_getElem_cons hk')
      obtain ⟨q0, q1⟩ := hu1.only (only_more O0.out O1.out)
      obtain ⟨Au, cu, rfl⟩ := hu2.slice
      have hkI : (k : Int) < (L : Int) := by omega
      have HJ := Lib.hid (show l.all (heldBy la le mo) = (heldBy la le mo x && (l.drop (k + 1)).all (heldBy la le mo)) from by rw [← HALL.out, HDR.out]; rfl)
      clear hcell hu1 hu2 hx hm hkb
      have V1 := Lib.hid (show (#[.int .u8 (x.id : Nat), .slice Au x.data.length cu] : Array Value).all (·.oneCell') = true from by simp [Value.oneCell'])
      go_upto_region 4 with (refine wpList_store_is rfl 50 _ _ rfl wr.heap.size #[.int .u8 (x.id : Nat), .slice Au x.data.length cu] rfl rfl 50 zeroE (Is.made _ _ zeroE) Try.sizeEl rfl V1.out ?_; intro w2 hi2 ho2)
      have I2 := Lib.hid hi2
      have O2 := Lib.hid (only_made ho2)
      have IF2 := Lib.hid (IF.out.only (only_more O1.out O2.out) (by simp))
      generalize wr.heap.size = pb at *
      clear hi2 ho2 q0 q1
      have c0 := I2.out.cell 0
      have c1 := I2.out.cell 1
      simp at c0 c1
      have f0 := IF2.out.cell 0
      have f1 := IF2.out.cell 1
      have f2 := IF2.out.cell 2
      simp at f0 f1 f2
      have HX := Lib.hid (show heldBy la le mo x = !(decide (x.id < 1) || decide (la < x.id) || decide (x.data.length < le) || decide (mo < x.data.length)) from rfl)
      generalize x.id = id at *
      generalize x.data.length = dl at *
      have fin : heldBy la le mo x = false → ∀ w3, w2 = w3 → Ending.returned (.bool false) = Ending.returned (.bool (l.all (heldBy la le mo))) ∧ Only (fun _ => False) w w3 := by
        rintro h w3 rfl
        exact ⟨by rw [HJ.out, h]; rfl, only_more O0.out (only_more O1.out O2.out)⟩
      have FIN := Lib.hid fin
      clear fin
      by_cases h1 : id < 1
      · have h1' : (id : Int) < 1 := by omega
        have HZ := Lib.hid (show heldBy la le mo x = false from by rw [HX.out]; simp; omega)
        obtain rfl : id = 0 := by omega
        go_wp2
        go_ret
        exact FIN.out HZ.out _ rfl
      · have d1 : decide ((id : Int) < 1) = false := decide_eq_false (by omega)
        by_cases h2 : la < id
        · have h2' : (la : Int) < (id : Int) := by omega
          have HZ := Lib.hid (show heldBy la le mo x = false from by rw [HX.out]; simp; omega)
          go_wp2
          go_ret
          exact FIN.out HZ.out _ rfl
        · have d2 : decide ((la : Int) < (id : Int)) = false := decide_eq_false (by omega)
          have d2' : decide (la < id) = false := decide_eq_false (by omega)
          by_cases h3 : dl < le
          · have h3' : (dl : Int) < (le : Int) := by omega
            have HZ := Lib.hid (show heldBy la le mo x = false from by rw [HX.out]; simp; omega)
            go_wp2
            go_ret
            exact FIN.out HZ.out _ rfl
          · have d3 : decide ((dl : Int) < (le : Int)) = false := decide_eq_false (by omega)
            have d3' : decide (dl < le) = false := decide_eq_false (by omega)
            by_cases h4 : mo < dl
            · have h4' : (mo : Int) < (dl : Int) := by omega
              have HZ := Lib.hid (show heldBy la le mo x = false from by rw [HX.out]; simp; omega)
              go_wp2
              go_ret
              exact FIN.out HZ.out _ rfl
            · have d4 : decide ((mo : Int) < (dl : Int)) = false := decide_eq_false (by omega)
              have d4' : decide (mo < dl) = false := decide_eq_false (by omega)
              have HZ := Lib.hid (show heldBy la le mo x = true from by rw [HX.out]; simp; omega)
              clear h1 h2 h3 h4
              go_wp2
              go_roundw
              case rel => exact ⟨k + 1, by omega, by go_num, by rw [HJ.out, HZ.out]; rfl, only_more O1.out O2.out⟩
              case measure => simp [intOf]; omega
    · obtain rfl : k = L := by omega
      have HE := Lib.hid (show l.all (heldBy la le mo) = true from by rw [← HALL.out, List.drop_eq_nil_of_le (by rw [HL.out]; exact Nat.le_refl _)]; rfl)
      go_wp2
      go_ret
      exact ⟨by rw [HE.out]; rfl, only_more O0.out O1.out⟩
theorem form_all (one : Bool) (l : List El) (hf : ∀ x ∈ l, x.id < 256) : l.all (heldBy (fLast one) (fLeast one) (fMost one)) = l.all (elOk one) := by
  induction l with
  | nil => rfl
  | cons x l ih => rw [List.all_cons, List.all_cons, ih (fun y hy => hf y (by simp [hy])), show fLast one = (if one then 14 else 255) from rfl, show fLeast one = (if one then 1 else 0) from rfl, show fMost one = (if one then 16 else 255) from rfl, held_ok one x (hf x (by simp))]
theorem holds_is (one : Bool) (v : Value) (l : List El) (w : World) (hr : RdE w v l) (hf : ∀ x ∈ l, x.id < 256) (hl : l.length ≤ 1000000) (hb : ∀ x ∈ l, x.data.length ≤ 1000000) :
    Calls Try.prog 69 #[.agg (formC one), v] w fun e w' => e = .returned (.bool (l.all (elOk one))) ∧ Only (fun _ => False) w w' := by
  have h := holds_gen (fLast one) (fLeast one) (fMost one) (fDig one) (fFn one) v l w hr hf hl hb (by cases one <;> decide) (by cases one <;> decide) (by cases one <;> decide) (by cases one <;> rfl)
  rw [form_all one l hf] at h
  exact h
theorem formC_one (one : Bool) : (formC one).all (·.oneCell') = true := by cases one <;> simp [formC, fFn, Value.oneCell']
end Go.Proofs.Ytcgfmjdlningpaa
