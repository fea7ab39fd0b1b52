/- ext: rows of elements; forms (formOf, holds, Known). Conditions: as each says. -/
import Derived.Test.YtdcclighccejhaaExP
import Derived.Test.YtdcclighccejhaaBase
import Derived.Deep.DeepCutAuto
import Derived.Outline
set_option linter.unusedVariables false
namespace Go.Proofs.Ytdcclighccejhaa
open Go.RowKit

theorem only_made {w w1 : World} {o : Obj} (h : Only (fun k => k = w.heap.size) (w.alloc o) w1) : Only (fun _ => False) w w1 :=
  ((Only.refl _ w).alloc o).trans h (fun i hi e => by omega)
def El.lst (x : El) (v : Value) : List Value := [.int .u8 (x.id : Nat), v]
theorem el_len (l : List El) (vs : List Value) : ∀ xs ∈ List.zipWith El.lst l vs, xs.length = 2 := by
  intro xs hx
  obtain ⟨i, hi⟩ := List.getElem?_of_mem hx
  rw [List.getElem?_zipWith] at hi
  split at hi
  · injection hi with hi; subst hi; rfl
  · cases hi
/-- Elements in a row that is owned, their data too. -/
structure Els (w : World) (B : Nat) (T : TypeId) (v : Value) (vs : List Value) (l : List El) : Prop where
  row : OwnS w B T 2 v (List.zipWith El.lst l vs)
  bods : Bods w B vs (l.map El.data)
section
variable {w w1 : World} {B : Nat} {T : TypeId} {v : Value} {vs : List Value} {l : List El}
theorem Els.len (h : Els w B T v vs l) : vs.length = l.length := by simpa using h.bods.len
theorem Els.zip (h : Els w B T v vs l) : (List.zipWith El.lst l vs).length = l.length := by rw [List.length_zipWith, h.len, Nat.min_self]
theorem Els.nil (w : World) (B : Nat) (T : TypeId) : Els w B T (.slice none 0 0) [] [] := ⟨OwnS.nil w B T 2, Bods.nil w B⟩
theorem Els.slice (h : Els w B T v vs l) : ∃ A c, v = .slice A l.length c ∧ l.length ≤ c := by
  have := h.row.slice
  rwa [h.zip] at this
theorem Els.pure (h : Els w B T v vs l) (ho : Only (fun _ => False) w w1) : Els w1 B T v vs l := ⟨h.row.only ho (by simp), h.bods.pure ho⟩
theorem ezip_snoc (hl : vs.length = l.length) (x : El) (u : Value) : List.zipWith El.lst (l ++ [x]) (vs ++ [u]) = List.zipWith El.lst l vs ++ [x.lst u] := by
  rw [List.zipWith_append (by omega)]
  rfl
theorem Els.get (h : Els w B T v vs l) (i : Nat) (hi : i < l.length) : ∃ x u, l[i]? = some x ∧ vs[i]? = some u ∧ (List.zipWith El.lst l vs)[i]? = some (x.lst u) ∧ w.ownsRow B 5 1 u x.data.length (cellsOf x.data) := by
  have hv : i < vs.length := by rw [h.len]; exact hi
  have e1 : l[i]? = some l[i] := List.getElem?_eq_getElem hi
  have e2 : vs[i]? = some vs[i] := List.getElem?_eq_getElem hv
  exact ⟨_, _, e1, e2, by rw [List.getElem?_zipWith, e1, e2], h.bods.own i _ _ e2 (by rw [List.getElem?_map, e1]; rfl)⟩
end
/-- An element's cells, where they lie. -/
def ECells (w : World) (g o i : Nat) (x : El) (u : Value) : Prop :=
  w.cell? ⟨g, o + i * 2, none⟩ = some (.int .u8 (x.id : Nat)) ∧ w.cell? ⟨g, o + i * 2 + 1, none⟩ = some u
theorem ECells.only {w w1 : World} {g o i : Nat} {x : El} {u : Value} (h : ECells w g o i x u) (ho : Only (fun _ => False) w w1) : ECells w1 g o i x u := by
  obtain ⟨h0, h1⟩ := h
  exact ⟨(ho.cell (World.block_lt_of_cell? w _ h0) (by simp)).trans h0, (ho.cell (World.block_lt_of_cell? w _ h1) (by simp)).trans h1⟩
/-- Elements that can be read. -/
def RdE (w : World) (v : Value) (l : List El) : Prop :=
  ∃ A c, v = .slice A l.length c ∧ l.length ≤ c ∧ (0 < l.length → ∃ g o, A = some ⟨g, o, none⟩ ∧ ∀ (i : Nat) (x : El), l[i]? = some x → ∃ u, ECells w g o i x u ∧ Src w u x.data)
theorem RdE.only {w w1 : World} {v : Value} {l : List El} (h : RdE w v l) (ho : Only (fun _ => False) w w1) : RdE w1 v l := by
  obtain ⟨A, c, rfl, hc, hh⟩ := h
  refine ⟨A, c, rfl, hc, fun hp => ?_⟩
  obtain ⟨g, o, rfl, hi⟩ := hh hp
  exact ⟨g, o, rfl, fun i x hx => by obtain ⟨u, h1, h2⟩ := hi i x hx; exact ⟨u, h1.only ho, h2.of_only ho⟩⟩
theorem Els.rd {w : World} {B : Nat} {T : TypeId} {v : Value} {vs : List Value} {l : List El} (h : Els w B T v vs l) : RdE w v l := by
  rcases Nat.eq_zero_or_pos l.length with h0 | hpos
  · obtain ⟨A, c, rfl, hc⟩ := h.slice
    exact ⟨A, c, rfl, hc, fun hp => by omega⟩
  · obtain ⟨g, c, rfl, hc, hg, hB, hcell⟩ := h.row.at_ (by rw [h.zip]; exact hpos)
    refine ⟨some ⟨g, 0, none⟩, c, by rw [h.zip], by rw [h.zip] at hc; exact hc, fun _ => ⟨g, 0, rfl, fun i x hi => ?_⟩⟩
    have hil : i < l.length := (List.getElem?_eq_some_iff.1 hi).1
    obtain ⟨x', u, e1, e2, e3, hu⟩ := h.get i hil
    rw [hi] at e1
    injection e1 with e1
    subst e1
    refine ⟨u, ⟨?_, ?_⟩, Src.of_own hu⟩
    · have := hcell i 0 _ e3 (by decide); simpa [El.lst] using this
    · have := hcell i 1 _ e3 (by decide); simpa [El.lst] using this

/-- The cells of a form, and of none. -/
def fLast (one : Bool) : Nat := if one then 14 else 255
def fLeast (one : Bool) : Nat := if one then 1 else 0
def fMost (one : Bool) : Nat := if one then 16 else 255
def fDig (one : Bool) : Nat := if one then 4 else 8
def zeroF : Array Value := #[.int .u8 0, .int .i64 0, .int .i64 0, .int .i64 0, .nilFunc]
def zeroE : Array Value := #[.int .u8 0, .slice none 0 0]
/-- What is answered of a struct and a number. -/
theorem res_cell {P : Program} {fn : Func} {p q : Tmp} {ty : TypeId} (h : fn.results = #[.cell p ty, .tmp q]) (tmps : Array Value) (w : World) (g : Nat) (t : TypeId) (cs : Array Value) (d : TypeDesc) (x : Value)
    (hp : tmps.getD p undef = .pointer (some ⟨g, 0, none⟩)) (hq : tmps.getD q undef = x) (hg : Is w g t cs)
    (hu : P.underlying ty = some d) (hd : (match d with | .struct _ | .array _ _ => true | _ => false) = true) (hi : (P.info? ty).map (·.size) = some cs.size) :
    (results fn tmps).run P w = .ok (.tuple #[.agg cs, x]) w := by
  have hp' : tmps[p]?.getD undef = .pointer (some ⟨g, 0, none⟩) := by simpa using hp
  have hq' : tmps[q]?.getD undef = x := by simpa using hq
  simp [results, h, hp', hq', asAddr, run_loadVar_row w g t ty cs (0, 0) d hg hu hd hi]
theorem u16_andNot15 (p : Nat) (h : p < 65536) : bits .andNot .u16 (p : Int) 15 = ((p / 16 * 16 : Nat) : Int) := by
  have h1 := u16_andNot (p : Int) 15 (by omega) (by omega) (by omega) (by omega)
  rw [h1, Int.toNat_natCast]
  congr 1
  show p &&& (65535 - 15) = p / 16 * 16
  have e : (65535 - 15 : Nat) = 4095 * 16 := by decide
  apply Nat.eq_of_testBit_eq
  intro i
  rw [e, Nat.testBit_and]
  have h2 : (4095 * 16).testBit i = (decide (4 ≤ i) && decide (i < 16)) := by
    by_cases hi : i < 16
    · have : ∀ j : Fin 16, (4095 * 16).testBit j.val = (decide (4 ≤ j.val) && decide (j.val < 16)) := by decide
      exact this ⟨i, hi⟩
    · rw [Nat.testBit_lt_two_pow (show 4095 * 16 < 2 ^ i from Nat.lt_of_lt_of_le (by decide : 4095 * 16 < 2 ^ 16) (Nat.pow_le_pow_right (by decide) (by omega)))]
      simp [hi]
  have h3 : (p / 16 * 16).testBit i = (decide (4 ≤ i) && p.testBit i) := by
    have e1 : p / 16 * 16 = (p >>> 4) <<< 4 := by rw [Nat.shiftLeft_eq, Nat.shiftRight_eq_div_pow]
    rw [e1, Nat.testBit_shiftLeft, Nat.testBit_shiftRight]
    by_cases hi : 4 ≤ i
    · simp [hi, show 4 + (i - 4) = i by omega]
    · simp [hi]
  rw [h2, h3]
  by_cases hi : i < 16
  · simp [hi, Bool.and_comm]
  · rw [Nat.testBit_lt_two_pow (show p < 2 ^ i from Nat.lt_of_lt_of_le (show p < 2 ^ 16 from h) (Nat.pow_le_pow_right (by decide) (by omega)))]
    simp

/-- May a form of these bounds hold an element? -/
def heldBy (la le mo : Nat) (x : El) : Bool := !(decide (x.id < 1) || decide (la < x.id) || decide (x.data.length < le) || decide (mo < x.data.length))
theorem held_ok (one : Bool) (x : El) (h : x.id < 256) : heldBy (if one then 14 else 255) (if one then 1 else 0) (if one then 16 else 255) x = elOk one x := by
  unfold heldBy elOk
  generalize x.data.length = n
  generalize x.id = i at *
  rw [Bool.eq_iff_iff]
  cases one
  · simp; omega
  · simp; omega
theorem form_all (one : Bool) (l : List El) (hf : ∀ x ∈ l, x.id < 256) : l.all (heldBy (fLast one) (fLeast one) (fMost one)) = l.all (elOk one) := by
  induction l with
  | nil => rfl
  | cons x l ih => rw [List.all_cons, List.all_cons, ih (fun y hy => hf y (by simp [hy])), show fLast one = (if one then 14 else 255) from rfl, show fLeast one = (if one then 1 else 0) from rfl, show fMost one = (if one then 16 else 255) from rfl, held_ok one x (hf x (by simp))]
end Go.Proofs.Ytdcclighccejhaa
