/- vp8, plainly: a descriptor by its bytes, as the reference reads them. Conditions: as each says. -/
import Derived.Test.YtneogagainllnaaVpP
set_option linter.unusedVariables false
namespace Go.Proofs.Ytneogagainllnaa

def hasb (x m : Nat) : Bool := x / m % 2 == 1
/-- Byte i, or 0. -/
def bt (bs : List Nat) (i : Nat) : Nat := bs.getD i 0
theorem bt_get {bs : List Nat} {i : Nat} (h : i < bs.length) : bt bs i = bs[i] := by simp [bt, h]
theorem bt_lt {bs : List Nat} (hb : ∀ x ∈ bs, x < 256) (i : Nat) : bt bs i < 256 := by
  by_cases h : i < bs.length
  · rw [bt_get h]; exact hb _ (List.getElem_mem h)
  · simp only [bt, List.getD_eq_getElem?_getD]
    rw [List.getElem?_eq_none (by omega)]
    decide
theorem tk_byte {bs : List Nat} {i o n : Nat} (hi : i < bs.length) (hn : 0 < n) (ho : o + n ≤ 8) :
    tkNum bs (8 * i + o, 0) n = bt bs i / 2 ^ (8 - o - n) % 2 ^ n ∧ tkSt bs (8 * i + o, 0) n = (8 * i + o + n, 0) := by
  have hle : 8 * i + o + n ≤ 8 * bs.length := by omega
  have e1 : (8 * i + o) / 8 = i := by omega
  have e2 : (8 * i + o) % 8 = o := by omega
  refine ⟨?_, by simp [tkSt, hle]⟩
  simp only [tkNum, true_and, hle, if_true]
  unfold num
  rw [D_mid bs (8 * i + o) n (by rw [e1]; exact hi) (by rw [e2]; exact ho), val_digs, bt_get hi]
  simp only [e1, e2]
theorem tk_byte0 {bs : List Nat} {i n : Nat} (hi : i < bs.length) (hn : 0 < n) (ho : n ≤ 8) :
    tkNum bs (8 * i, 0) n = bt bs i / 2 ^ (8 - n) % 2 ^ n ∧ tkSt bs (8 * i, 0) n = (8 * i + n, 0) := by
  have := tk_byte (o := 0) hi hn (by omega)
  simpa using this

section
variable {bs : List Nat}
theorem first_by (e : Dv) (h : 1 ≤ bs.length) :
    (Vt bs).fl (0, 0) e.any = hasb (bt bs 0) 128 ∧ (Vt bs).first e (0, 0) = ({ e with n := hasb (bt bs 0) 32, start := hasb (bt bs 0) 16, part := bt bs 0 % 8 }, (8, 0)) := by
  obtain ⟨a0, b0⟩ := tk_byte (bs := bs) (i := 0) (o := 0) (n := 1) h (by decide) (by decide)
  obtain ⟨a1, b1⟩ := tk_byte (bs := bs) (i := 0) (o := 1) (n := 1) h (by decide) (by decide)
  obtain ⟨a2, b2⟩ := tk_byte (bs := bs) (i := 0) (o := 2) (n := 1) h (by decide) (by decide)
  obtain ⟨a3, b3⟩ := tk_byte (bs := bs) (i := 0) (o := 3) (n := 1) h (by decide) (by decide)
  obtain ⟨a4, b4⟩ := tk_byte (bs := bs) (i := 0) (o := 4) (n := 1) h (by decide) (by decide)
  obtain ⟨a5, b5⟩ := tk_byte (bs := bs) (i := 0) (o := 5) (n := 3) h (by decide) (by decide)
  simp only [Nat.mul_zero, Nat.zero_add, Nat.reduceSub, Nat.reducePow, Nat.reduceAdd] at a0 a1 a2 a3 a4 a5 b0 b1 b2 b3 b4 b5
  refine ⟨by simp only [Vt, a0, hasb], ?_⟩
  have e8 : bt bs 0 / 1 % 8 % 256 = bt bs 0 % 8 := by omega
  simp only [Vis.first, Vis.s1, Vis.s2, Vis.s3, Vt, b0, b1, b2, a2, b3, a3, b4, b5, a5, e8, hasb]
theorem second_by (e : Dv) (h : 2 ≤ bs.length) :
    (Vt bs).second e (8, 0) = ({ e with hasPic := hasb (bt bs 1) 128, hasTl0 := hasb (bt bs 1) 64, hasTid := hasb (bt bs 1) 32, hasKey := hasb (bt bs 1) 16 }, (16, 0)) := by
  obtain ⟨a0, b0⟩ := tk_byte (bs := bs) (i := 1) (o := 0) (n := 1) h (by decide) (by decide)
  obtain ⟨a1, b1⟩ := tk_byte (bs := bs) (i := 1) (o := 1) (n := 1) h (by decide) (by decide)
  obtain ⟨a2, b2⟩ := tk_byte (bs := bs) (i := 1) (o := 2) (n := 1) h (by decide) (by decide)
  obtain ⟨a3, b3⟩ := tk_byte (bs := bs) (i := 1) (o := 3) (n := 1) h (by decide) (by decide)
  obtain ⟨a4, b4⟩ := tk_byte (bs := bs) (i := 1) (o := 4) (n := 4) h (by decide) (by decide)
  simp only [Nat.mul_one, Nat.reduceSub, Nat.reducePow, Nat.reduceAdd] at a0 a1 a2 a3 a4 b0 b1 b2 b3 b4
  simp only [Vis.second, Vt, b0, a0, b1, a1, b2, a2, b3, a3, b4, hasb]
theorem more1_no (e : Dv) (s : Nat × Int) (hp : e.hasPic = false) : (Vt bs).more1 e s = (e, s) := by
  unfold Vis.more1; rw [hp]; rfl
theorem more1_flag (x : Bool) (h : 3 ≤ bs.length) : (Vt bs).fl (16, 0) x = hasb (bt bs 2) 128 ∧ (Vt bs).fs (16, 0) x = (17, 0) := by
  obtain ⟨a0, b0⟩ := tk_byte (bs := bs) (i := 2) (o := 0) (n := 1) h (by decide) (by decide)
  simp only [Nat.reduceMul, Nat.reduceSub, Nat.reducePow, Nat.reduceAdd] at a0 b0
  exact ⟨by simp only [Vt, a0, hasb], b0⟩
theorem more1_short (e : Dv) (h : 3 ≤ bs.length) (hp : e.hasPic = true) (hl : hasb (bt bs 2) 128 = false) : (Vt bs).more1 e (16, 0) = ({ e with long := false, pic := bt bs 2 % 128 }, (24, 0)) := by
  obtain ⟨f1, f2⟩ := more1_flag (bs := bs) e.long h
  obtain ⟨a1, b1⟩ := tk_byte (bs := bs) (i := 2) (o := 1) (n := 7) h (by decide) (by decide)
  simp only [Nat.reduceMul, Nat.reduceSub, Nat.reducePow, Nat.reduceAdd, Nat.div_one] at a1 b1
  unfold Vis.more1
  rw [hp, if_pos rfl, f1, f2, hl]
  simp only [Bool.false_eq_true, if_false, Vt, a1, b1]
theorem more1_long (e : Dv) (hb : ∀ x ∈ bs, x < 256) (h : 4 ≤ bs.length) (hp : e.hasPic = true) (hl : hasb (bt bs 2) 128 = true) : (Vt bs).more1 e (16, 0) = ({ e with long := true, pic := bt bs 2 % 128 * 256 + bt bs 3 }, (32, 0)) := by
  obtain ⟨f1, f2⟩ := more1_flag (bs := bs) e.long (by omega)
  have h3 := bt_lt hb 3
  have hn : num bs 17 15 = bt bs 2 % 128 * 256 + bt bs 3 := by
    have e1 := num_add bs 17 7 8 (by omega) (by decide)
    simp only [Nat.reduceAdd, Nat.reduceDiv, Nat.reduceMod, Nat.reduceSub, Nat.reducePow, Nat.div_one] at e1
    rw [e1]
    have e2 := (tk_byte (bs := bs) (i := 2) (o := 1) (n := 7) (by omega) (by decide) (by decide)).1
    simp only [Nat.reduceMul, Nat.reduceSub, Nat.reducePow, Nat.reduceAdd, Nat.div_one, tkNum, true_and] at e2
    rw [if_pos (by omega)] at e2
    rw [e2, bt_get (show 3 < bs.length by omega)]
    rw [bt_get (show 3 < bs.length by omega)] at h3
    rw [Nat.mod_eq_of_lt h3]
  have a1 : tkNum bs (17, 0) 15 = bt bs 2 % 128 * 256 + bt bs 3 := by
    simp only [tkNum, true_and]
    rw [if_pos (by omega), hn]
  have b1 : tkSt bs (17, 0) 15 = (32, 0) := by
    have : 17 + 15 ≤ 8 * bs.length := by omega
    simp [tkSt, this]
  unfold Vis.more1
  rw [hp, if_pos rfl, f1, f2, hl]
  simp only [if_true, Vt, a1, b1]
def rd3 (bs : List Nat) (d : Dv) (i : Nat) : Dv := if d.hasTl0 then { d with tl0 := bt bs i } else d
theorem more2_by (e : Dv) (i : Nat) (hb : ∀ x ∈ bs, x < 256) (h : e.hasTl0 = true → i < bs.length) : (Vt bs).more2 e (8 * i, 0) = (rd3 bs e i, (8 * (i + if e.hasTl0 then 1 else 0), 0)) := by
  unfold Vis.more2 rd3
  cases ht : e.hasTl0
  · rfl
  · obtain ⟨a1, b1⟩ := tk_byte0 (bs := bs) (i := i) (n := 8) (h ht) (by decide) (by decide)
    have h3 := bt_lt hb i
    simp only [Nat.reduceSub, Nat.reducePow, Nat.div_one] at a1 b1
    have e8 : bt bs i % 256 % 256 = bt bs i := by omega
    simp only [if_true, Vt, a1, b1, e8]
    rfl
def rd4 (bs : List Nat) (d : Dv) (i : Nat) : Dv := if d.hasTid then { d with tid := bt bs i / 64, sync := hasb (bt bs i) 32 } else d
def rd5 (bs : List Nat) (d : Dv) (i : Nat) : Dv := if d.hasKey then { d with key := bt bs i % 32 } else d
theorem more3_by (e : Dv) (i : Nat) (hb : ∀ x ∈ bs, x < 256) (h : i < bs.length) : (Vt bs).more3 e (8 * i, 0) = (rd4 bs e i, (8 * i + 3, 0)) := by
  unfold Vis.more3 rd4
  have h3 := bt_lt hb i
  cases ht : e.hasTid
  · obtain ⟨a1, b1⟩ := tk_byte0 (bs := bs) (i := i) (n := 3) h (by decide) (by decide)
    simp only [Bool.false_eq_true, if_false, Vt, b1]
  · obtain ⟨a1, b1⟩ := tk_byte0 (bs := bs) (i := i) (n := 2) h (by decide) (by decide)
    obtain ⟨a2, b2⟩ := tk_byte (bs := bs) (i := i) (o := 2) (n := 1) h (by decide) (by decide)
    simp only [Nat.reduceSub, Nat.reducePow] at a1 b1 a2 b2
    have e8 : bt bs i / 64 % 4 % 256 = bt bs i / 64 := by omega
    simp only [if_true, Vt, a1, b1, e8, a2, b2, hasb]
theorem more4_by (e : Dv) (i : Nat) (hb : ∀ x ∈ bs, x < 256) (h : i < bs.length) : (Vt bs).more4 e (8 * i + 3, 0) = (rd5 bs e i, (8 * (i + 1), 0)) := by
  unfold Vis.more4 rd5
  obtain ⟨a1, b1⟩ := tk_byte (bs := bs) (i := i) (o := 3) (n := 5) h (by decide) (by decide)
  simp only [Nat.reduceSub, Nat.reducePow, Nat.div_one] at a1 b1
  have e8 : bt bs i % 32 % 256 = bt bs i % 32 := by omega
  cases ht : e.hasKey
  · simp only [Bool.false_eq_true, if_false, Vt, b1]; rfl
  · simp only [if_true, Vt, a1, b1, e8]; rfl
end

/-- The first two bytes' part, as the reference reads it. -/
def rd1 (bs : List Nat) : Dv :=
  if hasb (bt bs 0) 128 then ⟨hasb (bt bs 0) 32, hasb (bt bs 0) 16, bt bs 0 % 8, hasb (bt bs 1) 128, false, 0, hasb (bt bs 1) 64, 0, hasb (bt bs 1) 32, 0, false, hasb (bt bs 1) 16, 0⟩
  else ⟨hasb (bt bs 0) 32, hasb (bt bs 0) 16, bt bs 0 % 8, false, false, 0, false, 0, false, 0, false, false, 0⟩
def rd2 (bs : List Nat) (d : Dv) : Dv :=
  if d.hasPic then (if hasb (bt bs 2) 128 then { d with long := true, pic := bt bs 2 % 128 * 256 + bt bs 3 } else { d with long := false, pic := bt bs 2 % 128 }) else d
def ri2 (bs : List Nat) (d : Dv) : Nat := if d.hasPic then (if hasb (bt bs 2) 128 then 4 else 3) else 2
def ri3 (bs : List Nat) (d : Dv) : Nat := ri2 bs d + if d.hasTl0 then 1 else 0
def refD (bs : List Nat) : Dv :=
  let d1 := rd1 bs
  let d2 := rd2 bs d1
  let d3 := rd3 bs d2 (ri2 bs d1)
  let d4 := rd4 bs d3 (ri3 bs d1)
  rd5 bs d4 (ri3 bs d1)
/-- How many bytes are wanted. -/
def needN (bs : List Nat) : Nat :=
  if bs.length < 1 ∨ hasb (bt bs 0) 128 = false then 1
  else if bs.length < 2 then 2
  else 2 + (if hasb (bt bs 1) 128 then (if 2 < bs.length ∧ hasb (bt bs 2) 128 = true then 2 else 1) else 0) + (if hasb (bt bs 1) 64 then 1 else 0) + (if hasb (bt bs 1) 32 = true ∨ hasb (bt bs 1) 16 = true then 1 else 0)

theorem rd2_flags (bs : List Nat) (d : Dv) : (rd2 bs d).hasTl0 = d.hasTl0 ∧ (rd2 bs d).hasTid = d.hasTid ∧ (rd2 bs d).hasKey = d.hasKey := by
  unfold rd2; cases d.hasPic <;> cases hasb (bt bs 2) 128 <;> exact ⟨rfl, rfl, rfl⟩
theorem rd3_flags (bs : List Nat) (d : Dv) (i : Nat) : (rd3 bs d i).hasTid = d.hasTid ∧ (rd3 bs d i).hasKey = d.hasKey := by
  unfold rd3; split <;> exact ⟨rfl, rfl⟩
theorem rd4_flags (bs : List Nat) (d : Dv) (i : Nat) : (rd4 bs d i).hasKey = d.hasKey := by
  unfold rd4; split <;> rfl
theorem rd4_no (bs : List Nat) (d : Dv) (i : Nat) (h : d.hasTid = false) : rd4 bs d i = d := by unfold rd4; rw [h]; rfl
theorem rd5_no (bs : List Nat) (d : Dv) (i : Nat) (h : d.hasKey = false) : rd5 bs d i = d := by unfold rd5; rw [h]; rfl
theorem rd2_no (bs : List Nat) (d : Dv) (h : d.hasPic = false) : rd2 bs d = d := by unfold rd2; rw [h]; rfl
theorem rd3_no (bs : List Nat) (d : Dv) (i : Nat) (h : d.hasTl0 = false) : rd3 bs d i = d := by unfold rd3; rw [h]; rfl

/-- Enough bytes: what is taken is what the reference reads. -/
theorem got_ref (bs : List Nat) (hb : ∀ x ∈ bs, x < 256) (h1 : 1 ≤ bs.length) (hn : needN bs ≤ bs.length) : Got bs = (refD bs, (8 * needN bs, 0)) := by
  obtain ⟨f1, f2⟩ := first_by (bs := bs) Dv.zero h1
  unfold Got Vis.visit
  rw [f1, f2]
  cases hx : hasb (bt bs 0) 128
  · have en : needN bs = 1 := by unfold needN; rw [if_pos (.inr hx)]
    have er : rd1 bs = ⟨hasb (bt bs 0) 32, hasb (bt bs 0) 16, bt bs 0 % 8, false, false, 0, false, 0, false, 0, false, false, 0⟩ := by unfold rd1; rw [hx]; rfl
    have ed : refD bs = rd1 bs := by
      unfold refD
      simp only
      have r2 : rd2 bs (rd1 bs) = rd1 bs := rd2_no _ _ (by rw [er])
      have r3 : rd3 bs (rd1 bs) (ri2 bs (rd1 bs)) = rd1 bs := rd3_no _ _ _ (by rw [er])
      have r4 : rd4 bs (rd1 bs) (ri3 bs (rd1 bs)) = rd1 bs := rd4_no _ _ _ (by rw [er])
      have r5 : rd5 bs (rd1 bs) (ri3 bs (rd1 bs)) = rd1 bs := rd5_no _ _ _ (by rw [er])
      rw [r2, r3, r4, r5]
    rw [ed, er, en]
    rfl
  · have h2 : 2 ≤ bs.length := by
      apply Classical.byContradiction
      intro hlt
      unfold needN at hn
      rw [if_neg (by rw [hx]; exact fun h => h.elim (fun h => by omega) (fun h => by cases h)), if_pos (by omega)] at hn
      omega
    have en : needN bs = 2 + (if hasb (bt bs 1) 128 then (if 2 < bs.length ∧ hasb (bt bs 2) 128 = true then 2 else 1) else 0) + (if hasb (bt bs 1) 64 then 1 else 0) + (if hasb (bt bs 1) 32 = true ∨ hasb (bt bs 1) 16 = true then 1 else 0) := by
      unfold needN
      rw [if_neg (by rw [hx]; exact fun h => h.elim (fun h => by omega) (fun h => by cases h)), if_neg (by omega)]
    have er : rd1 bs = ⟨hasb (bt bs 0) 32, hasb (bt bs 0) 16, bt bs 0 % 8, hasb (bt bs 1) 128, false, 0, hasb (bt bs 1) 64, 0, hasb (bt bs 1) 32, 0, false, hasb (bt bs 1) 16, 0⟩ := by unfold rd1; rw [hx]; rfl
    have es : (Vt bs).second { Dv.zero with n := hasb (bt bs 0) 32, start := hasb (bt bs 0) 16, part := bt bs 0 % 8 } (8, 0) = (rd1 bs, (16, 0)) := by rw [second_by _ h2, er]; rfl
    rw [if_pos rfl]
    simp only [es]
    have k4 : (rd1 bs).hasPic = hasb (bt bs 1) 128 := by rw [er]
    have k7 : (rd1 bs).hasTl0 = hasb (bt bs 1) 64 := by rw [er]
    have k9 : (rd1 bs).hasTid = hasb (bt bs 1) 32 := by rw [er]
    have k12 : (rd1 bs).hasKey = hasb (bt bs 1) 16 := by rw [er]
    unfold refD
    simp only
    generalize rd1 bs = d1 at *
    rw [en] at hn ⊢
    rw [← k4, ← k7, ← k9, ← k12] at hn ⊢
    have hm1 : (Vt bs).more1 d1 (16, 0) = (rd2 bs d1, (8 * ri2 bs d1, 0)) ∧ 2 + (if d1.hasPic then (if 2 < bs.length ∧ hasb (bt bs 2) 128 = true then 2 else 1) else 0) = ri2 bs d1 := by
      cases hp : d1.hasPic
      · exact ⟨by rw [more1_no d1 _ hp, rd2_no _ _ hp]; unfold ri2; rw [hp]; rfl, by unfold ri2; rw [hp]; rfl⟩
      · rw [hp] at hn
        simp only [if_true] at hn ⊢
        have h3 : 3 ≤ bs.length := by
          have : (1 : Nat) ≤ (if 2 < bs.length ∧ hasb (bt bs 2) 128 = true then 2 else 1) := by split <;> omega
          omega
        cases hl : hasb (bt bs 2) 128
        · refine ⟨by rw [more1_short d1 h3 hp hl]; unfold rd2 ri2; rw [hp, hl]; rfl, by unfold ri2; rw [hp, hl]; simp⟩
        · rw [hl] at hn
          rw [if_pos ⟨by omega, rfl⟩] at hn
          refine ⟨by rw [more1_long d1 hb (by omega) hp hl]; unfold rd2 ri2; rw [hp, hl]; rfl, by rw [if_pos ⟨by omega, rfl⟩]; unfold ri2; rw [hp, hl]; rfl⟩
    obtain ⟨m1, m1n⟩ := hm1
    rw [m1n] at hn ⊢
    obtain ⟨g7, g9, g12⟩ := rd2_flags bs d1
    unfold Vis.more
    simp only [m1]
    have m2 := more2_by (bs := bs) (rd2 bs d1) (ri2 bs d1) hb (by rw [g7]; intro ht; rw [ht] at hn; simp only [if_true] at hn; omega)
    rw [g7] at m2
    rw [show ri2 bs d1 + (if d1.hasTl0 = true then 1 else 0) = ri3 bs d1 from rfl] at m2 hn ⊢
    simp only [m2]
    obtain ⟨q9, q12⟩ := rd3_flags bs (rd2 bs d1) (ri2 bs d1)
    rw [q9, q12, g9, g12]
    by_cases hk : (!d1.hasTid && !d1.hasKey) = true
    · rw [if_pos hk]
      obtain ⟨r1, r2⟩ : d1.hasTid = false ∧ d1.hasKey = false := by simpa using hk
      rw [rd4_no _ _ _ (by rw [q9, g9, r1]), rd5_no _ _ _ (by rw [q12, g12, r2])]
      rw [if_neg (by rw [r1, r2]; simp)]
      rfl
    · rw [if_neg hk]
      have hk2 : d1.hasTid = true ∨ d1.hasKey = true := by
        revert hk
        cases d1.hasTid <;> cases d1.hasKey <;> simp
      rw [if_pos hk2] at hn ⊢
      rw [more3_by _ _ hb (by omega)]
      simp only
      rw [more4_by _ _ hb (by omega)]
/-- What is taken without failure had enough bytes. -/
theorem got_need (bs : List Nat) (hb : ∀ x ∈ bs, x < 256) (h : (Got bs).2.2 = 0) : 1 ≤ bs.length ∧ needN bs ≤ bs.length := by
  have hin := got_place bs
  unfold In2 at hin
  unfold Got Vis.visit at h hin
  have hfo := first_ok (bs := bs) (e := Dv.zero) (s := (0, 0))
  by_cases hX : (Vt bs).fl (0, 0) Dv.zero.any = true
  · rw [if_pos hX] at h hin
    have hz : ((Vt bs).first Dv.zero (0, 0)).1.part < 8 := (tk_small bs ((Vt bs).s3 Dv.zero (0, 0))).1
    have h2 : ((Vt bs).second ((Vt bs).first Dv.zero (0, 0)).1 ((Vt bs).first Dv.zero (0, 0)).2).1.Two := ⟨hz, rfl, rfl, rfl, rfl, rfl, rfl⟩
    obtain ⟨m1, m2, m3, m4⟩ := more_is bs _ ((Vt bs).second ((Vt bs).first Dv.zero (0, 0)).1 ((Vt bs).first Dv.zero (0, 0)).2).2 h2
    obtain ⟨n1, n2⟩ := m3 h
    obtain ⟨o1, o2⟩ := second_ok n1
    obtain ⟨_, p2⟩ := hfo o1
    have hl2 : 2 ≤ bs.length := by omega
    obtain ⟨f1, f2⟩ := first_by (bs := bs) Dv.zero (by omega)
    refine ⟨by omega, ?_⟩
    rw [hX] at f1
    have es := second_by (bs := bs) { Dv.zero with n := hasb (bt bs 0) 32, start := hasb (bt bs 0) 16, part := bt bs 0 % 8 } hl2
    rw [f2] at h hin
    simp only [es] at h hin
    clear m1 m2 m3 m4 n1 n2 o1 o2 p2 h2 hz hfo
    unfold needN
    rw [if_neg (by rw [← f1]; exact fun h => h.elim (fun h => by omega) (fun h => by cases h)), if_neg (by omega)]
    generalize hd1 : ({ Dv.zero with n := hasb (bt bs 0) 32, start := hasb (bt bs 0) 16, part := bt bs 0 % 8, hasPic := hasb (bt bs 1) 128, hasTl0 := hasb (bt bs 1) 64, hasTid := hasb (bt bs 1) 32, hasKey := hasb (bt bs 1) 16 } : Dv) = d1 at *
    have k4 : d1.hasPic = hasb (bt bs 1) 128 := by rw [← hd1]
    have k7 : d1.hasTl0 = hasb (bt bs 1) 64 := by rw [← hd1]
    have k9 : d1.hasTid = hasb (bt bs 1) 32 := by rw [← hd1]
    have k12 : d1.hasKey = hasb (bt bs 1) 16 := by rw [← hd1]
    rw [← k4, ← k7, ← k9, ← k12]
    clear hd1 k4 k7 k9 k12 es f1 f2 hX
    unfold Vis.more at h hin
    simp only at h hin
    obtain ⟨L, P, s1, q1, hP, hs1⟩ := more1_is bs d1 (16, 0)
    have hL : d1.hasPic = true → 3 ≤ bs.length → L = hasb (bt bs 2) 128 := by
      intro hp h3
      obtain ⟨g1, g2⟩ := more1_flag (bs := bs) d1.long h3
      have := congrArg (fun x => x.1.long) q1
      simp only [Vis.more1, hp, if_true, g1] at this
      exact this.symm
    rw [q1] at h hin
    simp only at h hin
    generalize hd2 : (if d1.hasPic = true then ({ d1 with long := L, pic := P } : Dv) else d1) = d2 at *
    have g : d2.hasTl0 = d1.hasTl0 ∧ d2.hasTid = d1.hasTid ∧ d2.hasKey = d1.hasKey := by
      rw [← hd2]; split <;> exact ⟨rfl, rfl, rfl⟩
    obtain ⟨T, s2, q2, hT, hs2⟩ := more2_is bs d2 s1
    rw [q2] at h hin
    simp only at h hin
    generalize hd3 : (if d2.hasTl0 = true then ({ d2 with tl0 := T } : Dv) else d2) = d3 at *
    have g' : d3.hasTid = d2.hasTid ∧ d3.hasKey = d2.hasKey := by
      rw [← hd3]; split <;> exact ⟨rfl, rfl⟩
    have fin : ∀ s' : Nat × Int, s'.2 = 0 → s'.1 ≤ 8 * bs.length → (s2.2 = 0 ∧ s'.1 = s2.1 + (if d1.hasTid = true ∨ d1.hasKey = true then 8 else 0)) → 2 + (if d1.hasPic = true then (if 2 < bs.length ∧ hasb (bt bs 2) 128 = true then 2 else 1) else 0) + (if d1.hasTl0 = true then 1 else 0) + (if d1.hasTid = true ∨ d1.hasKey = true then 1 else 0) ≤ bs.length := by
      intro s' hs' hle hst
      obtain ⟨z2, w2⟩ := hst
      obtain ⟨z1, w1⟩ := hs2 z2
      obtain ⟨_, w0⟩ := hs1 z1
      rw [g.1] at w1
      have hk : (if d1.hasTid = true ∨ d1.hasKey = true then 8 else 0) = 8 * (if d1.hasTid = true ∨ d1.hasKey = true then 1 else 0) := by split <;> rfl
      have ht : (if d1.hasTl0 = true then 8 else 0) = 8 * (if d1.hasTl0 = true then 1 else 0) := by split <;> rfl
      have hp : 8 * (if d1.hasPic = true then (if 2 < bs.length ∧ hasb (bt bs 2) 128 = true then 2 else 1) else 0) ≤ (if d1.hasPic = true then (if L = true then 16 else 8) else 0) := by
        cases hpc : d1.hasPic
        · simp
        · simp only [if_true]
          by_cases h3 : 3 ≤ bs.length
          · rw [hL hpc h3]
            cases hasb (bt bs 2) 128 <;> simp
            split <;> omega
          · rw [if_neg (by omega)]
            split <;> omega
      rw [hk] at w2
      rw [ht] at w1
      simp only at w0
      omega
    by_cases hk : (!d3.hasTid && !d3.hasKey) = true
    · rw [if_pos hk] at h hin
      have hk1 : ¬ (d1.hasTid = true ∨ d1.hasKey = true) := by
        rw [g'.1, g'.2, g.2.1, g.2.2] at hk
        revert hk
        cases d1.hasTid <;> cases d1.hasKey <;> simp
      exact fin s2 h hin ⟨h, by rw [if_neg hk1]; rfl⟩
    · rw [if_neg hk] at h hin
      have hk1 : d1.hasTid = true ∨ d1.hasKey = true := by
        rw [g'.1, g'.2, g.2.1, g.2.2] at hk
        revert hk
        cases d1.hasTid <;> cases d1.hasKey <;> simp
      obtain ⟨U, S, s3, q3, hU, hs3⟩ := more3_is bs d3 s2
      rw [q3] at h hin
      simp only at h hin
      obtain ⟨K, s4, q4, hK, hs4⟩ := more4_is bs (if d3.hasTid = true then ({ d3 with tid := U, sync := S } : Dv) else d3) s3
      rw [q4] at h hin
      simp only at h hin
      obtain ⟨y1, y2⟩ := hs4 h
      obtain ⟨x1, x2⟩ := hs3 y1
      exact fin s4 h hin ⟨x1, by rw [if_pos hk1]; omega⟩
  · rw [if_neg hX] at h hin
    obtain ⟨_, p2⟩ := hfo h
    have h1 : 1 ≤ bs.length := by omega
    obtain ⟨f1, _⟩ := first_by (bs := bs) Dv.zero h1
    refine ⟨h1, ?_⟩
    unfold needN
    rw [if_pos (.inr (by rw [← f1]; simpa using hX))]
    exact h1
end Go.Proofs.Ytneogagainllnaa
