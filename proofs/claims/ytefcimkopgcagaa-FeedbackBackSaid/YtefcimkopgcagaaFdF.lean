/- What feedback.Parse tells is what the document does, plainly. Conditions: as each says. -/
import Derived.Test.YtefcimkopgcagaaFdE
set_option linter.unusedVariables false
set_option linter.unusedSimpArgs false
namespace Go.Proofs.Ytefcimkopgcagaa
open Go.RowKit

/-- What a reader gives when n bytes are asked of it, and where it stands then. -/
def bys (bs : List Nat) (n : Nat) (s : Nat × Int) : List Nat × Nat × Int :=
  if asked s.2 n 9223372036854775807 (8 * bs.length - s.1) 8 = 0 then (bytesAt bs s.1 n, s.1 + 8 * n, 0) else ([], s.1, asked s.2 n 9223372036854775807 (8 * bs.length - s.1) 8)
theorem bys_bad (bs : List Nat) (n : Nat) (s : Nat × Int) (h : s.2 ≠ 0) : (bys bs n s).2.1 = s.1 ∧ (bys bs n s).2.2 ≠ 0 := by
  have hne : asked s.2 n 9223372036854775807 (8 * bs.length - s.1) 8 ≠ 0 := fun e => h (asked_ok e).1
  unfold bys
  rw [if_neg hne]
  exact ⟨rfl, hne⟩
theorem bys_ok (bs : List Nat) (n p : Nat) (hn : n ≤ 100) (h : p + 8 * n ≤ 8 * bs.length) : bys bs n (p, 0) = (bytesAt bs p n, p + 8 * n, 0) := by
  have e : asked 0 n 9223372036854775807 (8 * bs.length - p) 8 = 0 := asked_zero (by omega) (by omega) (by omega)
  unfold bys
  rw [if_pos e]
theorem bys_short (bs : List Nat) (n p : Nat) (h : 8 * bs.length < p + 8 * n) (hp : p ≤ 8 * bs.length) : (bys bs n (p, 0)).2.1 = p ∧ (bys bs n (p, 0)).2.2 ≠ 0 := by
  have e : asked 0 n 9223372036854775807 (8 * bs.length - p) 8 ≠ 0 := fun e => by
    have := (asked_ok e).2.2.2
    omega
  unfold bys
  rw [if_neg e]
  exact ⟨rfl, e⟩
theorem bys_is (b n : Nat) (bs : List Nat) (v : Value) (st : Nat × Int) (nm : ByteArray) (w : World) (hn : nm.size = n) (hn8 : n ≤ 100) (h : BR b bs v st w) :
    Calls Try.prog 58 #[.pointer (some ⟨b, 0, none⟩), .int .i64 (nm.size : Nat)] w fun e w' => ∃ A k c out, e = .returned (.slice A k c) ∧ out.length = k ∧ Src w' (.slice A k c) out ∧ ((strOfNums (nats out)).toList == nm.toList) = ((strOfNums (nats (bys bs n st).1)).toList == nm.toList) ∧ BR b bs v (bys bs n st).2 w' ∧ Only (fun k => k = b) w w' := by
  subst hn
  by_cases ha : asked st.2 (nm.size : Nat) 9223372036854775807 (8 * bs.length - st.1) 8 = 0
  · obtain ⟨hf, -, -, hle⟩ := asked_ok ha
    have hp := h.place
    obtain ⟨p, f⟩ := st
    simp only at hf hp hle ha
    subst hf
    have e : bys bs nm.size (p, 0) = (bytesAt bs p nm.size, p + 8 * nm.size, 0) := bys_ok bs _ p hn8 (by omega)
    rw [e]
    refine (bytes_ok b p nm.size bs v w h (by omega)).mono ?_
    rintro e w' ⟨u, rfl, hu, hr, ho⟩
    obtain ⟨A, c, rfl, -⟩ := own_slice hu
    exact ⟨A, _, c, _, rfl, rfl, Src.of_own hu, rfl, hr, ho⟩
  · have e : bys bs nm.size st = ([], st.1, asked st.2 (nm.size : Nat) 9223372036854775807 (8 * bs.length - st.1) 8) := by
      unfold bys
      rw [if_neg ha]
    rw [e]
    refine (bytes_fail b st.1 bs st.2 (nm.size : Nat) _ v w h rfl ha).mono ?_
    rintro e w' ⟨rfl, hr, ho⟩
    exact ⟨none, 0, 0, [], rfl, rfl, .inl ⟨rfl, rfl⟩, rfl, hr, ho⟩
theorem tkMs_bad (m : Ms) (bs : List Nat) (st : Nat × Int) (h : st.2 ≠ 0) : (tkMs m bs st).2.2 ≠ 0 := by
  unfold tkMs
  split
  · exact h
  split
  · exact h
  split
  · exact tkS_bad bs _ (tk_bad bs 18 _ (tk_bad bs 6 _ (tk_bad bs 8 st h).2).2).2 _
  · exact h
/-- The two numbers ahead. -/
theorem head_long (bs : List Nat) (hb : ∀ x ∈ bs, x < 256) (h : 8 ≤ bs.length) : tk bs 32 (0, 0) = (fourB bs 0, 32, 0) ∧ tk bs 32 (32, 0) = (fourB bs 4, 64, 0) := by
  have e1 := num_four bs 0 hb (by omega)
  have e2 := num_four bs 4 hb (by omega)
  rw [Nat.mul_zero] at e1
  rw [tk_ok bs 32 0 (by omega) (by omega), tk_ok bs 32 32 (by omega) (by omega), e1, ← e2]
  exact ⟨rfl, rfl⟩
theorem head_short (bs : List Nat) (h : bs.length < 8) : (tk bs 32 (tk bs 32 (0, 0)).2).2.2 ≠ 0 ∧ 8 * bs.length - (tk bs 32 (tk bs 32 (0, 0)).2).2.1 < 32 := by
  by_cases h4 : 4 ≤ bs.length
  · rw [tk_ok bs 32 0 (by omega) (by omega)]
    obtain ⟨h1, h2⟩ := tk_short bs 32 32 (by omega) (by omega)
    simp only [Nat.zero_add]
    exact ⟨h2, by rw [h1]; omega⟩
  · obtain ⟨h1, h2⟩ := tk_short bs 32 0 (by omega) (by omega)
    obtain ⟨h3, h5⟩ := tk_bad bs 32 _ h2
    exact ⟨h5, by rw [h3, h1]; omega⟩
def nmS (s : Nat) : ByteArray := if s = 4 then ⟨#[82, 69, 77, 66]⟩ else ⟨#[]⟩
/-- What the program tells, plainly: the message in the making, and where the reader stands. -/
def fnd (s : Nat) (bs : List Nat) : Bool := (strOfNums (nats (bys bs (nmS s).size (tk bs 32 (tk bs 32 (0, 0)).2).2).1)).toList == (nmS s).toList
def fmk (s : Nat) (bs : List Nat) : Ms × Nat × Int := tkMs (msB s (tk bs 32 (0, 0)).1 (tk bs 32 (tk bs 32 (0, 0)).2).1) bs (bys bs (nmS s).size (tk bs 32 (tk bs 32 (0, 0)).2).2).2
def fans (s : Nat) (bs : List Nat) : Ms × Int := if fnd s bs = true ∧ (fmk s bs).2.2 = 0 ∧ 8 * bs.length - (fmk s bs).2.1 = 0 ∧ rightMs (fmk s bs).1 = true then ((fmk s bs).1, 0) else (ms0, 63)
theorem fans_short (s : Nat) (bs : List Nat) (h : bs.length < 8) : fans s bs = (ms0, 63) := by
  unfold fans
  rw [if_neg]
  rintro ⟨-, h2, -, -⟩
  exact tkMs_bad _ _ _ (bys_bad _ _ _ (head_short bs h).1).2 h2
theorem nil_str : ((strOfNums (nats [])).toList == (⟨#[]⟩ : ByteArray).toList) = true := by
  rw [ByteArray.toList_eq, ByteArray.toList_eq, strOfNums_data]
  rfl
theorem fmk_low (s : Nat) (bs : List Nat) (hb : ∀ x ∈ bs, x < 256) (h : 8 ≤ bs.length) (hs : s ≠ 4) : fnd s bs = true ∧ fmk s bs = tkMs (msB s (fourB bs 0) (fourB bs 4)) bs (64, 0) := by
  obtain ⟨h1, h2⟩ := head_long bs hb h
  have e : nmS s = ⟨#[]⟩ := if_neg hs
  unfold fnd fmk
  rw [h1, h2, e]
  have e0 : bys bs (⟨#[]⟩ : ByteArray).size (64, 0) = ([], 64, 0) := bys_ok bs 0 64 (by omega) (by omega)
  rw [e0]
  exact ⟨nil_str, rfl⟩
theorem map_eq {α : Type} (f g : Nat → α) (n : Nat) (h : ∀ j, j < n → f j = g j) : (List.range n).map f = (List.range n).map g := by
  apply List.map_congr_left
  intro j hj
  exact h j (List.mem_range.1 hj)
theorem tkMs_1 (a b : Nat) (bs : List Nat) (st : Nat × Int) : tkMs (msB 1 a b) bs st = ({ msB 1 a b with pairs := (List.range ((8 * bs.length - st.1) / 32)).map (prAt bs st.1) }, st.1 + 32 * ((8 * bs.length - st.1) / 32), st.2) := rfl
theorem tkMs_2 (a b : Nat) (bs : List Nat) (st : Nat × Int) : tkMs (msB 2 a b) bs st = (msB 2 a b, st) := rfl
theorem tkMs_3 (a b : Nat) (bs : List Nat) (st : Nat × Int) : tkMs (msB 3 a b) bs st = ({ msB 3 a b with orders := (List.range ((8 * bs.length - st.1) / 64)).map (odAt bs st.1) }, st.1 + 64 * ((8 * bs.length - st.1) / 64), st.2) := rfl
theorem tkMs_4 (a b : Nat) (bs : List Nat) (st : Nat × Int) : tkMs (msB 4 a b) bs st = ({ msB 4 a b with exp := (tk bs 6 (tk bs 8 st).2).1, mant := (tk bs 18 (tk bs 6 (tk bs 8 st).2).2).1, srcs := (tkS bs (tk bs 8 st).1 (tk bs 18 (tk bs 6 (tk bs 8 st).2).2).2).1 }, (tkS bs (tk bs 8 st).1 (tk bs 18 (tk bs 6 (tk bs 8 st).2).2).2).2) := rfl
theorem fans_1 (bs : List Nat) (hb : ∀ x ∈ bs, x < 256) (hl : bs.length ≤ 10000) (h : 8 ≤ bs.length) :
    fans 1 bs = if 4 ≤ bs.length - 8 ∧ (bs.length - 8) % 4 = 0 then ({ msAt 1 bs with pairs := (List.range ((bs.length - 8) / 4)).map (pairAt bs) }, 0) else (ms0, 63) := by
  obtain ⟨h1, h2⟩ := fmk_low 1 bs hb h (by decide)
  unfold fans
  have hn : (8 * bs.length - 64) / 32 = (bs.length - 8) / 4 := by omega
  rw [h1, h2, tkMs_1, hn]
  by_cases hc : 4 ≤ bs.length - 8 ∧ (bs.length - 8) % 4 = 0
  · rw [if_pos hc]
    rw [if_pos]
    · rw [map_eq (prAt bs 64) (pairAt bs) _ (fun j hj => prAt_is bs j hb (by omega))]
      rfl
    · refine ⟨rfl, rfl, by show 8 * bs.length - (64 + 32 * ((bs.length - 8) / 4)) = 0; omega, decide_eq_true ?_⟩
      unfold okMs
      simp [msB]
      omega
  · rw [if_neg hc, if_neg]
    rintro ⟨-, -, h3, h4⟩
    have h3 : 8 * bs.length - (64 + 32 * ((bs.length - 8) / 4)) = 0 := h3
    have h5 := of_decide_eq_true h4
    unfold okMs at h5
    simp [msB] at h5
    omega
theorem fans_2 (bs : List Nat) (hb : ∀ x ∈ bs, x < 256) (h : 8 ≤ bs.length) : fans 2 bs = if bs.length - 8 = 0 then (msAt 2 bs, 0) else (ms0, 63) := by
  obtain ⟨h1, h2⟩ := fmk_low 2 bs hb h (by decide)
  unfold fans
  rw [h1, h2, tkMs_2]
  by_cases hc : bs.length - 8 = 0
  · rw [if_pos hc, if_pos ⟨rfl, rfl, by show 8 * bs.length - 64 = 0; omega, decide_eq_true (by unfold okMs; simp [msB])⟩]
    rfl
  · rw [if_neg hc, if_neg (fun h => hc (by have h9 : 8 * bs.length - 64 = 0 := h.2.2.1; omega))]
theorem fans_3 (bs : List Nat) (hb : ∀ x ∈ bs, x < 256) (hl : bs.length ≤ 10000) (h : 8 ≤ bs.length) :
    fans 3 bs = if 8 ≤ bs.length - 8 ∧ (bs.length - 8) % 8 = 0 then ({ msAt 3 bs with orders := (List.range ((bs.length - 8) / 8)).map (orderAt bs) }, 0) else (ms0, 63) := by
  obtain ⟨h1, h2⟩ := fmk_low 3 bs hb h (by decide)
  unfold fans
  have hn : (8 * bs.length - 64) / 64 = (bs.length - 8) / 8 := by omega
  rw [h1, h2, tkMs_3, hn]
  by_cases hc : 8 ≤ bs.length - 8 ∧ (bs.length - 8) % 8 = 0
  · rw [if_pos hc, if_pos]
    · rw [map_eq (odAt bs 64) (orderAt bs) _ (fun j hj => odAt_is bs j hb (by omega))]
      rfl
    · refine ⟨rfl, rfl, by show 8 * bs.length - (64 + 64 * ((bs.length - 8) / 8)) = 0; omega, decide_eq_true ?_⟩
      unfold okMs
      simp [msB]
      omega
  · rw [if_neg hc, if_neg]
    rintro ⟨-, -, h3, h4⟩
    have h3 : 8 * bs.length - (64 + 64 * ((bs.length - 8) / 8)) = 0 := h3
    have h5 := of_decide_eq_true h4
    unfold okMs at h5
    simp [msB] at h5
    omega
theorem remb_toList : (⟨#[82, 69, 77, 66]⟩ : ByteArray).toList = [82, 69, 77, 66] := by
  rw [ByteArray.toList_eq]
theorem fans_4 (bs : List Nat) (hb : ∀ x ∈ bs, x < 256) (h : 8 ≤ bs.length) :
    fans 4 bs = if 8 ≤ bs.length - 8 ∧ (bs.drop 8).take 4 = [82, 69, 77, 66] ∧ bs.length - 8 = 8 + 4 * bs.getD 12 0 then
      ({ msAt 4 bs with exp := fourB bs 12 % 16777216 / 262144, mant := fourB bs 12 % 16777216 % 262144, srcs := (List.range ((bs.length - 16) / 4)).map fun j => fourB bs (16 + 4 * j) }, 0) else (ms0, 63) := by
  obtain ⟨h1, h2⟩ := head_long bs hb h
  have e : nmS 4 = ⟨#[82, 69, 77, 66]⟩ := if_pos rfl
  have es : (⟨#[82, 69, 77, 66]⟩ : ByteArray).size = 4 := rfl
  by_cases h12 : 12 ≤ bs.length
  · have eb : bys bs 4 (64, 0) = ((bs.drop 8).take 4, 96, 0) := by rw [bys_ok bs 4 64 (by omega) (by omega), show 64 = 8 * 8 from rfl, bytesAt_aligned bs 8 4 (by omega) hb]
    have hnd : fnd 4 bs = decide ((bs.drop 8).take 4 = [82, 69, 77, 66]) := by
      unfold fnd
      rw [h1, h2, e, es, eb]
      have := str_eq ((bs.drop 8).take 4) [82, 69, 77, 66] (fun x hx => hb x (List.mem_of_mem_drop (List.mem_of_mem_take hx))) (by decide)
      rw [remb_str] at this
      rw [remb_toList]
      exact this
    have hmk : fmk 4 bs = tkMs (msB 4 (fourB bs 0) (fourB bs 4)) bs (96, 0) := by
      unfold fmk
      rw [h1, h2, e, es, eb]
    unfold fans
    rw [hnd, hmk, tkMs_4]
    by_cases h16 : 16 ≤ bs.length
    · have t1 : tk bs 8 (96, 0) = (bs.getD 12 0, 104, 0) := by rw [tk_ok bs 8 96 (by omega) (by omega), show 96 = 8 * 12 from rfl, num_one8 bs 12 hb (by omega)]
      have t2 : tk bs 6 (104, 0) = (fourB bs 12 % 16777216 / 262144, 110, 0) := by rw [tk_ok bs 6 104 (by omega) (by omega), (exp_is bs hb h16).1]
      have t3 : tk bs 18 (110, 0) = (fourB bs 12 % 16777216 % 262144, 128, 0) := by rw [tk_ok bs 18 110 (by omega) (by omega), (exp_is bs hb h16).2]
      rw [t1]
      rw [t2]
      rw [t3]
      have hn256 : bs.getD 12 0 < 256 := by rw [List.getD_eq_getElem?_getD, List.getElem?_eq_getElem (by omega)]; exact hb _ (List.getElem_mem (by omega))
      have hex : fourB bs 12 % 16777216 / 262144 ≤ 63 := by omega
      have hmt : fourB bs 12 % 16777216 % 262144 ≤ 262143 := by omega
      generalize bs.getD 12 0 = n at *
      generalize fourB bs 12 % 16777216 / 262144 = ex at *
      generalize fourB bs 12 % 16777216 % 262144 = mt at *
      by_cases hc : (bs.drop 8).take 4 = [82, 69, 77, 66] ∧ bs.length - 8 = 8 + 4 * n
      · have hS := tkS_ok bs 128 n (by omega)
        have hR : 8 ≤ bs.length - 8 ∧ (bs.drop 8).take 4 = [82, 69, 77, 66] ∧ bs.length - 8 = 8 + 4 * n := ⟨by omega, hc⟩
        rw [if_pos hR, if_pos]
        · rw [show (bs.length - 16) / 4 = n by omega]
          have hq : ((List.range n).map fun j => num bs (128 + 32 * j) 32) = (List.range n).map fun j => fourB bs (16 + 4 * j) :=
            map_eq _ _ n (fun j hj => by rw [← num_four bs (16 + 4 * j) hb (by omega)]; congr 1; omega)
          rw [hS]
          show (({ msB 4 (fourB bs 0) (fourB bs 4) with exp := ex, mant := mt, srcs := (List.range n).map fun j => num bs (128 + 32 * j) 32 } : Ms), (0 : Int)) = _
          rw [hq]
          rfl
        · refine ⟨decide_eq_true hc.1, by show (tkS bs n (128, 0)).2.2 = 0; rw [hS], by show 8 * bs.length - (tkS bs n (128, 0)).2.1 = 0; rw [hS]; show 8 * bs.length - (128 + 32 * n) = 0; omega, decide_eq_true ?_⟩
          have hlen := tkS_length bs (128, 0) n
          unfold okMs
          simp [msB, hlen]
          omega
      · have hR : ¬ (8 ≤ bs.length - 8 ∧ (bs.drop 8).take 4 = [82, 69, 77, 66] ∧ bs.length - 8 = 8 + 4 * n) := fun h => hc h.2
        rw [if_neg hR, if_neg]
        rintro ⟨h3, h4, h5, -⟩
        have h4 : (tkS bs n (128, 0)).2.2 = 0 := h4
        have h5 : 8 * bs.length - (tkS bs n (128, 0)).2.1 = 0 := h5
        have h6 := of_decide_eq_true h3
        have h7 := tkS_pos bs 128 (by omega) n h4
        rw [tkS_ok bs 128 n h7] at h5
        simp only at h5
        exact hc ⟨h6, by omega⟩
    · have hR : ¬ (8 ≤ bs.length - 8 ∧ (bs.drop 8).take 4 = [82, 69, 77, 66] ∧ bs.length - 8 = 8 + 4 * bs.getD 12 0) := fun h => h16 (by have := h.1; omega)
      rw [if_neg hR, if_neg]
      rintro ⟨-, h4, -, -⟩
      refine tkS_bad bs _ ?_ _ h4
      by_cases h13 : 13 ≤ bs.length
      · rw [tk_ok bs 8 96 (by omega) (by omega)]
        simp only
        by_cases h14 : 14 ≤ bs.length
        · rw [tk_ok bs 6 104 (by omega) (by omega)]
          simp only
          exact (tk_short bs 18 110 (by omega) (by omega)).2
        · exact (tk_bad bs 18 _ (tk_short bs 6 104 (by omega) (by omega)).2).2
      · exact (tk_bad bs 18 _ (tk_bad bs 6 _ (tk_short bs 8 96 (by omega) (by omega)).2).2).2
  · unfold fans
    have hR : ¬ (8 ≤ bs.length - 8 ∧ (bs.drop 8).take 4 = [82, 69, 77, 66] ∧ bs.length - 8 = 8 + 4 * bs.getD 12 0) := fun h => h12 (by have := h.1; omega)
    rw [if_neg hR, if_neg]
    rintro ⟨-, h4, -, -⟩
    unfold fmk at h4
    rw [h1, h2, e, es] at h4
    exact tkMs_bad _ _ _ (bys_short bs 4 64 (by omega) (by omega)).2 h4
theorem fans_is (kd ct : Nat) (bs : List Nat) (hb : ∀ x ∈ bs, x < 256) (hl : bs.length ≤ 10000) (hs : sOf kd ct ≠ 0) : fans (sOf kd ct) bs = rparse kd ct bs := by
  have h5 := sOf_lt kd ct
  unfold rparse
  rw [if_neg hs]
  by_cases h8 : bs.length < 8
  · rw [if_pos h8, fans_short _ _ h8]
  · rw [if_neg h8]
    have h : sOf kd ct = 1 ∨ sOf kd ct = 2 ∨ sOf kd ct = 3 ∨ sOf kd ct = 4 := by omega
    rcases h with h | h | h | h
    · rw [h, if_pos rfl, fans_1 bs hb hl (by omega)]
    · rw [h, if_neg (by decide), if_pos rfl, fans_2 bs hb (by omega)]
    · rw [h, if_neg (by decide), if_neg (by decide), if_pos rfl, fans_3 bs hb hl (by omega)]
    · rw [h, if_neg (by decide), if_neg (by decide), if_neg (by decide), fans_4 bs hb (by omega)]
end Go.Proofs.Ytefcimkopgcagaa
