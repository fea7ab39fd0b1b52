/- What a packet writes is parsed as it was; what is parsed is written as it was: plainly. Conditions: as each says. -/
import Derived.Test.YtfnbndbchndlhaaRtpG
import Derived.Test.YtfnbndbchndlhaaRtpD
set_option linter.unusedVariables false
namespace Go.Proofs.Ytfnbndbchndlhaa
open Go.RowKit

theorem be_b4 (n : Nat) (h : n < 4294967296) : be (b4 n) = n := by
  unfold b4
  rw [be4]
  omega
theorem be_b2 (n : Nat) (h : n < 65536) : be (b2 n) = n := by
  unfold b2
  rw [be2]
  omega
theorem b4_be (x y z t : Nat) (hx : x < 256) (hy : y < 256) (hz : z < 256) (ht : t < 256) : b4 (be [x, y, z, t]) = [x, y, z, t] := by
  rw [be4]
  unfold b4
  have h1 : (x * 16777216 + y * 65536 + z * 256 + t) / 16777216 % 256 = x := by omega
  have h2 : (x * 16777216 + y * 65536 + z * 256 + t) / 65536 % 256 = y := by omega
  have h3 : (x * 16777216 + y * 65536 + z * 256 + t) / 256 % 256 = z := by omega
  have h4 : (x * 16777216 + y * 65536 + z * 256 + t) % 256 = t := by omega
  rw [h1, h2, h3, h4]
theorem b2_be (x y : Nat) (hx : x < 256) (hy : y < 256) : b2 (be [x, y]) = [x, y] := by
  rw [be2]
  unfold b2
  have h1 : (x * 256 + y) / 256 % 256 = x := by omega
  have h2 : (x * 256 + y) % 256 = y := by omega
  rw [h1, h2]
theorem csrcOf_enc (r : List Nat) : ∀ (k : Nat) (xs : List Nat), (∀ x ∈ xs, x < 4294967296) → k ≤ xs.length → csrcOf (xs.flatMap b4 ++ r) k = xs.take k := by
  intro k
  induction k with
  | zero => intro xs _ _; rfl
  | succ k ih =>
    intro xs hx hk
    have hlt : k < xs.length := hk
    show csrcOf (xs.flatMap b4 ++ r) k ++ [be (((xs.flatMap b4 ++ r).drop (4 * k)).take 4)] = _
    rw [ih xs hx (by omega), List.take_succ_eq_append_getElem hlt]
    congr 1
    have hsplit : xs.flatMap b4 = (xs.take k).flatMap b4 ++ (b4 xs[k] ++ (xs.drop (k + 1)).flatMap b4) := by
      have e := congrArg (List.flatMap b4) (List.take_append_drop k xs).symm
      rw [List.drop_eq_getElem_cons hlt, List.flatMap_append, List.flatMap_cons] at e
      exact e
    have hl : ((xs.take k).flatMap b4).length = 4 * k := by rw [flat4, List.length_take]; omega
    rw [hsplit, List.append_assoc, List.drop_append_of_le_length (by omega), ← hl, List.drop_length, List.nil_append, List.append_assoc]
    have h4 : (b4 xs[k] ++ ((xs.drop (k + 1)).flatMap b4 ++ r)).take 4 = b4 xs[k] := by simp [b4]
    rw [h4, be_b4 _ (hx _ (List.getElem_mem _))]
theorem csrcOf_flat (bs : List Nat) (hb : ∀ x ∈ bs, x < 256) : ∀ n, 4 * n ≤ bs.length → (csrcOf bs n).flatMap b4 = bs.take (4 * n) := by
  intro n
  induction n with
  | zero => intro _; rfl
  | succ n ih =>
    intro h
    show (csrcOf bs n ++ [be ((bs.drop (4 * n)).take 4)]).flatMap b4 = _
    rw [List.flatMap_append, ih (by omega)]
    rw [four_of bs (4 * n) (by omega)]
    simp only [List.flatMap_cons, List.flatMap_nil, List.append_nil]
    rw [b4_be _ _ _ _ (hb _ (List.getElem_mem _)) (hb _ (List.getElem_mem _)) (hb _ (List.getElem_mem _)) (hb _ (List.getElem_mem _)), ← four_of bs (4 * n) (by omega)]
    rw [show 4 * (n + 1) = 4 * n + 4 by omega, List.take_add]
theorem csrcOf_lt (bs : List Nat) (hb : ∀ x ∈ bs, x < 256) : ∀ n, 4 * n ≤ bs.length → ∀ x ∈ csrcOf bs n, x < 4294967296 := by
  intro n
  induction n with
  | zero => intro _ x hx; cases hx
  | succ n ih =>
    intro h x hx
    have hx : x ∈ csrcOf bs n ++ [be ((bs.drop (4 * n)).take 4)] := hx
    rcases List.mem_append.1 hx with h' | h'
    · exact ih (by omega) x h'
    · rw [List.mem_singleton] at h'
      subst h'
      exact be4_lt bs (4 * n) hb (by omega)

/-- What a packet writes, its first twelve bytes one by one. -/
def Pk.body (p : Pk) : List Nat := p.csrc.flatMap b4 ++ (p.tail ++ (p.pay ++ padOf p.pad))
theorem enc_body (p : Pk) : p.enc = [p.first, p.second] ++ b2 p.seq ++ b4 p.time ++ b4 p.ssrc ++ p.body := by
  simp [Pk.enc, Pk.head, Pk.body, List.append_assoc]

section
variable (p : Pk)
theorem enc_drop12 : p.enc.drop 12 = p.body := by rw [enc_body]; simp [b2, b4]
theorem enc_b0 : b0 p.enc = p.first := by rw [enc_body]; simp [b0, b2, b4]
theorem enc_b1 : p.enc.getD 1 0 = p.second := by rw [enc_body]; simp [b2, b4]
theorem enc_len : 12 ≤ p.enc.length := by rw [enc_body]; simp [b2, b4]
end

theorem first_many (p : Pk) (h : p.csrc.length ≤ 15) : p.first % 16 = p.csrc.length ∧ p.first / 64 = 2 ∧ (p.first / 16 % 2 = 1 ↔ p.hasExt = true) ∧ (p.first / 32 % 2 = 1 ↔ p.pad ≠ 0) ∧ p.first < 256 := by
  unfold Pk.first
  cases p.hasExt <;> by_cases h0 : p.pad = 0 <;> simp [h0] <;> omega
theorem second_of (p : Pk) (h : p.ty ≤ 127) : p.second % 128 = p.ty ∧ decide (128 ≤ p.second) = p.marker := by
  unfold Pk.second
  cases p.marker <;> simp <;> omega
theorem lastOf_pad (xs : List Nat) (n : Nat) (h : n ≠ 0) : lastOf (xs ++ padOf n) = n := by
  unfold lastOf padOf
  rw [if_neg h]
  simp

theorem parse_enc (p : Pk) (hf : p.Fit) (hr : p.right = true) : parseErr p.enc = 0 ∧ parsed p.enc = p := by
  have hrr : p.ty ≤ 127 ∧ p.csrc.length ≤ 15 ∧ p.ext.length % 4 = 0 ∧ p.ext.length ≤ 262140 ∧ (p.hasExt = true ∨ (p.profile = 0 ∧ p.ext.length = 0)) := by simpa [Pk.right] using hr
  obtain ⟨hty, hcl, hem, hel, hxe⟩ := hrr
  obtain ⟨f1, f2, f3, f4, f5⟩ := first_many p hcl
  obtain ⟨s1, s2⟩ := second_of p hty
  have hd := enc_drop12 p
  have hm : many p.enc = p.csrc.length := by unfold many; rw [enc_b0, f1]
  have hX : hasX p.enc = p.hasExt := by
    unfold hasX
    rw [enc_b0]
    cases h : p.hasExt
    · exact decide_eq_false (fun e => by have := f3.1 e; rw [h] at this; cases this)
    · exact decide_eq_true (f3.2 h)
  have hP : hasP p.enc = decide (p.pad ≠ 0) := by
    unfold hasP
    rw [enc_b0]
    exact decide_eq_decide.2 f4
  have hr1 : rest1 p.enc = p.tail ++ (p.pay ++ padOf p.pad) := by
    unfold rest1
    rw [hd, hm]
    unfold Pk.body
    rw [← flat4, List.drop_left]
  have hc : csrcOf (p.enc.drop 12) (many p.enc) = p.csrc := by
    rw [hd, hm]
    unfold Pk.body
    rw [csrcOf_enc _ _ _ hf.csrc (Nat.le_refl _), List.take_length]
  have hEnd : p.hasExt = true → extEnd (rest1 p.enc) = 4 + p.ext.length ∧ (rest1 p.enc) = b2 p.profile ++ b2 (p.ext.length / 4) ++ p.ext ++ (p.pay ++ padOf p.pad) := by
    intro h
    have e : rest1 p.enc = b2 p.profile ++ b2 (p.ext.length / 4) ++ p.ext ++ (p.pay ++ padOf p.pad) := by rw [hr1]; simp [Pk.tail, h]
    refine ⟨?_, e⟩
    unfold extEnd
    have : ((rest1 p.enc).drop 2).take 2 = b2 (p.ext.length / 4) := by rw [e]; simp [b2]
    rw [this, be_b2 _ (by omega)]
    omega
  have hr2 : rest2 p.enc = p.pay ++ padOf p.pad := by
    unfold rest2
    rw [hX]
    cases h : p.hasExt
    · rw [if_neg (by simp), hr1]
      simp [Pk.tail, h]
    · rw [if_pos rfl]
      obtain ⟨e1, e2⟩ := hEnd h
      rw [e1, e2]
      have : (b2 p.profile ++ b2 (p.ext.length / 4) ++ p.ext).length = 4 + p.ext.length := by simp [b2]; omega
      rw [← this, List.drop_left]
  have hEB : extBad p.enc = false := by
    unfold extBad
    rw [hX]
    cases h : p.hasExt
    · rfl
    · obtain ⟨e1, e2⟩ := hEnd h
      have hl : (rest1 p.enc).length = 4 + p.ext.length + (p.pay ++ padOf p.pad).length := by rw [e2]; simp [b2]; omega
      rw [e1]
      simp
      omega
  have hPN : padN p.enc = p.pad := by
    unfold padN
    rw [hP, hr2]
    by_cases h : p.pad = 0
    · simp [h]
    · simp [h, lastOf_pad]
  have hPB : padBad p.enc = false := by
    unfold padBad
    rw [hP, hr2]
    by_cases h : p.pad = 0
    · simp [h]
    · simp only [lastOf_pad _ _ h, List.length_append, padOf_length]
      have : decide (0 < p.pad ∧ p.pad ≤ p.pay.length + p.pad) = true := decide_eq_true ⟨by omega, by omega⟩
      rw [this]
      simp
  have hcs : 4 * many p.enc ≤ (p.enc.drop 12).length := by
    rw [hd, hm]
    unfold Pk.body
    rw [List.length_append, flat4]
    omega
  refine ⟨?_, ?_⟩
  · unfold parseErr
    have := enc_len p
    rw [if_neg (by omega), if_neg (by rw [enc_b0, f2]; simp), if_neg (by omega), hEB, hPB]
    simp
  · unfold parsed
    rw [enc_b1, s1, s2, hc, hX, hPN, hr2]
    have e2 : be ((p.enc.drop 2).take 2) = p.seq := by rw [enc_body]; simp only [b2, b4, List.cons_append, List.nil_append, List.drop_succ_cons, List.drop_zero, List.take_succ_cons, List.take_zero]; exact be_b2 _ hf.seq
    have e4 : be ((p.enc.drop 4).take 4) = p.time := by rw [enc_body]; simp only [b2, b4, List.cons_append, List.nil_append, List.drop_succ_cons, List.drop_zero, List.take_succ_cons, List.take_zero]; exact be_b4 _ hf.time
    have e8 : be ((p.enc.drop 8).take 4) = p.ssrc := by rw [enc_body]; simp only [b2, b4, List.cons_append, List.nil_append, List.drop_succ_cons, List.drop_zero, List.take_succ_cons, List.take_zero]; exact be_b4 _ hf.ssrc
    rw [e2, e4, e8]
    have ep : (p.pay ++ padOf p.pad).take ((p.pay ++ padOf p.pad).length - p.pad) = p.pay := by
      have : (p.pay ++ padOf p.pad).length - p.pad = p.pay.length := by rw [List.length_append, padOf_length]; omega
      rw [this, List.take_left]
    rw [ep]
    cases h : p.hasExt
    · rcases hxe with hx | ⟨hx1, hx2⟩
      · rw [h] at hx; cases hx
      · obtain ⟨m, ty, sq, tm, ss, cs, hx, pr, ex, py, pd⟩ := p
        simp only at h hx1 hx2 ⊢
        have : ex = [] := List.eq_nil_of_length_eq_zero hx2
        subst this h hx1
        simp
    · obtain ⟨e1, e2⟩ := hEnd h
      have q1 : be ((rest1 p.enc).take 2) = p.profile := by rw [e2]; simp only [b2, List.cons_append, List.nil_append, List.take_succ_cons, List.take_zero]; exact be_b2 _ hf.profile
      have q2 : ((rest1 p.enc).drop 4).take (extEnd (rest1 p.enc) - 4) = p.ext := by
        rw [e1, e2]
        simp only [b2, List.cons_append, List.nil_append, List.drop_succ_cons, List.drop_zero]
        rw [show 4 + p.ext.length - 4 = p.ext.length by omega, List.take_left]
      simp only [if_true, q1, q2]
      rw [← h]

theorem first_back (b : Nat) (h : b < 256) (hv : b / 64 = 2) : 128 + b % 16 + (if b / 32 % 2 = 1 then 32 else 0) + (if b / 16 % 2 = 1 then 16 else 0) = b := by
  split <;> split <;> omega
theorem take_last (xs : List Nat) (n : Nat) (h0 : 0 < xs.length) : xs.take (xs.length - 1) ++ [lastOf xs] = xs := by
  have hg := lastOf_get xs h0
  have hlt : xs.length - 1 < xs.length := by omega
  rw [List.getElem?_eq_getElem hlt] at hg
  injection hg with hg
  rw [← hg, ← List.take_succ_eq_append_getElem hlt, show xs.length - 1 + 1 = xs.length by omega, List.take_length]

/-- What is parsed is right, and its numbers fit; written, it is the bytes, but for the padding's. -/
theorem enc_parse (bs : List Nat) (hb : ∀ x ∈ bs, x < 256) (hl : bs.length ≤ 2000) (he : parseErr bs = 0) :
    (parsed bs).Fit ∧ (parsed bs).right = true ∧ padN bs ≤ bs.length ∧ padN bs < 256 ∧ (parsed bs).enc = bs.take (bs.length - padN bs) ++ padOf (padN bs) ∧ (0 < padN bs → lastOf bs = padN bs) := by
  have h12 : 12 ≤ bs.length := by
    apply Classical.byContradiction
    intro h
    unfold parseErr at he
    rw [if_pos (by omega)] at he
    cases he
  have hver : b0 bs / 64 = 2 := by
    apply Classical.byContradiction
    intro h
    unfold parseErr at he
    rw [if_neg (by omega), if_pos h] at he
    cases he
  have hcs : 4 * many bs ≤ (bs.drop 12).length := by
    apply Classical.byContradiction
    intro h
    unfold parseErr at he
    rw [if_neg (by omega), if_neg (by omega), if_pos (by omega)] at he
    cases he
  have heb : extBad bs = false := by
    cases h : extBad bs
    · rfl
    · unfold parseErr at he
      rw [if_neg (by omega), if_neg (by omega), if_neg (by omega), if_pos h] at he
      cases he
  have hpb : padBad bs = false := by
    cases h : padBad bs
    · rfl
    · unfold parseErr at he
      rw [if_neg (by omega), if_neg (by omega), if_neg (by omega), if_neg (by simp [heb]), if_pos h] at he
      cases he
  have hb12 : ∀ x ∈ bs.drop 12, x < 256 := fun x hx => hb x (List.drop_subset 12 bs hx)
  have hr1 : ∀ x ∈ rest1 bs, x < 256 := fun x hx => hb12 x (List.drop_subset _ _ hx)
  have hr2 : ∀ x ∈ rest2 bs, x < 256 := fun x hx => hr1 x (by unfold rest2 at hx; split at hx; exact List.drop_subset _ _ hx; exact hx)
  have hc0 : b0 bs < 256 := by
    have : b0 bs = bs[0]'(by omega) := by unfold b0; rw [List.getD_eq_getElem?_getD, List.getElem?_eq_getElem (by omega)]; rfl
    rw [this]; exact hb _ (List.getElem_mem _)
  have hc1 : bs.getD 1 0 < 256 := by
    have : bs.getD 1 0 = bs[1]'(by omega) := by rw [List.getD_eq_getElem?_getD, List.getElem?_eq_getElem (by omega)]; rfl
    rw [this]; exact hb _ (List.getElem_mem _)
  -- the extension
  have hex : hasX bs = true → 4 ≤ (rest1 bs).length ∧ extEnd (rest1 bs) ≤ (rest1 bs).length := by
    intro h
    unfold extBad at heb
    rw [h] at heb
    simp at heb
    exact heb
  have hxl : ∀ h : hasX bs = true, (((rest1 bs).drop 4).take (extEnd (rest1 bs) - 4)).length = 4 * be (((rest1 bs).drop 2).take 2) := by
    intro h
    obtain ⟨h1, h2⟩ := hex h
    have : extEnd (rest1 bs) = 4 + 4 * be (((rest1 bs).drop 2).take 2) := rfl
    rw [List.length_take, List.length_drop]
    omega
  -- the padding
  have hpad : padN bs ≤ (rest2 bs).length ∧ (0 < padN bs → lastOf (rest2 bs) = padN bs) ∧ (padN bs ≠ 0 ↔ hasP bs = true) ∧ padN bs < 256 := by
    unfold padN
    cases h : hasP bs
    · simp
    · unfold padBad at hpb
      rw [h] at hpb
      simp at hpb
      simp only [if_true]
      refine ⟨hpb.2, fun _ => by trivial, ⟨fun _ => by trivial, fun _ => by omega⟩, ?_⟩
      exact hr2 _ (List.mem_of_getElem? (lastOf_get _ (by omega)))
  obtain ⟨hp1, hp2, hp3, hp4⟩ := hpad
  have hR1 : bs.drop 12 = (bs.drop 12).take (4 * many bs) ++ rest1 bs := (List.take_append_drop _ _).symm
  have hR2 : ∀ h : hasX bs = true, rest1 bs = (rest1 bs).take (extEnd (rest1 bs)) ++ rest2 bs := fun h => by
    have : rest2 bs = (rest1 bs).drop (extEnd (rest1 bs)) := by unfold rest2; rw [if_pos h]
    rw [this, List.take_append_drop]
  have hlen : (rest2 bs).length ≤ (rest1 bs).length ∧ (rest1 bs).length + 4 * many bs + 12 = bs.length := by
    constructor
    · unfold rest2; split
      · rw [List.length_drop]; omega
      · exact Nat.le_refl _
    · unfold rest1; rw [List.length_drop, List.length_drop]; rw [List.length_drop] at hcs; omega
  have hfit : (parsed bs).Fit := by
    refine ⟨?_, ?_, ?_, ?_, ?_, ?_, ?_, ?_, ?_⟩
    · show bs.getD 1 0 % 128 < 256; omega
    · exact be2_lt bs 2 hb (by omega)
    · exact be4_lt bs 4 hb (by omega)
    · exact be4_lt bs 8 hb (by omega)
    · exact csrcOf_lt _ hb12 _ hcs
    · show (if hasX bs then be ((rest1 bs).take 2) else 0) < 65536
      split
      · rename_i h
        have := be2_lt (rest1 bs) 0 hr1 (by have := (hex h).1; omega)
        simpa using this
      · decide
    · intro x hx
      have hx : x ∈ (if hasX bs then ((rest1 bs).drop 4).take (extEnd (rest1 bs) - 4) else []) := hx
      split at hx
      · exact hr1 x (List.drop_subset _ _ (List.take_subset _ _ hx))
      · cases hx
    · intro x hx
      exact hr2 x (List.take_subset _ _ hx)
    · exact hp4
  have hright : (parsed bs).right = true := by
    unfold Pk.right
    refine decide_eq_true ⟨?_, ?_, ?_, ?_, ?_⟩
    · show bs.getD 1 0 % 128 ≤ 127; omega
    · show (csrcOf (bs.drop 12) (many bs)).length ≤ 15
      rw [csrcOf_length]; unfold many; omega
    · show (if hasX bs then ((rest1 bs).drop 4).take (extEnd (rest1 bs) - 4) else []).length % 4 = 0
      split
      · rename_i h; rw [hxl h]; omega
      · rfl
    · show (if hasX bs then ((rest1 bs).drop 4).take (extEnd (rest1 bs) - 4) else []).length ≤ 262140
      split
      · rw [List.length_take, List.length_drop]; omega
      · decide
    · show hasX bs = true ∨ ((if hasX bs then be ((rest1 bs).take 2) else 0) = 0 ∧ (if hasX bs then ((rest1 bs).drop 4).take (extEnd (rest1 bs) - 4) else []).length = 0)
      cases h : hasX bs
      · exact .inr ⟨rfl, rfl⟩
      · exact .inl rfl
  have hrest : (rest2 bs).take ((rest2 bs).length - padN bs) = (parsed bs).pay := rfl
  -- the bytes, part by part
  have hfirst : (parsed bs).first = b0 bs := by
    unfold Pk.first
    show 128 + (csrcOf (bs.drop 12) (many bs)).length + (if padN bs = 0 then 0 else 32) + (if hasX bs = true then 16 else 0) = b0 bs
    rw [csrcOf_length]
    have e := first_back (b0 bs) hc0 hver
    have e1 : (if padN bs = 0 then 0 else 32) = (if b0 bs / 32 % 2 = 1 then 32 else 0) := by
      by_cases h : b0 bs / 32 % 2 = 1
      · have : padN bs ≠ 0 := hp3.2 (decide_eq_true h)
        rw [if_neg this, if_pos h]
      · have : padN bs = 0 := by
          apply Classical.byContradiction
          intro hne
          have := hp3.1 hne
          exact h (of_decide_eq_true this)
        rw [if_pos this, if_neg h]
    have e2 : (if hasX bs = true then 16 else 0) = (if b0 bs / 16 % 2 = 1 then 16 else 0) := by
      by_cases h : b0 bs / 16 % 2 = 1
      · have hx : hasX bs = true := decide_eq_true h
        rw [if_pos h, if_pos hx]
      · have hx : ¬ hasX bs = true := fun e => h (of_decide_eq_true e)
        rw [if_neg h, if_neg hx]
    rw [e1, e2]
    exact e
  have hsecond : (parsed bs).second = bs.getD 1 0 := by
    unfold Pk.second
    show bs.getD 1 0 % 128 + (if decide (128 ≤ bs.getD 1 0) = true then 128 else 0) = bs.getD 1 0
    by_cases h : 128 ≤ bs.getD 1 0
    · rw [if_pos (decide_eq_true h)]; omega
    · rw [if_neg (fun e => h (of_decide_eq_true e))]; omega
  have hhead : (parsed bs).head = bs.take 12 := by
    unfold Pk.head
    rw [hfirst, hsecond]
    show [b0 bs, bs.getD 1 0] ++ b2 (be ((bs.drop 2).take 2)) ++ b4 (be ((bs.drop 4).take 4)) ++ b4 (be ((bs.drop 8).take 4)) = bs.take 12
    have m : ∀ i (h : i < bs.length), bs[i] < 256 := fun i h => hb _ (List.getElem_mem _)
    rw [two_of bs 2 (by omega), four_of bs 4 (by omega), four_of bs 8 (by omega), b2_be _ _ (m _ _) (m _ _), b4_be _ _ _ _ (m _ _) (m _ _) (m _ _) (m _ _), b4_be _ _ _ _ (m _ _) (m _ _) (m _ _) (m _ _), ← two_of bs 2 (by omega), ← four_of bs 4 (by omega), ← four_of bs 8 (by omega)]
    have e0 : [b0 bs, bs.getD 1 0] = bs.take 2 := by
      have := two_of bs 0 (by omega)
      rw [List.drop_zero] at this
      rw [this]
      congr 1
      · unfold b0; rw [List.getD_eq_getElem?_getD, List.getElem?_eq_getElem (by omega)]; rfl
      · congr 1
        rw [List.getD_eq_getElem?_getD, List.getElem?_eq_getElem (by omega)]; rfl
    rw [e0, ← List.take_add, ← List.take_add, ← List.take_add]
  have hcsrc : (parsed bs).csrc.flatMap b4 = (bs.drop 12).take (4 * many bs) := csrcOf_flat _ hb12 _ hcs
  have htail : (parsed bs).tail ++ rest2 bs = rest1 bs := by
    unfold Pk.tail
    show (if hasX bs = true then b2 (if hasX bs then be ((rest1 bs).take 2) else 0) ++ b2 ((if hasX bs then ((rest1 bs).drop 4).take (extEnd (rest1 bs) - 4) else []).length / 4) ++ (if hasX bs then ((rest1 bs).drop 4).take (extEnd (rest1 bs) - 4) else []) else []) ++ rest2 bs = rest1 bs
    cases h : hasX bs
    · simp only [Bool.false_eq_true, if_false, List.nil_append]
      unfold rest2; rw [if_neg (by simp [h])]
    · simp only [if_true]
      obtain ⟨h1, h2⟩ := hex h
      have m : ∀ i (h : i < (rest1 bs).length), (rest1 bs)[i] < 256 := fun i h => hr1 _ (List.getElem_mem _)
      rw [hxl h, show 4 * be (((rest1 bs).drop 2).take 2) / 4 = be (((rest1 bs).drop 2).take 2) by omega]
      have t0 := two_of (rest1 bs) 0 (by omega)
      rw [List.drop_zero] at t0
      rw [two_of (rest1 bs) 2 (by omega), t0, b2_be _ _ (m _ _) (m _ _), b2_be _ _ (m _ _) (m _ _), ← t0, ← two_of (rest1 bs) 2 (by omega), ← List.take_add]
      have : (rest1 bs).take (2 + 2) ++ ((rest1 bs).drop 4).take (extEnd (rest1 bs) - 4) = (rest1 bs).take (extEnd (rest1 bs)) := by
        rw [← List.take_add, show 2 + 2 + (extEnd (rest1 bs) - 4) = extEnd (rest1 bs) by (have : extEnd (rest1 bs) = 4 + 4 * be (((rest1 bs).drop 2).take 2) := rfl); omega]
      rw [this]
      exact (hR2 h).symm
  have hall : bs = bs.take 12 ++ ((bs.drop 12).take (4 * many bs) ++ ((parsed bs).tail ++ rest2 bs)) := by
    rw [htail, ← hR1, List.take_append_drop]
  have hPl : padN bs ≤ bs.length := by omega
  refine ⟨hfit, hright, hPl, hp4, ?_, ?_⟩
  · unfold Pk.enc
    rw [hhead, hcsrc]
    show bs.take 12 ++ (bs.drop 12).take (4 * many bs) ++ (parsed bs).tail ++ (rest2 bs).take ((rest2 bs).length - padN bs) ++ padOf (padN bs) = _
    congr 1
    have hX : bs = (bs.take 12 ++ (bs.drop 12).take (4 * many bs) ++ (parsed bs).tail) ++ rest2 bs := by rw [List.append_assoc, List.append_assoc]; exact hall
    have hL := congrArg List.length hX
    rw [List.length_append] at hL
    generalize bs.take 12 ++ (bs.drop 12).take (4 * many bs) ++ (parsed bs).tail = X at *
    have e : bs.take (bs.length - padN bs) = (X ++ rest2 bs).take (bs.length - padN bs) := by rw [← hX]
    have eX : X.take (bs.length - padN bs) = X := List.take_of_length_le (by omega)
    rw [e, List.take_append, eX, show bs.length - padN bs - X.length = (rest2 bs).length - padN bs by omega]
  · intro h
    rw [← hp2 h]
    have h2 : 0 < (rest2 bs).length := by omega
    conv => lhs; rw [hall]
    unfold lastOf
    rw [← List.append_assoc, ← List.append_assoc, List.getLast?_append]
    have : (rest2 bs).getLast? ≠ none := by
      rw [ne_eq, List.getLast?_eq_none_iff]
      intro e
      rw [e] at h2
      cases h2
    cases h : (rest2 bs).getLast? with
    | none => exact absurd h this
    | some x => rfl
end Go.Proofs.Ytfnbndbchndlhaa
