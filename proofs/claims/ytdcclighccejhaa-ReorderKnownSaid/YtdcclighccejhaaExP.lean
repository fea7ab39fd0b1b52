/- Elements of a header's extension, plainly: what bytes tell, how elements are written, which form a profile tells. Conditions: none. -/
import Derived.Test.YtdcclighccejhaaBitsM
set_option linter.unusedVariables false
namespace Go.Proofs.Ytdcclighccejhaa

structure El where
  id : Nat
  data : List Nat
/-- The form that a profile tells: 1, 2, or 0 (none). -/
def formB (p : Nat) : Nat := if p = 48862 then 1 else if 4096 ≤ p ∧ p ≤ 4111 then 2 else 0
/-- May the form of one byte (or of two) hold an element? -/
def elOk (one : Bool) (x : El) : Bool := if one then decide (1 ≤ x.id ∧ x.id ≤ 14 ∧ 1 ≤ x.data.length ∧ x.data.length ≤ 16) else decide (1 ≤ x.id ∧ x.data.length ≤ 255)
def elEnc (one : Bool) (x : El) : List Nat := if one then (x.id * 16 + (x.data.length - 1)) :: x.data else x.id :: x.data.length :: x.data
def elsEnc (one : Bool) (l : List El) : List Nat := l.flatMap (elEnc one)
def noughts4 (n : Nat) : Nat := (4 - n % 4) % 4
def exPut (one : Bool) (l : List El) : List Nat := elsEnc one l ++ List.replicate (noughts4 (elsEnc one l).length) 0
def putErr (p : Nat) (l : List El) : Nat := if formB p = 0 then 30 else if l.all (elOk (formB p == 1)) then 0 else 31

/-- How the next element begins: 0: padding; 1: that ends all; 2: an element that may not be; 3: there is too little; 4: an element. -/
def exKind (one : Bool) (bs : List Nat) : Nat :=
  match bs with
  | [] => 5
  | b :: r => if b = 0 then 0 else if one then (if b / 16 = 15 then 1 else if b / 16 = 0 then 2 else if r.length < b % 16 + 1 then 3 else 4)
      else match r with
        | [] => 3
        | m :: r' => if r'.length < m then 3 else 4
/-- The element, and how many bytes it has. -/
def exEl (one : Bool) (bs : List Nat) : El :=
  match bs with
  | [] => ⟨0, []⟩
  | b :: r => if one then ⟨b / 16, r.take (b % 16 + 1)⟩ else ⟨b, (r.drop 1).take (r.headD 0)⟩
def exLen (one : Bool) (bs : List Nat) : Nat :=
  match bs with
  | [] => 0
  | b :: r => if one then 1 + (b % 16 + 1) else 2 + r.headD 0
theorem exLen_le {one : Bool} {bs : List Nat} (h : exKind one bs = 4) : 1 ≤ exLen one bs ∧ exLen one bs ≤ bs.length := by
  cases bs with
  | nil => simp [exKind] at h
  | cons b r =>
    unfold exKind at h
    unfold exLen
    by_cases h0 : b = 0
    · simp [h0] at h
    · cases one
      · cases r with
        | nil => simp [h0] at h
        | cons m r' =>
          simp only [h0, if_false, Bool.false_eq_true] at h
          simp only [Bool.false_eq_true, if_false, List.headD_cons, List.length_cons]
          by_cases hm : r'.length < m
          · simp [hm] at h
          · omega
      · simp only [h0, if_false, if_true] at h
        simp only [if_true, List.length_cons]
        by_cases h1 : b / 16 = 15
        · simp [h1] at h
        · by_cases h2 : b / 16 = 0
          · simp [h2] at h
          · by_cases h3 : r.length < b % 16 + 1
            · simp [h1, h2, h3] at h
            · omega
/-- What bytes tell: an error, or 0; the elements. -/
def exP (one : Bool) (bs : List Nat) : Nat × List El :=
  if h5 : bs = [] then (0, [])
  else if h0 : exKind one bs = 0 then exP one (bs.drop 1)
  else if exKind one bs = 1 then (0, [])
  else if exKind one bs = 2 then (31, [])
  else if h4 : exKind one bs = 4 then ((exP one (bs.drop (exLen one bs))).1, exEl one bs :: (exP one (bs.drop (exLen one bs))).2)
  else (10, [])
termination_by bs.length
decreasing_by
  · have : 0 < bs.length := List.length_pos_iff.2 h5
    rw [List.length_drop]
    omega
  all_goals
    have := exLen_le h4
    rw [List.length_drop]
    omega
theorem exP_nil (one : Bool) : exP one [] = (0, []) := by rw [exP]; simp
theorem exP_pad {one : Bool} {bs : List Nat} (hn : bs ≠ []) (h : exKind one bs = 0) : exP one bs = exP one (bs.drop 1) := by rw [exP, dif_neg hn, dif_pos h]
theorem exP_end {one : Bool} {bs : List Nat} (hn : bs ≠ []) (h : exKind one bs = 1) : exP one bs = (0, []) := by rw [exP, dif_neg hn, dif_neg (by rw [h]; decide), if_pos h]
theorem exP_bad {one : Bool} {bs : List Nat} (hn : bs ≠ []) (h : exKind one bs = 2) : exP one bs = (31, []) := by rw [exP, dif_neg hn, dif_neg (by rw [h]; decide), if_neg (by rw [h]; decide), if_pos h]
theorem exP_go {one : Bool} {bs : List Nat} (hn : bs ≠ []) (h : exKind one bs = 4) : exP one bs = ((exP one (bs.drop (exLen one bs))).1, exEl one bs :: (exP one (bs.drop (exLen one bs))).2) := by
  rw [exP, dif_neg hn, dif_neg (by rw [h]; decide), if_neg (by rw [h]; decide), if_neg (by rw [h]; decide), dif_pos h]
theorem exP_short {one : Bool} {bs : List Nat} (hn : bs ≠ []) (h : exKind one bs = 3) : exP one bs = (10, []) := by
  rw [exP, dif_neg hn, dif_neg (by rw [h]; decide), if_neg (by rw [h]; decide), if_neg (by rw [h]; decide), dif_neg (by rw [h]; decide)]
/-- The error of a profile and bytes. -/
def parErr (p : Nat) (bs : List Nat) : Nat := if formB p = 0 then 30 else if bs.length % 4 ≠ 0 then 3 else (exP (formB p == 1) bs).1
def parEls (p : Nat) (bs : List Nat) : List El := if parErr p bs = 0 then (exP (formB p == 1) bs).2 else []
theorem exKind_cases (one : Bool) (b : Nat) (r : List Nat) : exKind one (b :: r) = 0 ∨ exKind one (b :: r) = 1 ∨ exKind one (b :: r) = 2 ∨ exKind one (b :: r) = 3 ∨ exKind one (b :: r) = 4 := by
  unfold exKind
  by_cases h0 : b = 0
  · simp [h0]
  · cases one
    · cases r with
      | nil => simp [h0]
      | cons m r' => by_cases hm : r'.length < m <;> simp [h0, hm]
    · by_cases h1 : b / 16 = 15
      · simp [h0, h1]
      · by_cases h2 : b / 16 = 0
        · simp [h0, h2]
        · by_cases h3 : r.length < b % 16 + 1 <;> simp [h0, h1, h2, h3]
/-- An element of the form, from the bytes that it was told by. -/
theorem exEl_len {one : Bool} {bs : List Nat} (h : exKind one bs = 4) : (exEl one bs).data.length + (if one then 1 else 2) = exLen one bs := by
  have hl := exLen_le h
  cases bs with
  | nil => simp [exKind] at h
  | cons b r =>
    unfold exEl exLen at *
    cases one
    · simp only [Bool.false_eq_true, if_false, List.length_cons] at hl ⊢
      rw [List.length_take, List.length_drop]
      omega
    · simp only [if_true, List.length_cons] at hl ⊢
      rw [List.length_take]
      omega
/-- In all, elements have no more bytes than told them. -/
theorem exP_len (one : Bool) (bs : List Nat) : (exP one bs).2.length ≤ bs.length ∧ ∀ x ∈ (exP one bs).2, x.data.length ≤ bs.length := by
  induction hn : bs.length using Nat.strongRecOn generalizing bs with
  | _ n ih =>
    cases bs with
    | nil => rw [exP_nil]; simp
    | cons b r =>
      rcases exKind_cases one b r with h | h | h | h | h
      · rw [exP_pad (by simp) h, show (b :: r).drop 1 = r from rfl]
        have := ih r.length (by rw [← hn, List.length_cons]; omega) ((b :: r).drop 1) rfl
        simp only [List.drop_succ_cons, List.drop_zero] at this
        rw [← hn, List.length_cons]
        exact ⟨by omega, fun x hx => by have := this.2 x hx; omega⟩
      · rw [exP_end (by simp) h]; simp
      · rw [exP_bad (by simp) h]; simp
      · rw [exP_short (by simp) h]; simp
      · rw [exP_go (by simp) h]
        have hl := exLen_le h
        have he := exEl_len h
        have := ih ((b :: r).drop (exLen one (b :: r))).length (by rw [← hn, List.length_drop]; omega) _ rfl
        rw [List.length_drop] at this
        rw [← hn]
        refine ⟨by rw [List.length_cons]; omega, fun x hx => ?_⟩
        rcases List.mem_cons.1 hx with rfl | hx
        · omega
        · have := this.2 x hx; omega
end Go.Proofs.Ytdcclighccejhaa
