/- The pairs of numbers: plainly; feedback.Pairs. Conditions: as each says. -/
import Derived.Test.YtefcimkopgcagaaFbGr
import Derived.Laws.OwnMore
set_option linter.unusedVariables false
namespace Go.Proofs.Ytefcimkopgcagaa
open Go.RowKit

/-- A number with its k-th digit set. -/
def setb (b k : Nat) : Nat := if b / 2 ^ k % 2 = 1 then b else b + 2 ^ k
theorem or_setb (b k : Nat) (hb : b < 65536) (hk : k < 16) : b ||| 2 ^ k = setb b k := by
  unfold setb
  by_cases h : b / 2 ^ k % 2 = 1
  · rw [if_pos h]
    apply Nat.eq_of_testBit_eq
    intro i
    simp only [Nat.testBit_or, Nat.testBit_two_pow, Bool.or_eq_left_iff_imp, decide_eq_true_eq]
    rintro rfl
    rw [Nat.testBit_eq_decide_div_mod_eq, decide_eq_true h]
  · rw [if_neg h]
    have e : b &&& 2 ^ k = 0 := by
      apply Nat.eq_of_testBit_eq
      intro i
      rw [Nat.testBit_and, Nat.testBit_two_pow, Nat.zero_testBit]
      by_cases hi : k = i
      · subst hi
        rw [Nat.testBit_eq_decide_div_mod_eq, decide_eq_false h]
        rfl
      · rw [decide_eq_false hi, Bool.and_false]
    have h2 : 2 ^ k < 65536 := Nat.pow_lt_pow_right (by decide) hk
    have hv := BitVec.add_eq_or_of_and_eq_zero (BitVec.ofNat 20 b) (BitVec.ofNat 20 (2 ^ k)) (by
      apply BitVec.eq_of_toNat_eq
      simp only [BitVec.toNat_and, BitVec.toNat_ofNat]
      rw [Nat.mod_eq_of_lt (by omega), Nat.mod_eq_of_lt (by omega), e])
    have h3 := congrArg BitVec.toNat hv
    simp only [BitVec.toNat_add, BitVec.toNat_or, BitVec.toNat_ofNat] at h3
    rw [Nat.mod_eq_of_lt (a := b) (by omega), Nat.mod_eq_of_lt (a := 2 ^ k) (by omega), Nat.mod_eq_of_lt (by omega)] at h3
    exact h3.symm
theorem setb_lt (b k : Nat) (hb : b < 65536) (hk : k < 16) : setb b k < 65536 := by
  rw [← or_setb b k hb hk]
  exact Nat.or_lt_two_pow (n := 16) hb (Nat.pow_lt_pow_right (by decide) hk)
/-- How far a number is ahead of a pair. -/
def ahead (p : Pr) (n : Nat) : Nat := (n + 65536 - p.pid) % 65536
/-- One more number behind pairs, the last of which is p. -/
def put1 (i : List Pr) (p : Pr) (n : Nat) : List Pr :=
  if ahead p n = 0 then i ++ [p] else if ahead p n ≤ 16 then i ++ [⟨p.pid, setb p.blp (ahead p n - 1)⟩] else i ++ [p, ⟨n, 0⟩]
def pstep (out : List Pr) (n : Nat) : List Pr := match out.getLast? with
  | none => [⟨n, 0⟩]
  | some p => put1 out.dropLast p n
theorem pstep_nil (n : Nat) : pstep [] n = [⟨n, 0⟩] := rfl
theorem pstep_snoc (i : List Pr) (p : Pr) (n : Nat) : pstep (i ++ [p]) n = put1 i p n := by
  unfold pstep
  simp
def pairsOf (l : List Nat) : List Pr := l.foldl pstep []
theorem pairsOf_snoc (l : List Nat) (n : Nat) : pairsOf (l ++ [n]) = pstep (pairsOf l) n := by
  unfold pairsOf
  rw [List.foldl_append]
  rfl
theorem put1_len (i : List Pr) (p : Pr) (n : Nat) : (put1 i p n).length ≤ i.length + 2 := by
  unfold put1
  split
  · simp
  · split <;> simp
theorem put1_fit (i : List Pr) (p : Pr) (n : Nat) (hi : ∀ x ∈ i, x.Fit) (hp : p.Fit) (hn : n < 65536) : ∀ x ∈ put1 i p n, x.Fit := by
  have h0 : (⟨n, 0⟩ : Pr).Fit := ⟨hn, Nat.succ_pos _⟩
  unfold put1
  split
  · intro x hx
    rcases List.mem_append.1 hx with h | h
    · exact hi x h
    · rw [List.mem_singleton.1 h]; exact hp
  · split
    · intro x hx
      rcases List.mem_append.1 hx with h | h
      · exact hi x h
      · rw [List.mem_singleton.1 h]; exact ⟨hp.1, setb_lt _ _ hp.2 (by omega)⟩
    · intro x hx
      rcases List.mem_append.1 hx with h | h
      · exact hi x h
      · rcases List.mem_cons.1 h with rfl | h
        · exact hp
        · rw [List.mem_singleton.1 h]; exact h0
theorem pstep_fit (out : List Pr) (n : Nat) (ho : ∀ x ∈ out, x.Fit) (hn : n < 65536) : ∀ x ∈ pstep out n, x.Fit := by
  rcases List.eq_nil_or_concat out with rfl | ⟨i, p, e⟩
  · rw [pstep_nil]
    intro x hx
    rw [List.mem_singleton.1 hx]
    exact ⟨hn, Nat.succ_pos _⟩
  · subst e
    rw [List.concat_eq_append] at *
    rw [pstep_snoc]
    exact put1_fit i p n (fun x hx => ho x (by simp [hx])) (ho p (by simp)) hn
theorem pstep_len (out : List Pr) (n : Nat) : (pstep out n).length ≤ out.length + 1 := by
  rcases List.eq_nil_or_concat out with rfl | ⟨i, p, e⟩
  · simp [pstep_nil]
  · subst e
    rw [List.concat_eq_append, pstep_snoc, List.length_append, List.length_singleton]
    exact put1_len i p n
theorem pairsOf_all (l : List Nat) (hl : ∀ x ∈ l, x < 65536) : ∀ k, (pairsOf (l.take k)).length ≤ k ∧ ∀ x ∈ pairsOf (l.take k), x.Fit
  | 0 => ⟨by simp [pairsOf], by simp [pairsOf]⟩
  | k + 1 => by
    obtain ⟨h1, h2⟩ := pairsOf_all l hl k
    by_cases hk : k < l.length
    · obtain ⟨n, hn⟩ : ∃ n, l[k]? = some n := ⟨_, List.getElem?_eq_getElem hk⟩
      rw [take_snoc hn, pairsOf_snoc]
      have := pstep_len (pairsOf (l.take k)) n
      exact ⟨by omega, pstep_fit _ _ h2 (hl n (List.mem_of_getElem? hn))⟩
    · rw [List.take_of_length_le (by omega)]
      rw [List.take_of_length_le (by omega)] at h1 h2
      exact ⟨by omega, h2⟩
/-- The last pair's second number is written over. -/
theorem OwnP.put_last {B : Nat} {T : TypeId} {g m c : Nat} {i : List Pr} {p : Pr} {w : World} (h : OwnP B T (.slice (some ⟨g, 0, none⟩) (m + 1) c) (i ++ [p]) w) (hm : i.length = m) (b : Nat) :
    OwnP B T (.slice (some ⟨g, 0, none⟩) (m + 1) c) (i ++ [⟨p.pid, b⟩]) (w.setCell ⟨g, m * 2 + 1, none⟩ (.int .u16 (b : Nat))) := by
  have h1 := h.1
  have hlen : ((i ++ [p]).map Pr.lst).length = m + 1 := by simp [hm]
  have hlen2 : ((i ++ [(⟨p.pid, b⟩ : Pr)]).map Pr.lst).length = m + 1 := by simp [hm]
  rw [hlen] at h1
  have h2 := (h1.stored (m * 2 + 1) (.int .u16 (b : Nat))).1
  have e : ((i ++ [p]).map Pr.lst).flatten.set (m * 2 + 1) (.int .u16 (b : Nat)) = ((i ++ [(⟨p.pid, b⟩ : Pr)]).map Pr.lst).flatten := by
    have hf : ((i.map Pr.lst).flatten).length = m * 2 := by
      rw [flat_length (sz := 2) (i.map Pr.lst) (by intro x hx; obtain ⟨y, -, rfl⟩ := List.mem_map.1 hx; rfl), List.length_map, hm]
    rw [List.map_append, List.map_append, List.flatten_append, List.flatten_append, List.set_append_right _ _ (by omega), hf, show m * 2 + 1 - m * 2 = 1 from by omega]
    rfl
  rw [e] at h2
  refine ⟨by rw [hlen2]; exact h2, ?_⟩
  intro x hx
  obtain ⟨y, -, rfl⟩ := List.mem_map.1 hx
  rfl
theorem OwnP.last {B : Nat} {T : TypeId} {v : Value} {i : List Pr} {p : Pr} {w : World} (h : OwnP B T v (i ++ [p]) w) : ∃ g c, v = .slice (some ⟨g, 0, none⟩) (i.length + 1) c ∧ PCells w g 0 i.length p ∧ B ≤ g ∧ ∀ j, w.frozen? ⟨g, j, none⟩ = false := by
  obtain ⟨g, c, e, -, -, hb, hcell⟩ := OwnS.at_ h (by simp)
  have hlen : ((i ++ [p]).map Pr.lst).length = i.length + 1 := by simp
  rw [hlen] at e
  subst e
  have h0 := hcell i.length 0 p.lst (by simp) (by omega)
  have h1 := hcell i.length 1 p.lst (by simp) (by omega)
  rw [Nat.add_zero] at h0
  have hw := h.1
  rw [hlen] at hw
  exact ⟨g, c, rfl, ⟨by rw [Nat.zero_add]; exact h0, by rw [Nat.zero_add]; exact h1⟩, hb, fun j => hw.frozenAt j⟩
end Go.Proofs.Ytefcimkopgcagaa
