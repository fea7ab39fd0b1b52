/- Elements, plainly: what is put is parsed as it was; what is parsed may be put, in no more bytes. Conditions: as each says. -/
import Derived.Test.YtcgfmjdlningpaaExP
set_option linter.unusedVariables false
namespace Go.Proofs.Ytcgfmjdlningpaa

theorem exP_zeros (one : Bool) : ∀ z, exP one (List.replicate z 0) = (0, [])
  | 0 => exP_nil one
  | z + 1 => by
    rw [List.replicate_succ, exP_pad (by simp) (by simp [exKind])]
    exact exP_zeros one z
theorem exP_enc (one : Bool) (x : El) (h : elOk one x = true) (rest : List Nat) : exP one (elEnc one x ++ rest) = ((exP one rest).1, x :: (exP one rest).2) := by
  obtain ⟨id, data⟩ := x
  cases one
  · have h' : 1 ≤ id ∧ data.length ≤ 255 := by simpa [elOk] using h
    have e : elEnc false ⟨id, data⟩ ++ rest = id :: data.length :: (data ++ rest) := rfl
    rw [e]
    have hk : exKind false (id :: data.length :: (data ++ rest)) = 4 := by
      unfold exKind
      have h0 : ¬ id = 0 := by omega
      have h1 : ¬ (data ++ rest).length < data.length := by simp
      simp only [h0, if_false, Bool.false_eq_true, h1]
    rw [exP_go (by simp) hk]
    have hl : exLen false (id :: data.length :: (data ++ rest)) = 2 + data.length := rfl
    have hd : (id :: data.length :: (data ++ rest)).drop (2 + data.length) = rest := by
      rw [show 2 + data.length = (data.length + 1) + 1 from by omega, List.drop_succ_cons, List.drop_succ_cons]
      simp
    have he : exEl false (id :: data.length :: (data ++ rest)) = ⟨id, data⟩ := by
      unfold exEl
      simp
    rw [hl, hd, he]
  · have h' : 1 ≤ id ∧ id ≤ 14 ∧ 1 ≤ data.length ∧ data.length ≤ 16 := by simpa [elOk] using h
    have e : elEnc true ⟨id, data⟩ ++ rest = (id * 16 + (data.length - 1)) :: (data ++ rest) := rfl
    rw [e]
    obtain ⟨b, hb⟩ : ∃ b, id * 16 + (data.length - 1) = b := ⟨_, rfl⟩
    rw [hb]
    have hb1 : b / 16 = id := by omega
    have hb2 : b % 16 + 1 = data.length := by omega
    have hk : exKind true (b :: (data ++ rest)) = 4 := by
      unfold exKind
      have h0 : ¬ b = 0 := by omega
      have h1 : ¬ (data ++ rest).length < b % 16 + 1 := by rw [hb2]; simp
      have h2 : ¬ b / 16 = 15 := by omega
      have h3 : ¬ b / 16 = 0 := by omega
      simp only [h0, if_false, if_true, h1, h2, h3]
    rw [exP_go (by simp) hk]
    have hl : exLen true (b :: (data ++ rest)) = 1 + data.length := by
      show 1 + (b % 16 + 1) = _
      rw [hb2]
    have hd : (b :: (data ++ rest)).drop (1 + data.length) = rest := by
      rw [show 1 + data.length = data.length + 1 from by omega, List.drop_succ_cons]
      simp
    have he : exEl true (b :: (data ++ rest)) = ⟨id, data⟩ := by
      unfold exEl
      simp only [if_true]
      rw [hb1, hb2]
      simp
    rw [hl, hd, he]
theorem exP_encs (one : Bool) (z : Nat) : ∀ (l : List El), l.all (elOk one) = true → exP one (elsEnc one l ++ List.replicate z 0) = (0, l)
  | [], _ => by
    show exP one ([] ++ _) = _
    rw [List.nil_append]
    exact exP_zeros one z
  | x :: l, h => by
    rw [List.all_cons, Bool.and_eq_true] at h
    have e : elsEnc one (x :: l) = elEnc one x ++ elsEnc one l := by simp [elsEnc]
    rw [e, List.append_assoc, exP_enc one x h.1, exP_encs one z l h.2]
theorem exP_put (one : Bool) (l : List El) (h : l.all (elOk one) = true) : exP one (exPut one l) = (0, l) := exP_encs one _ l h
theorem exEl_ok {one : Bool} {bs : List Nat} (hb : ∀ x ∈ bs, x < 256) (h : exKind one bs = 4) : elOk one (exEl one bs) = true := by
  have hl := exLen_le h
  have hle := exEl_len h
  cases bs with
  | nil => simp [exKind] at h
  | cons b r =>
    have hb0 := hb b (by simp)
    cases one
    · cases r with
      | nil =>
        unfold exKind at h
        by_cases h0 : b = 0 <;> simp [h0] at h
      | cons m r' =>
        have hm := hb m (by simp)
        have h0 : ¬ b = 0 := fun e => by subst e; simp [exKind] at h
        have hd : (exEl false (b :: m :: r')).data.length + 2 = 2 + m := hle
        have hi : (exEl false (b :: m :: r')).id = b := rfl
        unfold elOk
        simp
        omega
    · have h0 : ¬ b = 0 := fun e => by subst e; simp [exKind] at h
      have h1 : ¬ b / 16 = 15 := fun e => by simp [exKind, h0, e] at h
      have h2 : ¬ b / 16 = 0 := fun e => by simp [exKind, h0, e] at h
      have hd : (exEl true (b :: r)).data.length + 1 = 1 + (b % 16 + 1) := hle
      have hi : (exEl true (b :: r)).id = b / 16 := rfl
      unfold elOk
      simp
      omega
theorem elEnc_len (one : Bool) (x : El) : (elEnc one x).length = x.data.length + (if one then 1 else 2) := by
  cases one <;> rfl
theorem exP_ok (one : Bool) (bs : List Nat) (hb : ∀ x ∈ bs, x < 256) : (exP one bs).2.all (elOk one) = true ∧ (elsEnc one (exP one bs).2).length ≤ bs.length := by
  induction hn : bs.length using Nat.strongRecOn generalizing bs with
  | _ n ih =>
    cases bs with
    | nil => rw [exP_nil]; simp [elsEnc]
    | cons b r =>
      rcases exKind_cases one b r with h | h | h | h | h
      · rw [exP_pad (by simp) h, show (b :: r).drop 1 = r from rfl]
        have := ih r.length (by rw [← hn, List.length_cons]; omega) r (fun x hx => hb x (by simp [hx])) rfl
        exact ⟨this.1, by have := this.2; rw [← hn, List.length_cons]; omega⟩
      · rw [exP_end (by simp) h]; simp [elsEnc]
      · rw [exP_bad (by simp) h]; simp [elsEnc]
      · rw [exP_short (by simp) h]; simp [elsEnc]
      · rw [exP_go (by simp) h]
        have hl := exLen_le h
        have he := exEl_len h
        have hk := exEl_ok hb h
        have := ih ((b :: r).drop (exLen one (b :: r))).length (by rw [← hn, List.length_drop]; omega) _ (fun x hx => hb x (List.mem_of_mem_drop hx)) rfl
        refine ⟨by rw [List.all_cons, hk, this.1]; rfl, ?_⟩
        have h2 := this.2
        rw [List.length_drop] at h2
        generalize (exP one ((b :: r).drop (exLen one (b :: r)))).2 = t at *
        have e : elsEnc one (exEl one (b :: r) :: t) = elEnc one (exEl one (b :: r)) ++ elsEnc one t := by simp [elsEnc]
        rw [e, List.length_append, elEnc_len, he]
        omega
theorem exPut_mod (one : Bool) (l : List El) : (exPut one l).length % 4 = 0 := by
  unfold exPut noughts4
  rw [List.length_append, List.length_replicate]
  omega
theorem exPut_fit (one : Bool) (l : List El) (n : Nat) (h : (elsEnc one l).length ≤ n) (h4 : n % 4 = 0) : (exPut one l).length ≤ n := by
  unfold exPut noughts4
  rw [List.length_append, List.length_replicate]
  omega
end Go.Proofs.Ytcgfmjdlningpaa
