/- Compounds, plainly: what is joined is split as it was; what is split is right, and joined as the same bytes but for the padding's. Conditions: none. -/
import Derived.Test.YtdhkcffjhcoloaaRcN
set_option linter.unusedVariables false
namespace Go.Proofs.Ytdhkcffjhcoloaa
open Go.RowKit

def Pkt.tail (p : Pkt) : List Nat := if p.pad = 0 then [] else List.replicate (p.pad - 1) 0 ++ [p.pad]
theorem tail_len (p : Pkt) : p.tail.length = p.pad := by
  unfold Pkt.tail
  by_cases h : p.pad = 0
  · rw [if_pos h]; simp [h]
  · rw [if_neg h]; simp; omega
theorem enc_form (p : Pkt) (rest : List Nat) : p.enc ++ rest = (128 + p.count + (if p.pad = 0 then 0 else 32)) :: p.kind :: ((p.body.length + p.pad) / 4 / 256) :: ((p.body.length + p.pad) / 4 % 256) :: (p.body ++ p.tail ++ rest) := by
  unfold Pkt.enc Pkt.tail
  simp
theorem ok_parts {p : Pkt} (h : p.ok = true) : p.count ≤ 31 ∧ p.body.length % 4 = 0 ∧ p.pad % 4 = 0 ∧ p.body.length + p.pad ≤ 262140 := by
  unfold Pkt.ok at h
  simp only [Bool.and_eq_true, decide_eq_true_eq, beq_iff_eq] at h
  exact ⟨h.1.1.1, h.1.1.2, h.1.2, h.2⟩
theorem enc_w16 {p : Pkt} (h : p.ok = true) (rest : List Nat) : 4 * w16 (p.enc ++ rest) = p.body.length + p.pad := by
  obtain ⟨_, h2, h3, h4⟩ := ok_parts h
  rw [enc_form]
  simp only [w16, bt, List.getD_cons_succ, List.getD_cons_zero]
  omega
theorem enc_sz {p : Pkt} (h : p.ok = true) (rest : List Nat) : oneSz (p.enc ++ rest) = p.enc.length := by
  unfold oneSz
  rw [enc_w16 h, enc_len]
  omega
theorem enc_body {p : Pkt} (h : p.ok = true) (rest : List Nat) : oneBody (p.enc ++ rest) = p.body ++ p.tail := by
  unfold oneBody
  rw [enc_w16 h, enc_form]
  simp only [List.drop_succ_cons, List.drop_zero]
  rw [List.take_left']
  rw [List.length_append, tail_len]
theorem enc_flag {p : Pkt} (h : p.ok = true) (rest : List Nat) : padFlag (p.enc ++ rest) = decide (p.pad ≠ 0) := by
  obtain ⟨h1, -⟩ := ok_parts h
  unfold padFlag
  rw [enc_form]
  simp only [bt, List.getD_cons_zero]
  by_cases h0 : p.pad = 0
  · rw [if_pos h0, Bool.eq_iff_iff]; simp [h0]; omega
  · rw [if_neg h0, Bool.eq_iff_iff]; simp [h0]; omega
theorem tail_last {p : Pkt} (h : p.pad ≠ 0) : bt (p.body ++ p.tail) ((p.body ++ p.tail).length - 1) = p.pad := by
  rw [List.length_append, tail_len]
  unfold Pkt.tail
  rw [if_neg h, ← List.append_assoc]
  unfold bt
  rw [List.getD_eq_getElem?_getD, List.getElem?_append_right (by simp; omega)]
  have e : p.body.length + p.pad - 1 - (p.body ++ List.replicate (p.pad - 1) 0).length = 0 := by simp; omega
  rw [e]
  rfl
theorem enc_pad {p : Pkt} (h : p.ok = true) (rest : List Nat) : onePad (p.enc ++ rest) = p.pad := by
  unfold onePad
  rw [enc_flag h, enc_body h]
  by_cases h0 : p.pad = 0
  · simp [h0]
  · rw [decide_eq_true h0, if_pos rfl, tail_last h0]
theorem enc_rest {p : Pkt} (h : p.ok = true) (rest : List Nat) : oneRest (p.enc ++ rest) = p.body := by
  unfold oneRest
  rw [enc_pad h, enc_body h, List.length_append, tail_len, Nat.add_sub_cancel]
  exact List.take_left' rfl
theorem enc_pk {p : Pkt} (h : p.ok = true) (rest : List Nat) : pkOf (p.enc ++ rest) = p := by
  obtain ⟨h1, -⟩ := ok_parts h
  unfold pkOf
  rw [enc_pad h, enc_rest h, enc_form]
  simp only [bt, List.getD_cons_zero, List.getD_cons_succ]
  obtain ⟨c, k, d, b⟩ := p
  simp only at h1 ⊢
  have : (128 + c + if d = 0 then 0 else 32) % 32 = c := by split <;> omega
  rw [this]
theorem enc_err {p : Pkt} (h : p.ok = true) (rest : List Nat) (lead : Bool) (hk : lead = true → (p.kind == 200 || p.kind == 201) = true) (hp : p.pad ≠ 0 → rest = []) : oneErr (p.enc ++ rest) lead = 0 := by
  obtain ⟨h1, h2, h3, h4⟩ := ok_parts h
  have hl : (p.enc ++ rest).length = p.enc.length + rest.length := List.length_append
  have he := enc_len p
  unfold oneErr
  rw [if_neg (by omega)]
  have e0 : bt (p.enc ++ rest) 0 = 128 + p.count + (if p.pad = 0 then 0 else 32) := by rw [enc_form]; rfl
  have e1 : bt (p.enc ++ rest) 1 = p.kind := by rw [enc_form]; rfl
  rw [if_neg (by rw [e0]; split <;> omega), if_neg (by rw [e1]; intro hh; rcases Bool.and_eq_true_iff.1 hh with ⟨ha, hb⟩; rw [hk ha] at hb; cases hb), if_neg (by rw [enc_sz h, hl]; omega), if_neg]
  rintro ⟨hf, hh⟩
  rw [enc_flag h, decide_eq_true_eq] at hf
  rw [enc_sz h, enc_body h, hp hf, List.append_nil] at hh
  rcases hh with hh | hh
  · unfold padOk at hh
    rw [tail_last hf, List.length_append, tail_len] at hh
    rw [decide_eq_true (show 1 ≤ p.body.length + p.pad by omega), decide_eq_true (show 0 < p.pad by omega), h3, decide_eq_true (show p.pad ≤ p.body.length + p.pad by omega)] at hh
    cases hh
  · omega
theorem spl_encs : ∀ (l : List Pkt) (lead : Bool), joinBad l = false → (lead = true → l ≠ [] ∧ ((l.headD ⟨0, 0, 0, []⟩).kind == 200 || (l.headD ⟨0, 0, 0, []⟩).kind == 201) = true) → spl lead (encs l) = (0, l)
  | [], lead, _, hl => by
    cases lead
    · exact spl_end
    · exact absurd rfl (hl rfl).1
  | p :: l, lead, hb, hl => by
    have hok := joinBad_ok hb p (by simp)
    unfold joinBad at hb
    simp only [Bool.or_eq_false_iff] at hb
    have e : encs (p :: l) = p.enc ++ encs l := by simp [encs]
    have hpad : p.pad ≠ 0 → encs l = [] := fun h => by
      have h1 := hb.1.2
      rw [decide_eq_true (show 0 < p.pad by omega), Bool.true_and, decide_eq_false_iff_not] at h1
      have : l = [] := List.eq_nil_of_length_eq_zero (by omega)
      subst this
      rfl
    have he := enc_err hok (encs l) lead (fun h => (hl h).2) hpad
    have hlen := enc_len p
    rw [e, spl_go (by rw [List.length_append]; omega) he, enc_sz hok, enc_pk hok, List.drop_left' rfl, spl_encs l false hb.2 (by simp)]

/-- The padding of the last one. -/
def lastPad : List Pkt → Nat
  | [] => 0
  | [p] => p.pad
  | _ :: l => lastPad l
/-- Bytes whose padding is noughts. -/
def shown (bs : List Nat) (pd : Nat) : List Nat := if pd = 0 then bs else bs.take (bs.length - pd) ++ List.replicate (pd - 1) 0 ++ [pd]
theorem one_parts {bs : List Nat} {lead : Bool} (h : oneErr bs lead = 0) : bt bs 0 / 64 = 2 ∧ (lead = true → (bt bs 1 == 200 || bt bs 1 == 201) = true) ∧ ¬ (padFlag bs = true ∧ (padOk (oneBody bs) = false ∨ oneSz bs < bs.length)) := by
  unfold oneErr at h
  by_cases h1 : bs.length < 4
  · rw [if_pos h1] at h; cases h
  · rw [if_neg h1] at h
    by_cases h2 : bt bs 0 / 64 ≠ 2
    · rw [if_pos h2] at h; cases h
    · rw [if_neg h2] at h
      by_cases h3 : (lead && !(bt bs 1 == 200 || bt bs 1 == 201)) = true
      · rw [if_pos h3] at h; cases h
      · rw [if_neg h3] at h
        by_cases h4 : bs.length < oneSz bs
        · rw [if_pos h4] at h; cases h
        · rw [if_neg h4] at h
          refine ⟨by omega, fun hl => ?_, fun h5 => by rw [if_pos h5] at h; cases h⟩
          subst hl
          revert h3
          cases (bt bs 1 == 200 || bt bs 1 == 201) <;> simp
theorem padOk_parts {b : List Nat} (h : padOk b = true) : 1 ≤ b.length ∧ 0 < bt b (b.length - 1) ∧ bt b (b.length - 1) % 4 = 0 ∧ bt b (b.length - 1) ≤ b.length := by
  unfold padOk at h
  simp only [Bool.and_eq_true, decide_eq_true_eq, beq_iff_eq] at h
  exact ⟨h.1.1.1, h.1.1.2, h.1.2, h.2⟩
theorem body_len {bs : List Nat} {lead : Bool} (h : oneErr bs lead = 0) : (oneBody bs).length = 4 * w16 bs := by
  have := one_len h
  unfold oneSz at this
  unfold oneBody
  rw [List.length_take, List.length_drop]
  omega
/-- What the padding is. -/
theorem onePad_parts {bs : List Nat} {lead : Bool} (h : oneErr bs lead = 0) : onePad bs ≤ 4 * w16 bs ∧ onePad bs % 4 = 0 ∧ (onePad bs ≠ 0 ↔ padFlag bs = true) ∧ (onePad bs ≠ 0 → oneSz bs = bs.length ∧ bt bs (bs.length - 1) = onePad bs) := by
  obtain ⟨_, _, h3⟩ := one_parts h
  have hl := one_len h
  have hb := body_len h
  unfold onePad
  cases hf : padFlag bs
  · simp
  · have hok : padOk (oneBody bs) = true := by
      cases hk : padOk (oneBody bs)
      · exact absurd ⟨hf, .inl hk⟩ h3
      · rfl
    have hsz : ¬ oneSz bs < bs.length := fun h => h3 ⟨hf, .inr h⟩
    obtain ⟨p1, p2, p3, p4⟩ := padOk_parts hok
    rw [if_pos rfl]
    refine ⟨by omega, p3, by simp; omega, fun _ => ⟨by omega, ?_⟩⟩
    unfold oneBody at p1 p2 ⊢
    have hl2 := hl.2
    unfold oneSz at hsz hl2
    rw [bt_take (by rw [List.length_take, List.length_drop]; omega), bt_drop, List.length_take, List.length_drop]
    congr 1
    have : 1 ≤ 4 * w16 bs := by have := p1; rw [List.length_take] at this; omega
    omega
theorem four (bs : List Nat) (h : 4 ≤ bs.length) : bs.take 4 = [bt bs 0, bt bs 1, bt bs 2, bt bs 3] := by
  match bs, h with
  | a :: b :: c :: d :: l, _ => rfl
theorem pk_enc {bs : List Nat} {lead : Bool} (h : oneErr bs lead = 0) (hb : ∀ x ∈ bs, x < 256) : (pkOf bs).ok = true ∧ (pkOf bs).Fit ∧ (pkOf bs).enc = if onePad bs = 0 then bs.take (oneSz bs) else bs.take (oneSz bs - onePad bs) ++ List.replicate (onePad bs - 1) 0 ++ [onePad bs] := by
  obtain ⟨h1, h2, h3⟩ := one_parts h
  have hl := one_len h
  have hbl := body_len h
  obtain ⟨p1, p2, p3, p4⟩ := onePad_parts h
  have hw : w16 bs < 65536 := by
    have := bt_lt hb 2
    have := bt_lt hb 3
    unfold w16
    omega
  have hrl : (oneRest bs).length = 4 * w16 bs - onePad bs := by unfold oneRest; rw [List.length_take, hbl]; omega
  have c0 := bt_lt hb 0
  have c1 := bt_lt hb 1
  have c2 := bt_lt hb 2
  have c3 := bt_lt hb 3
  have hpl : onePad bs < 256 := by
    by_cases h0 : onePad bs = 0
    · omega
    · have := (p4 h0).2
      rw [← this]
      exact bt_lt hb _
  refine ⟨?_, ⟨by show bt bs 0 % 32 < 256; omega, c1, hpl, fun x hx => hb x (List.mem_of_mem_drop (List.mem_of_mem_take (List.mem_of_mem_take hx)))⟩, ?_⟩
  · unfold Pkt.ok pkOf
    simp only [Bool.and_eq_true, decide_eq_true_eq, beq_iff_eq]
    rw [hrl]
    exact ⟨⟨⟨by omega, by omega⟩, p2⟩, by omega⟩
  · have hh : [128 + (pkOf bs).count + (if (pkOf bs).pad = 0 then 0 else 32), (pkOf bs).kind, ((pkOf bs).body.length + (pkOf bs).pad) / 4 / 256, ((pkOf bs).body.length + (pkOf bs).pad) / 4 % 256] = bs.take 4 := by
      rw [four bs hl.1]
      unfold pkOf
      simp only
      rw [hrl, show 4 * w16 bs - onePad bs + onePad bs = 4 * w16 bs by omega]
      have e3 : 4 * w16 bs / 4 / 256 = bt bs 2 := by unfold w16; omega
      have e4 : 4 * w16 bs / 4 % 256 = bt bs 3 := by unfold w16; omega
      have e0 : 128 + bt bs 0 % 32 + (if onePad bs = 0 then 0 else 32) = bt bs 0 := by
        by_cases h0 : onePad bs = 0
        · have hf : padFlag bs = false := by
            cases hf : padFlag bs
            · rfl
            · exact absurd (p3.2 hf) (by simpa using h0)
          rw [if_pos h0]
          unfold padFlag at hf
          rw [beq_eq_false_iff_ne] at hf
          omega
        · have hf := p3.1 h0
          rw [if_neg h0]
          unfold padFlag at hf
          rw [beq_iff_eq] at hf
          omega
      rw [e0, e3, e4]
    have ht : bs.take 4 ++ oneRest bs = bs.take (oneSz bs - onePad bs) := by
      unfold oneRest oneBody
      rw [List.take_take, show oneSz bs - onePad bs = 4 + (4 * w16 bs - onePad bs) from by unfold oneSz; omega, List.take_add]
      congr 2
      rw [List.length_take, List.length_drop]
      have := hl.2
      unfold oneSz at this
      omega
    have hpd : (pkOf bs).pad = onePad bs := rfl
    have hbd : (pkOf bs).body = oneRest bs := rfl
    have hk : (pkOf bs).enc = bs.take (oneSz bs - onePad bs) ++ (pkOf bs).tail := by
      have := enc_form (pkOf bs) []
      rw [List.append_nil, List.append_nil] at this
      rw [this, ← ht, ← hh, hbd]
      simp
    rw [hk]
    unfold Pkt.tail
    rw [hpd]
    by_cases h0 : onePad bs = 0
    · rw [if_pos h0, if_pos h0, List.append_nil, h0, Nat.sub_zero]
    · rw [if_neg h0, if_neg h0, List.append_assoc]

theorem shown_len {bs : List Nat} {pd : Nat} (h : pd ≤ bs.length) : (shown bs pd).length = bs.length := by
  unfold shown
  by_cases h0 : pd = 0
  · rw [if_pos h0]
  · rw [if_neg h0]; simp; omega
theorem shown_at {bs : List Nat} {pd i : Nat} (h : pd ≤ bs.length) (hl : pd ≠ 0 → bt bs (bs.length - 1) = pd) (hi : i < bs.length) : bt (shown bs pd) i = if bs.length - pd ≤ i ∧ i < bs.length - 1 then 0 else bt bs i := by
  unfold shown
  by_cases h0 : pd = 0
  · rw [if_pos h0, if_neg (by omega)]
  · rw [if_neg h0]
    unfold bt
    simp only [List.getD_eq_getElem?_getD]
    by_cases h1 : i < bs.length - pd
    · rw [if_neg (by omega), List.getElem?_append_left (by simp; omega), List.getElem?_append_left (by simp; omega), List.getElem?_take_of_lt h1]
    · by_cases h2 : i < bs.length - 1
      · rw [if_pos ⟨by omega, h2⟩, List.getElem?_append_left (by simp; omega), List.getElem?_append_right (by simp; omega), List.getElem?_replicate]
        rw [if_pos (by simp; omega)]
        rfl
      · rw [if_neg (by omega), List.getElem?_append_right (by simp; omega)]
        have e : i - (bs.take (bs.length - pd) ++ List.replicate (pd - 1) 0).length = 0 := by simp; omega
        rw [e]
        have := hl h0
        unfold bt at this
        rw [List.getD_eq_getElem?_getD] at this
        rw [show i = bs.length - 1 by omega, this]
        rfl
/-- What is split is right, and joined so. -/
structure Backs (lead : Bool) (bs : List Nat) (l : List Pkt) : Prop where
  ok : ∀ p ∈ l, p.ok = true
  fit : ∀ p ∈ l, p.Fit
  bad : joinBad l = false
  head : lead = true → l ≠ [] ∧ ((l.headD ⟨0, 0, 0, []⟩).kind == 200 || (l.headD ⟨0, 0, 0, []⟩).kind == 201) = true
  enc : encs l = shown bs (lastPad l)
  le : lastPad l ≤ bs.length
  last : lastPad l ≠ 0 → bt bs (bs.length - 1) = lastPad l
theorem spl_back : ∀ (n : Nat) (lead : Bool) (bs : List Nat), bs.length = n → (∀ x ∈ bs, x < 256) → (spl lead bs).1 = 0 → Backs lead bs (spl lead bs).2 := by
  intro n
  induction n using Nat.strongRecOn with
  | _ n ih =>
    intro lead bs hn hb h0
    by_cases h : lead = false ∧ bs.length = 0
    · obtain ⟨rfl, hl⟩ := h
      rw [List.eq_nil_of_length_eq_zero hl, spl_end]
      exact ⟨by simp, by simp, rfl, by simp, rfl, Nat.zero_le _, by simp [lastPad]⟩
    · by_cases he : oneErr bs lead = 0
      · have hl := one_len he
        have h4 : 4 ≤ oneSz bs := by unfold oneSz; omega
        obtain ⟨p1, p2, p3, p4⟩ := onePad_parts he
        obtain ⟨hok, hfit, henc⟩ := pk_enc he hb
        rw [spl_go h he] at h0 ⊢
        have hB := ih (bs.drop (oneSz bs)).length (by rw [List.length_drop]; omega) false (bs.drop (oneSz bs)) rfl (fun x hx => hb x (List.mem_of_mem_drop hx)) h0
        have hsm := (spl_small _ false (bs.drop (oneSz bs)) rfl).1
        rw [List.length_drop] at hsm
        simp only
        generalize (spl false (bs.drop (oneSz bs))).2 = L at hB hsm ⊢
        have hD : (bs.drop (oneSz bs)).length = bs.length - oneSz bs := List.length_drop
        have hpz : 0 < L.length → onePad bs = 0 := fun hp => by
          by_cases hz : onePad bs = 0
          · exact hz
          · have := (p4 hz).1; omega
        have hkind := (one_parts he).2.1
        refine ⟨?_, ?_, ?_, fun hlead => ⟨by simp, hkind hlead⟩, ?_, ?_, ?_⟩
        · intro p hp
          rcases List.mem_cons.1 hp with rfl | hp
          · exact hok
          · exact hB.ok p hp
        · intro p hp
          rcases List.mem_cons.1 hp with rfl | hp
          · exact hfit
          · exact hB.fit p hp
        · unfold joinBad
          rw [hok, hB.bad]
          by_cases hL : 0 < L.length
          · have : (pkOf bs).pad = 0 := hpz hL
            rw [this]; simp
          · rw [decide_eq_false hL]; simp
        all_goals cases hL : L with
        | nil =>
          subst hL
          have e2 : (bs.drop (oneSz bs)) = [] := by
            have := hB.enc
            have hz : lastPad ([] : List Pkt) = 0 := rfl
            rw [hz] at this
            unfold shown at this
            rw [if_pos rfl] at this
            exact this.symm
          have e3 : oneSz bs = bs.length := by
            have := congrArg List.length e2
            rw [hD] at this
            simp at this
            omega
          have hlp : lastPad [pkOf bs] = onePad bs := rfl
          rw [hlp]
          first
            | (have e4 : encs [pkOf bs] = (pkOf bs).enc := by simp [encs]
               rw [e4, henc, e3]
               unfold shown
               split
               · exact List.take_of_length_le (Nat.le_refl _)
               · rfl)
            | (unfold oneSz at e3; omega)
            | exact fun hz => (p4 hz).2
        | cons q L' =>
          subst hL
          have hz := hpz (by simp)
          have hlp : lastPad (pkOf bs :: q :: L') = lastPad (q :: L') := rfl
          rw [hlp]
          have hE := hB.enc
          have hLe := hB.le
          have hLa := hB.last
          rw [hD] at hLe hLa
          generalize lastPad (q :: L') = pd at hE hLe hLa ⊢
          first
            | (have e4 : encs (pkOf bs :: q :: L') = (pkOf bs).enc ++ encs (q :: L') := by simp [encs]
               rw [e4, hE, henc, if_pos hz]
               unfold shown
               split
               · exact List.take_append_drop _ _
               · rw [hD]
                 simp only [List.append_assoc]
                 rw [show bs.length - pd = oneSz bs + (bs.length - oneSz bs - pd) by omega, List.take_add, List.append_assoc])
            | omega
            | (intro hz2
               rw [← hLa hz2, bt_drop]
               congr 1
               have : bs.length - oneSz bs ≠ 0 := fun e => by omega
               omega)
      · rw [spl_bad h he] at h0
        exact absurd h0 he
end Go.Proofs.Ytdhkcffjhcoloaa
