/- vp8, plainly: what is written is taken as it was; what is taken is right. Conditions: as each says. -/
import Derived.Test.YtneogagainllnaaVpH
import Derived.Test.YtneogagainllnaaVpI
import Derived.Test.YtneogagainllnaaDInj
set_option linter.unusedVariables false
namespace Go.Proofs.Ytneogagainllnaa

theorem pre_of {q r T : List Nat} (h : q ++ r <+: T) : q <+: T := (List.prefix_append q r).trans h
theorem tk_at {bs q : List Nat} {k n : Nat} (h : q ++ digs k n <+: D bs) : tkNum bs (q.length, 0) k = n % 2 ^ k ∧ tkSt bs (q.length, 0) k = ((q ++ digs k n).length, 0) := by
  obtain ⟨r, hr⟩ := h
  have hl := D_length bs
  rw [← hr] at hl
  simp only [List.length_append, digs_length] at hl
  have hle : q.length + k ≤ 8 * bs.length := by omega
  refine ⟨?_, ?_⟩
  · simp only [tkNum, true_and, hle, if_true]
    unfold num
    rw [← hr, List.append_assoc, List.drop_left, List.take_append_of_le_length (by rw [digs_length]; exact Nat.le_refl _), List.take_of_length_le (by rw [digs_length]; exact Nat.le_refl _)]
    exact val_digs k n
  · simp [tkSt, hle, digs_length]
theorem digs_bit (x : Bool) : [bit x] = digs 1 (bit x) := by cases x <;> rfl
theorem tk_flag {bs q : List Nat} {x : Bool} (h : q ++ [bit x] <+: D bs) : (tkNum bs (q.length, 0) 1 == 1) = x ∧ tkSt bs (q.length, 0) 1 = ((q ++ [bit x]).length, 0) := by
  rw [digs_bit] at h ⊢
  obtain ⟨h1, h2⟩ := tk_at h
  exact ⟨by rw [h1]; cases x <;> rfl, h2⟩

theorem first_at (d e : Dv) (bs q : List Nat) (h : (Vp.first d q).2 <+: D bs) :
    (Vt bs).fl (q.length, 0) e.any = d.any ∧ (Vt bs).first e (q.length, 0) = ({ e with n := d.n, start := d.start, part := d.part % 8 }, ((Vp.first d q).2.length, 0)) := by
  have h5 : q ++ [bit d.any] ++ digs 1 0 ++ [bit d.n] ++ [bit d.start] ++ digs 1 0 ++ digs 3 d.part <+: D bs := h
  have h4 := pre_of h5
  have h3 := pre_of h4
  have h2 := pre_of h3
  have h1 := pre_of h2
  have h0 := pre_of h1
  obtain ⟨a0, b0⟩ := tk_flag h0
  obtain ⟨a1, b1⟩ := tk_at h1
  obtain ⟨a2, b2⟩ := tk_flag h2
  obtain ⟨a3, b3⟩ := tk_flag h3
  obtain ⟨a4, b4⟩ := tk_at h4
  obtain ⟨a5, b5⟩ := tk_at h5
  have e8 : d.part % 2 ^ 3 % 256 = d.part % 8 := by omega
  refine ⟨a0, ?_⟩
  simp only [Vis.first, Vis.s1, Vis.s2, Vis.s3, Vt, Vp, b0, b1, b2, a2, b3, a3, b4, b5, a5, e8]
theorem second_at (d e : Dv) (bs q : List Nat) (h : (Vp.second d q).2 <+: D bs) :
    (Vt bs).second e (q.length, 0) = ({ e with hasPic := d.hasPic, hasTl0 := d.hasTl0, hasTid := d.hasTid, hasKey := d.hasKey }, ((Vp.second d q).2.length, 0)) := by
  have h4 : q ++ [bit d.hasPic] ++ [bit d.hasTl0] ++ [bit d.hasTid] ++ [bit d.hasKey] ++ digs 4 0 <+: D bs := h
  have h3 := pre_of h4
  have h2 := pre_of h3
  have h1 := pre_of h2
  have h0 := pre_of h1
  obtain ⟨a0, b0⟩ := tk_flag h0
  obtain ⟨a1, b1⟩ := tk_flag h1
  obtain ⟨a2, b2⟩ := tk_flag h2
  obtain ⟨a3, b3⟩ := tk_flag h3
  obtain ⟨a4, b4⟩ := tk_at h4
  simp only [Vis.second, Vt, Vp, b0, a0, b1, a1, b2, a2, b3, a3, b4]
theorem more1_at (d e : Dv) (bs q : List Nat) (he : e.hasPic = d.hasPic) (h : (Vp.more1 d q).2 <+: D bs) :
    (Vt bs).more1 e (q.length, 0) = ((if d.hasPic then { e with long := d.long, pic := d.pic % (if d.long then 32768 else 128) } else e), ((Vp.more1 d q).2.length, 0)) := by
  unfold Vis.more1 at *
  rw [he]
  cases hp : d.hasPic
  · simp only [Bool.false_eq_true, if_false]
  · simp only [hp, if_true] at h ⊢
    have h1 : q ++ [bit d.long] ++ digs (if d.long then 15 else 7) d.pic <+: D bs := h
    obtain ⟨a0, b0⟩ := tk_flag (pre_of h1)
    obtain ⟨a1, b1⟩ := tk_at h1
    simp only [Vt, Vp, a0, b0, a1, b1]
    cases d.long <;> rfl
theorem more2_at (d e : Dv) (bs q : List Nat) (he : e.hasTl0 = d.hasTl0) (h : (Vp.more2 d q).2 <+: D bs) :
    (Vt bs).more2 e (q.length, 0) = ((if d.hasTl0 then { e with tl0 := d.tl0 % 256 } else e), ((Vp.more2 d q).2.length, 0)) := by
  unfold Vis.more2 at *
  rw [he]
  cases hp : d.hasTl0
  · simp only [Bool.false_eq_true, if_false]
  · simp only [hp, if_true] at h ⊢
    have h1 : q ++ digs 8 d.tl0 <+: D bs := h
    obtain ⟨a1, b1⟩ := tk_at h1
    have e8 : d.tl0 % 2 ^ 8 % 256 = d.tl0 % 256 := by omega
    simp only [Vt, Vp, a1, b1, e8]
theorem more3_at (d e : Dv) (bs q : List Nat) (he : e.hasTid = d.hasTid) (h : (Vp.more3 d q).2 <+: D bs) :
    (Vt bs).more3 e (q.length, 0) = ((if d.hasTid then { e with tid := d.tid % 4, sync := d.sync } else e), ((Vp.more3 d q).2.length, 0)) := by
  unfold Vis.more3 at *
  rw [he]
  cases hp : d.hasTid
  · simp only [hp, Bool.false_eq_true, if_false] at h ⊢
    have h1 : q ++ digs 3 0 <+: D bs := h
    obtain ⟨a1, b1⟩ := tk_at h1
    simp only [Vt, Vp, b1]
  · simp only [hp, if_true] at h ⊢
    have h1 : q ++ digs 2 d.tid ++ [bit d.sync] <+: D bs := h
    obtain ⟨a0, b0⟩ := tk_at (pre_of h1)
    obtain ⟨a1, b1⟩ := tk_flag h1
    have e8 : d.tid % 2 ^ 2 % 256 = d.tid % 4 := by omega
    simp only [Vt, Vp, a0, b0, a1, b1, e8]
theorem more4_at (d e : Dv) (bs q : List Nat) (he : e.hasKey = d.hasKey) (h : (Vp.more4 d q).2 <+: D bs) :
    (Vt bs).more4 e (q.length, 0) = ((if d.hasKey then { e with key := d.key % 32 } else e), ((Vp.more4 d q).2.length, 0)) := by
  unfold Vis.more4 at *
  rw [he]
  cases hp : d.hasKey
  · simp only [hp, Bool.false_eq_true, if_false] at h ⊢
    have h1 : q ++ digs 5 0 <+: D bs := h
    obtain ⟨a1, b1⟩ := tk_at h1
    simp only [Vt, Vp, b1]
  · simp only [hp, if_true] at h ⊢
    have h1 : q ++ digs 5 d.key <+: D bs := h
    obtain ⟨a0, b0⟩ := tk_at h1
    have e8 : d.key % 2 ^ 5 % 256 = d.key % 32 := by omega
    simp only [Vt, Vp, a0, b0, e8]

theorem vp_first (d : Dv) (q : List Nat) (hf : d.Fit) : (Vp.first d q).1 = d := by
  have := hf.part
  have e : d.part % 256 = d.part := Nat.mod_eq_of_lt this
  simp only [Vis.first, Vp, e]
theorem vp_second (d : Dv) (q : List Nat) : (Vp.second d q).1 = d := rfl
theorem vp_more1 (d : Dv) (q : List Nat) : (Vp.more1 d q).1 = d := by
  unfold Vis.more1
  split <;> rfl
theorem vp_more2 (d : Dv) (q : List Nat) (hf : d.Fit) : (Vp.more2 d q).1 = d := by
  have := hf.tl0
  have e : d.tl0 % 256 = d.tl0 := Nat.mod_eq_of_lt this
  unfold Vis.more2
  split
  · simp only [Vp, e]
  · rfl
theorem vp_more3 (d : Dv) (q : List Nat) (hf : d.Fit) : (Vp.more3 d q).1 = d := by
  have := hf.tid
  have e : d.tid % 256 = d.tid := Nat.mod_eq_of_lt this
  unfold Vis.more3
  split
  · simp only [Vp, e]
  · rfl
theorem vp_pre1 (d : Dv) (q : List Nat) : q <+: (Vp.more1 d q).2 := by
  unfold Vis.more1
  split
  · simp only [Vp]; rw [List.append_assoc]; exact List.prefix_append _ _
  · exact List.prefix_refl _
theorem vp_pre2 (d : Dv) (q : List Nat) : q <+: (Vp.more2 d q).2 := by
  unfold Vis.more2
  split
  · exact List.prefix_append _ _
  · exact List.prefix_refl _
theorem vp_pre3 (d : Dv) (q : List Nat) : q <+: (Vp.more3 d q).2 := by
  unfold Vis.more3
  split
  · simp only [Vp]; rw [List.append_assoc]; exact List.prefix_append _ _
  · exact List.prefix_append _ _
theorem vp_pre4 (d : Dv) (q : List Nat) : q <+: (Vp.more4 d q).2 := by
  unfold Vis.more4
  split <;> exact List.prefix_append _ _
theorem vp_pres (d : Dv) (q : List Nat) : q <+: (Vp.second d q).2 := by
  show q <+: q ++ [bit d.hasPic] ++ [bit d.hasTl0] ++ [bit d.hasTid] ++ [bit d.hasKey] ++ digs 4 0
  simp only [List.append_assoc]
  exact List.prefix_append _ _
theorem vp_more (d : Dv) (q : List Nat) (hf : d.Fit) : Vp.more d q = if !d.hasTid && !d.hasKey then (d, (Vp.more2 d (Vp.more1 d q).2).2) else Vp.more4 d (Vp.more3 d (Vp.more2 d (Vp.more1 d q).2).2).2 := by
  unfold Vis.more
  simp only [vp_more1, vp_more2 _ _ hf, vp_more3 _ _ hf]
  split
  · have h := vp_more2 d (Vp.more1 d q).2 hf
    generalize Vp.more2 d (Vp.more1 d q).2 = x at *
    rw [← h]
  · rfl

theorem right_fit {d : Dv} (hr : d.right = true) : d = d.fit := (Dv.same_iff d d.fit).1 hr
theorem any_off {d : Dv} (ha : d.any = false) : d.hasPic = false ∧ d.hasTl0 = false ∧ d.hasTid = false ∧ d.hasKey = false := by
  simpa [Dv.any, and_assoc] using ha
/-- What is written of a right descriptor is taken as it was. -/
theorem got_back (d : Dv) (bs : List Nat) (hf : d.Fit) (hr : d.right = true) (h : d.digits <+: D bs) : Got bs = (d, (d.digits.length, 0)) := by
  have hfit := right_fit hr
  have h8 := hf.tl0
  have e8 : d.tl0 % 256 = d.tl0 := Nat.mod_eq_of_lt h8
  unfold Got
  unfold Dv.digits at h ⊢
  have hv : Vp.visit d [] = if d.any then Vp.more d (Vp.second d (Vp.first d []).2).2 else (d, (Vp.first d []).2) := by
    unfold Vis.visit
    simp only [vp_first d _ hf, vp_second]
    show (if d.any = true then _ else _) = _
    split
    · rfl
    · exact Prod.ext (vp_first d [] hf) rfl
  rw [hv] at h ⊢
  have hx := (first_at d Dv.zero bs [])
  simp only [List.length_nil] at hx
  cases ha : d.any
  · rw [ha] at h
    simp only [Bool.false_eq_true, if_false] at h ⊢
    obtain ⟨hx1, hx2⟩ := hx h
    unfold Vis.visit
    rw [hx1, ha, hx2]
    simp only [Bool.false_eq_true, if_false]
    obtain ⟨k1, k2, k3, k4⟩ := any_off ha
    refine Prod.ext ?_ rfl
    conv => rhs; rw [hfit]
    unfold Dv.fit
    rw [k1, k2, k3, k4]
    rfl
  · rw [ha] at h
    simp only [if_true] at h ⊢
    rw [vp_more d _ hf] at h ⊢
    generalize hq1 : (Vp.first d []).2 = q1 at *
    generalize hq2 : (Vp.second d q1).2 = q2 at *
    generalize hq3 : (Vp.more1 d q2).2 = q3 at *
    generalize hq4 : (Vp.more2 d q3).2 = q4 at *
    have p12 : q1 <+: q2 := by rw [← hq2]; exact vp_pres d q1
    have p23 : q2 <+: q3 := by rw [← hq3]; exact vp_pre1 d q2
    have p34 : q3 <+: q4 := by rw [← hq4]; exact vp_pre2 d q3
    have go : q4 <+: D bs → (Vt bs).more2 ((Vt bs).more1 ((Vt bs).second ((Vt bs).first Dv.zero (0, 0)).1 ((Vt bs).first Dv.zero (0, 0)).2).1 ((Vt bs).second ((Vt bs).first Dv.zero (0, 0)).1 ((Vt bs).first Dv.zero (0, 0)).2).2).1 ((Vt bs).more1 ((Vt bs).second ((Vt bs).first Dv.zero (0, 0)).1 ((Vt bs).first Dv.zero (0, 0)).2).1 ((Vt bs).second ((Vt bs).first Dv.zero (0, 0)).1 ((Vt bs).first Dv.zero (0, 0)).2).2).2
        = (⟨d.n, d.start, d.part % 8, d.hasPic, if d.hasPic then d.long else false, if d.hasPic then d.pic % (if d.long then 32768 else 128) else 0, d.hasTl0, if d.hasTl0 then d.tl0 % 256 else 0, d.hasTid, 0, false, d.hasKey, 0⟩, (q4.length, 0)) ∧ (Vt bs).fl (0, 0) Dv.zero.any = true := by
      intro h4
      obtain ⟨hx1, hx2⟩ := hx (p12.trans (p23.trans (p34.trans h4)))
      rw [hx2]
      refine ⟨?_, by rw [hx1, ha]⟩
      rw [second_at d, hq2, more1_at d, hq3, more2_at d, hq4]
      · cases d.hasPic <;> cases d.hasTl0 <;> rfl
      all_goals first
        | (rw [hq2]; exact p23.trans (p34.trans h4))
        | (rw [hq3]; exact p34.trans h4)
        | (rw [hq4]; exact h4)
        | rfl
        | (cases d.hasPic <;> rfl)
    by_cases hk : (!d.hasTid && !d.hasKey) = true
    · rw [if_pos hk] at h ⊢
      obtain ⟨g1, g2⟩ := go h
      unfold Vis.visit Vis.more
      rw [g2, if_pos rfl]
      simp only [g1]
      rw [if_pos hk]
      refine Prod.ext ?_ rfl
      conv => rhs; rw [hfit]
      obtain ⟨k3, k4⟩ : d.hasTid = false ∧ d.hasKey = false := by simpa using hk
      unfold Dv.fit
      simp only [k3, k4, e8, Bool.false_eq_true, if_false]
    · rw [if_neg hk] at h ⊢
      generalize hq5 : (Vp.more3 d q4).2 = q5 at *
      have p45 : q4 <+: q5 := by rw [← hq5]; exact vp_pre3 d q4
      have p56 := vp_pre4 d q5
      obtain ⟨g1, g2⟩ := go (p45.trans (p56.trans h))
      unfold Vis.visit Vis.more
      rw [g2, if_pos rfl]
      simp only [g1]
      rw [if_neg hk]
      rw [more3_at d, hq5, more4_at d]
      · refine Prod.ext ?_ rfl
        conv => rhs; rw [hfit]
        unfold Dv.fit
        cases d.hasTid <;> cases d.hasKey <;> simp [e8]
      all_goals first
        | (rw [hq5]; exact p56.trans h)
        | exact h
        | rfl
        | (cases d.hasTid <;> rfl)

/-! ### What is taken -/
theorem tk_ok {bs : List Nat} {s : Nat × Int} {n : Nat} (h : (tkSt bs s n).2 = 0) : s.2 = 0 ∧ (tkSt bs s n).1 = s.1 + n := by
  unfold tkSt at *
  by_cases hs : s.2 = 0
  · simp only [hs, ne_eq, not_true_eq_false, if_false] at h ⊢
    by_cases hl : s.1 + n ≤ 8 * bs.length
    · simp only [hl, if_true, and_self]
    · simp [hl] at h
  · simp [hs] at h
theorem tk_err {bs : List Nat} {s : Nat × Int} {n : Nat} (h : s.2 = 0 ∨ s.2 = 10) : (tkSt bs s n).2 = 0 ∨ (tkSt bs s n).2 = 10 := by
  unfold tkSt
  split
  · exact h
  · split
    · exact .inl rfl
    · exact .inr rfl
def Dv.moreLen (d : Dv) : Nat := (if d.hasPic then (if d.long then 16 else 8) else 0) + (if d.hasTl0 then 8 else 0) + (if d.hasTid || d.hasKey then 8 else 0)
theorem digits_length (d : Dv) : d.digits.length = 8 + if d.any then 8 + d.moreLen else 0 := by
  obtain ⟨a1, a2, a3, a4, a5, a6, a7, a8, a9, a10, a11, a12, a13⟩ := d
  cases a4 <;> cases a5 <;> cases a7 <;> cases a9 <;> cases a12 <;> simp [Dv.digits, Vis.visit, Vis.first, Vis.second, Vis.more, Vis.more1, Vis.more2, Vis.more3, Vis.more4, Vis.s1, Vis.s2, Vis.s3, Vp, Dv.any, digs_length, Dv.moreLen]

theorem first_ok {bs : List Nat} {e : Dv} {s : Nat × Int} (h : ((Vt bs).first e s).2.2 = 0) : s.2 = 0 ∧ ((Vt bs).first e s).2.1 = s.1 + 8 := by
  simp only [Vis.first, Vis.s1, Vis.s2, Vis.s3, Vt] at h ⊢
  obtain ⟨h1, e1⟩ := tk_ok h
  obtain ⟨h2, e2⟩ := tk_ok h1
  obtain ⟨h3, e3⟩ := tk_ok h2
  obtain ⟨h4, e4⟩ := tk_ok h3
  obtain ⟨h5, e5⟩ := tk_ok h4
  obtain ⟨h6, e6⟩ := tk_ok h5
  exact ⟨h6, by omega⟩
theorem second_ok {bs : List Nat} {e : Dv} {s : Nat × Int} (h : ((Vt bs).second e s).2.2 = 0) : s.2 = 0 ∧ ((Vt bs).second e s).2.1 = s.1 + 8 := by
  simp only [Vis.second, Vt] at h ⊢
  obtain ⟨h1, e1⟩ := tk_ok h
  obtain ⟨h2, e2⟩ := tk_ok h1
  obtain ⟨h3, e3⟩ := tk_ok h2
  obtain ⟨h4, e4⟩ := tk_ok h3
  obtain ⟨h5, e5⟩ := tk_ok h4
  exact ⟨h5, by omega⟩
/-- A descriptor of which only the first two bytes are told. -/
structure Dv.Two (e : Dv) : Prop where
  part : e.part < 8
  long : e.long = false
  pic : e.pic = 0
  tl0 : e.tl0 = 0
  tid : e.tid = 0
  sync : e.sync = false
  key : e.key = 0
theorem tk_small (bs : List Nat) (s : Nat × Int) : tkNum bs s 3 % 256 < 8 ∧ tkNum bs s 2 % 256 < 4 ∧ tkNum bs s 5 % 256 < 32 ∧ tkNum bs s 8 % 256 < 256 ∧ tkNum bs s 7 < 128 ∧ tkNum bs s 15 < 32768 := by
  have h3 := tkNum_lt bs s 3
  have h2 := tkNum_lt bs s 2
  have h5 := tkNum_lt bs s 5
  have h7 := tkNum_lt bs s 7
  have h15 := tkNum_lt bs s 15
  omega
theorem more1_is (bs : List Nat) (e : Dv) (s : Nat × Int) : ∃ L P s', (Vt bs).more1 e s = ((if e.hasPic then { e with long := L, pic := P } else e), s') ∧ P < (if L then 32768 else 128) ∧ (s'.2 = 0 → s.2 = 0 ∧ s'.1 = s.1 + (if e.hasPic then (if L then 16 else 8) else 0)) := by
  unfold Vis.more1
  cases hp : e.hasPic
  · exact ⟨false, 0, s, rfl, by decide, fun h => ⟨h, by simp⟩⟩
  · simp only [if_true]
    cases hb : (Vt bs).fl s e.long
    · refine ⟨_, _, _, rfl, (tk_small bs _).2.2.2.2.1, fun h => ?_⟩
      obtain ⟨h1, e1⟩ := tk_ok h
      obtain ⟨h2, e2⟩ := tk_ok h1
      exact ⟨h2, e1.trans (by rw [show ((Vt bs).fs s e.long).1 = s.1 + 1 from e2]; rfl)⟩
    · refine ⟨_, _, _, rfl, (tk_small bs _).2.2.2.2.2, fun h => ?_⟩
      obtain ⟨h1, e1⟩ := tk_ok h
      obtain ⟨h2, e2⟩ := tk_ok h1
      exact ⟨h2, e1.trans (by rw [show ((Vt bs).fs s e.long).1 = s.1 + 1 from e2]; rfl)⟩
theorem more2_is (bs : List Nat) (e : Dv) (s : Nat × Int) : ∃ T s', (Vt bs).more2 e s = ((if e.hasTl0 then { e with tl0 := T } else e), s') ∧ T < 256 ∧ (s'.2 = 0 → s.2 = 0 ∧ s'.1 = s.1 + (if e.hasTl0 then 8 else 0)) := by
  unfold Vis.more2
  cases hp : e.hasTl0
  · exact ⟨0, s, rfl, by decide, fun h => ⟨h, by simp⟩⟩
  · simp only [if_true, Vt]
    refine ⟨_, _, rfl, (tk_small bs _).2.2.2.1, fun h => ?_⟩
    exact tk_ok h
theorem more3_is (bs : List Nat) (e : Dv) (s : Nat × Int) : ∃ T S s', (Vt bs).more3 e s = ((if e.hasTid then { e with tid := T, sync := S } else e), s') ∧ T < 4 ∧ (s'.2 = 0 → s.2 = 0 ∧ s'.1 = s.1 + 3) := by
  unfold Vis.more3
  cases hp : e.hasTid
  · simp only [Bool.false_eq_true, if_false, Vt]
    exact ⟨0, false, _, rfl, by decide, fun h => tk_ok h⟩
  · simp only [if_true, Vt]
    refine ⟨_, _, _, rfl, (tk_small bs _).2.1, fun h => ?_⟩
    obtain ⟨h1, e1⟩ := tk_ok h
    obtain ⟨h2, e2⟩ := tk_ok h1
    exact ⟨h2, by omega⟩
theorem more4_is (bs : List Nat) (e : Dv) (s : Nat × Int) : ∃ T s', (Vt bs).more4 e s = ((if e.hasKey then { e with key := T } else e), s') ∧ T < 32 ∧ (s'.2 = 0 → s.2 = 0 ∧ s'.1 = s.1 + 5) := by
  unfold Vis.more4
  cases hp : e.hasKey
  · simp only [Bool.false_eq_true, if_false, Vt]
    exact ⟨0, _, rfl, by decide, fun h => tk_ok h⟩
  · simp only [if_true, Vt]
    exact ⟨_, _, rfl, (tk_small bs _).2.2.1, fun h => tk_ok h⟩
theorem more_is (bs : List Nat) (e : Dv) (s : Nat × Int) (he : e.Two) :
    ((Vt bs).more e s).1.right = true ∧ ((Vt bs).more e s).1.Fit ∧ (((Vt bs).more e s).2.2 = 0 → s.2 = 0 ∧ ((Vt bs).more e s).2.1 = s.1 + ((Vt bs).more e s).1.moreLen) ∧ ((Vt bs).more e s).1.any = e.any := by
  obtain ⟨k1, k2, k3, k4, k5, k6, k7⟩ := he
  obtain ⟨e1, e2, e3, e4, e5, e6, e7, e8, e9, e10, e11, e12, e13⟩ := e
  simp only at k1 k2 k3 k4 k5 k6 k7
  subst k2 k3 k4 k5 k6 k7
  obtain ⟨L, P, s1, q1, hP, hs1⟩ := more1_is bs ⟨e1, e2, e3, e4, false, 0, e7, 0, e9, 0, false, e12, 0⟩ s
  unfold Vis.more
  simp only [q1] at hs1 ⊢
  generalize hd1 : (if e4 = true then (⟨e1, e2, e3, e4, L, P, e7, 0, e9, 0, false, e12, 0⟩ : Dv) else ⟨e1, e2, e3, e4, false, 0, e7, 0, e9, 0, false, e12, 0⟩) = d1 at *
  obtain ⟨T, s2, q2, hT, hs2⟩ := more2_is bs d1 s1
  rw [q2]
  simp only
  have f2 : (if d1.hasTl0 = true then ({ d1 with tl0 := T } : Dv) else d1).hasTid = e9 ∧ (if d1.hasTl0 = true then ({ d1 with tl0 := T } : Dv) else d1).hasKey = e12 := by
    subst hd1
    cases e4 <;> cases e7 <;> exact ⟨rfl, rfl⟩
  rw [f2.1, f2.2]
  cases hk : (!e9 && !e12)
  · simp only [Bool.false_eq_true, if_false]
    obtain ⟨U, S, s3, q3, hU, hs3⟩ := more3_is bs (if d1.hasTl0 = true then ({ d1 with tl0 := T } : Dv) else d1) s2
    rw [q3]
    simp only
    obtain ⟨K, s4, q4, hK, hs4⟩ := more4_is bs (if (if d1.hasTl0 = true then ({ d1 with tl0 := T } : Dv) else d1).hasTid = true then ({ (if d1.hasTl0 = true then ({ d1 with tl0 := T } : Dv) else d1) with tid := U, sync := S } : Dv) else (if d1.hasTl0 = true then ({ d1 with tl0 := T } : Dv) else d1)) s3
    rw [q4]
    simp only
    subst hd1
    cases L <;> cases e4 <;> cases e7 <;> cases e9 <;> cases e12 <;> first | (cases hk; done) | (
      simp only [if_true, Bool.false_eq_true, if_false] at *
      refine ⟨(Dv.same_iff _ _).2 ?_, ⟨?_, ?_, ?_, ?_, ?_⟩, fun h => ?_, by first | rfl | trivial⟩
      · simp only [Dv.fit, if_true, Bool.false_eq_true, if_false, Dv.mk.injEq, true_and, and_true]
        omega
      all_goals simp only [Dv.moreLen, if_true, Bool.false_eq_true, if_false, Bool.or_true, Bool.true_or, Bool.or_false] at *
      all_goals omega)
  · simp only [if_true]
    obtain ⟨r1, r2⟩ : e9 = false ∧ e12 = false := by simpa using hk
    subst hd1 r1 r2
    cases L <;> cases e4 <;> cases e7 <;> (
      simp only [if_true, Bool.false_eq_true, if_false] at *
      refine ⟨(Dv.same_iff _ _).2 ?_, ⟨?_, ?_, ?_, ?_, ?_⟩, fun h => ?_, by first | rfl | trivial⟩
      · simp only [Dv.fit, if_true, Bool.false_eq_true, if_false, Dv.mk.injEq, true_and, and_true]
        try omega
      all_goals simp only [Dv.moreLen, if_true, Bool.false_eq_true, if_false, Bool.or_true, Bool.true_or, Bool.or_false] at *
      all_goals omega)
/-- What is taken is right; so many digits were taken. -/
theorem got_is (bs : List Nat) : (Got bs).1.right = true ∧ (Got bs).1.Fit ∧ ((Got bs).2.2 = 0 → (Got bs).2.1 = (Got bs).1.digits.length ∨ (Got bs).2.1 = (Got bs).1.digits.length + 8) := by
  have hp := (tk_small bs ((Vt bs).s3 Dv.zero (0, 0))).1
  have hz : ((Vt bs).first Dv.zero (0, 0)).1.part < 8 := hp
  have hfo := first_ok (bs := bs) (e := Dv.zero) (s := (0, 0))
  unfold Got Vis.visit
  split
  · have hso := second_ok (bs := bs) (e := ((Vt bs).first Dv.zero (0, 0)).1) (s := ((Vt bs).first Dv.zero (0, 0)).2)
    have h2 : ((Vt bs).second ((Vt bs).first Dv.zero (0, 0)).1 ((Vt bs).first Dv.zero (0, 0)).2).1.Two := ⟨hz, rfl, rfl, rfl, rfl, rfl, rfl⟩
    obtain ⟨m1, m2, m3, m4⟩ := more_is bs _ ((Vt bs).second ((Vt bs).first Dv.zero (0, 0)).1 ((Vt bs).first Dv.zero (0, 0)).2).2 h2
    refine ⟨m1, m2, fun h => ?_⟩
    obtain ⟨n1, n2⟩ := m3 h
    obtain ⟨o1, o2⟩ := hso n1
    obtain ⟨_, p2⟩ := hfo o1
    rw [n2, o2, p2, digits_length]
    generalize ((Vt bs).more _ _).1 = g
    cases ha : g.any
    · obtain ⟨a1, a2, a3, a4⟩ := any_off ha
      right
      simp [Dv.moreLen, a1, a2, a3, a4]
    · left
      simp only [if_true]
      omega
  · refine ⟨(Dv.same_iff _ _).2 ?_, ⟨by omega, ?_, ?_, ?_, ?_⟩, fun h => ?_⟩
    · have e : ((Vt bs).first Dv.zero (0, 0)).1.part % 8 = ((Vt bs).first Dv.zero (0, 0)).1.part := Nat.mod_eq_of_lt hz
      unfold Dv.fit
      rw [e]
      rfl
    · exact (by decide : (0 : Nat) < 65536)
    · exact (by decide : (0 : Nat) < 256)
    · exact (by decide : (0 : Nat) < 256)
    · exact (by decide : (0 : Nat) < 256)
    · left
      obtain ⟨_, p2⟩ := hfo h
      rw [p2, digits_length]
      rfl
/-- The place is within the bytes. -/
def In2 (bs : List Nat) (s : Nat × Int) : Prop := s.1 ≤ 8 * bs.length
theorem tk_in {bs : List Nat} {s : Nat × Int} {n : Nat} (h : In2 bs s) : In2 bs (tkSt bs s n) := by
  unfold tkSt In2 at *
  split
  · exact h
  · split
    · assumption
    · exact h
theorem got_place (bs : List Nat) : In2 bs (Got bs).2 := by
  have f1 : ∀ e s, In2 bs s → In2 bs ((Vt bs).first e s).2 := fun e s h => tk_in (tk_in (tk_in (tk_in (tk_in (tk_in h)))))
  have f2 : ∀ e s, In2 bs s → In2 bs ((Vt bs).second e s).2 := fun e s h => tk_in (tk_in (tk_in (tk_in (tk_in h))))
  have m1 : ∀ e s, In2 bs s → In2 bs ((Vt bs).more1 e s).2 := fun e s h => by
    unfold Vis.more1; cases e.hasPic
    · exact h
    · exact tk_in (tk_in h)
  have m2 : ∀ e s, In2 bs s → In2 bs ((Vt bs).more2 e s).2 := fun e s h => by
    unfold Vis.more2; cases e.hasTl0
    · exact h
    · exact tk_in h
  have m3 : ∀ e s, In2 bs s → In2 bs ((Vt bs).more3 e s).2 := fun e s h => by
    unfold Vis.more3; cases e.hasTid
    · exact tk_in h
    · exact tk_in (tk_in h)
  have m4 : ∀ e s, In2 bs s → In2 bs ((Vt bs).more4 e s).2 := fun e s h => by
    unfold Vis.more4; cases e.hasKey
    · exact tk_in h
    · exact tk_in h
  have mm : ∀ e s, In2 bs s → In2 bs ((Vt bs).more e s).2 := fun e s h => by
    unfold Vis.more
    simp only
    split
    · exact m2 _ _ (m1 _ _ h)
    · exact m4 _ _ (m3 _ _ (m2 _ _ (m1 _ _ h)))
  have h0 : In2 bs (0, 0) := Nat.zero_le _
  unfold Got Vis.visit
  split
  · exact mm _ _ (f2 _ _ (f1 _ _ h0))
  · exact f1 _ _ h0
def Err2 (s : Nat × Int) : Prop := s.2 = 0 ∨ s.2 = 10
theorem tk_err2 {bs : List Nat} {s : Nat × Int} {n : Nat} (h : Err2 s) : Err2 (tkSt bs s n) := tk_err h
theorem vt_err {bs : List Nat} {e : Dv} {s : Nat × Int} (h : Err2 s) : Err2 ((Vt bs).visit e s).2 := by
  have f1 : ∀ e s, Err2 s → Err2 ((Vt bs).first e s).2 := fun e s h => tk_err2 (tk_err2 (tk_err2 (tk_err2 (tk_err2 (tk_err2 h)))))
  have f2 : ∀ e s, Err2 s → Err2 ((Vt bs).second e s).2 := fun e s h => tk_err2 (tk_err2 (tk_err2 (tk_err2 (tk_err2 h))))
  have m1 : ∀ e s, Err2 s → Err2 ((Vt bs).more1 e s).2 := fun e s h => by
    unfold Vis.more1; cases e.hasPic
    · exact h
    · exact tk_err2 (tk_err2 h)
  have m2 : ∀ e s, Err2 s → Err2 ((Vt bs).more2 e s).2 := fun e s h => by
    unfold Vis.more2; cases e.hasTl0
    · exact h
    · exact tk_err2 h
  have m3 : ∀ e s, Err2 s → Err2 ((Vt bs).more3 e s).2 := fun e s h => by
    unfold Vis.more3; cases e.hasTid
    · exact tk_err2 h
    · exact tk_err2 (tk_err2 h)
  have m4 : ∀ e s, Err2 s → Err2 ((Vt bs).more4 e s).2 := fun e s h => by
    unfold Vis.more4; cases e.hasKey
    · exact tk_err2 h
    · exact tk_err2 h
  have mm : ∀ e s, Err2 s → Err2 ((Vt bs).more e s).2 := fun e s h => by
    unfold Vis.more
    simp only
    split
    · exact m2 _ _ (m1 _ _ h)
    · exact m4 _ _ (m3 _ _ (m2 _ _ (m1 _ _ h)))
  unfold Vis.visit
  split
  · exact mm _ _ (f2 _ _ (f1 _ _ h))
  · exact f1 _ _ h
theorem got_err (bs : List Nat) : (Got bs).2.2 = 0 ∨ (Got bs).2.2 = 10 := vt_err (.inl rfl)

theorem anew_right (d : Dv) (pic tl0 tid : Nat) (hr : d.right = true) : (d.anew pic tl0 tid d.sync).right = true := by
  have hfit := right_fit hr
  obtain ⟨a1, a2, a3, a4, a5, a6, a7, a8, a9, a10, a11, a12, a13⟩ := d
  simp only [Dv.fit, Dv.mk.injEq] at hfit
  obtain ⟨_, _, h3, _, _, _, _, _, _, _, _, _, h13⟩ := hfit
  refine (Dv.same_iff _ _).2 ?_
  simp only [Dv.anew, Dv.fit, if_true, Dv.mk.injEq, true_and, and_true]
  refine ⟨h3, ?_, ?_, h13⟩ <;> omega
theorem anew_fit (d : Dv) (pic tl0 tid : Nat) (sync : Bool) (hf : d.Fit) (ht : tl0 < 256) : (d.anew pic tl0 tid sync).Fit :=
  ⟨hf.part, by show pic % 32768 < 65536; omega, ht, by show tid % 4 < 256; omega, hf.key⟩
theorem anew_len (d : Dv) (pic tl0 tid : Nat) (sync : Bool) : (d.anew pic tl0 tid sync).digits.length = 48 := by
  rw [digits_length]
  simp [Dv.anew, Dv.any, Dv.moreLen]
/-- What Put wrote. -/
theorem wrote_put {d : Dv} {rest out : List Nat} (h : Wrote out (d.digits ++ D rest)) (hr : ∀ x ∈ rest, x < 256) : ∃ i, d.digits.length = 8 * i ∧ 1 ≤ i ∧ i ≤ 6 ∧ out.length = i + rest.length ∧ out.drop i = rest ∧ d.digits <+: D out := by
  obtain ⟨h8, h48⟩ := digits_len d
  have hl := digits_length d
  refine ⟨d.digits.length / 8, by omega, by omega, by omega, ?_, ?_, ?_⟩
  · rw [h.rows, List.length_append, D_length]; omega
  · have ho : out.length = d.digits.length / 8 + rest.length := by rw [h.rows, List.length_append, D_length]; omega
    have hd := h.digits
    rw [show 8 * out.length - (d.digits ++ D rest).length = 0 from by rw [List.length_append, D_length]; omega, List.replicate_zero, List.append_nil] at hd
    rw [← List.take_append_drop (d.digits.length / 8) out, D_append] at hd
    have := (List.append_inj hd (by rw [D_length, List.length_take]; omega)).2
    exact D_inj _ _ (fun x hx => h.bytes x (List.mem_of_mem_drop hx)) hr this
  · rw [h.digits, List.append_assoc]
    exact List.prefix_append _ _
end Go.Proofs.Ytneogagainllnaa
