/- The reference's Put. Conditions: as each says. -/
import Derived.Test.YtneogagainllnaaRvF
set_option linter.unusedVariables false
namespace Go.Proofs.Ytneogagainllnaa
open Go.RowKit

/-- A descriptor's bytes, as the reference writes them. -/
def rb0 (d : Dv) : Nat := (if d.any then 128 else 0) + (if d.n then 32 else 0) + (if d.start then 16 else 0) + d.part
def rb1 (d : Dv) : Nat := (if d.hasPic then 128 else 0) + (if d.hasTl0 then 64 else 0) + (if d.hasTid then 32 else 0) + (if d.hasKey then 16 else 0)
def rbk (d : Dv) : Nat := d.tid * 64 + (if d.sync then 32 else 0) + d.key
def rh1 (d : Dv) : List Nat := [rb0 d] ++ (if d.any then [rb1 d] else [])
def rh2 (d : Dv) : List Nat := rh1 d ++ (if d.hasPic && d.long then [128 + d.pic / 256, d.pic % 256] else [])
def rh3 (d : Dv) : List Nat := rh2 d ++ (if d.hasPic && !d.long then [d.pic] else [])
def rh4 (d : Dv) : List Nat := rh3 d ++ (if d.hasTl0 then [d.tl0] else [])
def refHead (d : Dv) : List Nat := rh4 d ++ (if d.hasTid || d.hasKey then [rbk d] else [])

theorem digs_b0 : ∀ (p : Fin 8) (a n s : Bool), digs 8 ((if a then 128 else 0) + (if n then 32 else 0) + (if s then 16 else 0) + p.val) = [bit a] ++ digs 1 0 ++ [bit n] ++ [bit s] ++ digs 1 0 ++ digs 3 p.val := by decide
theorem digs_b1 : ∀ (a b c e : Bool), digs 8 ((if a then 128 else 0) + (if b then 64 else 0) + (if c then 32 else 0) + (if e then 16 else 0)) = [bit a] ++ [bit b] ++ [bit c] ++ [bit e] ++ digs 4 0 := by decide
set_option maxRecDepth 100000 in
theorem digs_bk : ∀ (t : Fin 4) (s : Bool) (k : Fin 32), digs 8 (t.val * 64 + (if s then 32 else 0) + k.val) = digs 2 t.val ++ [bit s] ++ digs 5 k.val := by decide +kernel
theorem digs_long (p : Nat) (h : p < 32768) : digs 8 (128 + p / 256) ++ digs 8 (p % 256) = [bit true] ++ digs 15 p := by
  have e1 : digs 15 p = digs 7 (p / 256) ++ digs 8 p := digs_add 7 8 p
  have e2 : digs 8 (128 + p / 256) = digs 1 ((128 + p / 256) / 2 ^ 7) ++ digs 7 (128 + p / 256) := digs_add 1 7 _
  have e3 : digs 7 (128 + p / 256) = digs 7 (p / 256) := by
    rw [← digs_mod 7 7 (128 + p / 256) (Nat.le_refl _), ← digs_mod 7 7 (p / 256) (Nat.le_refl _)]
    congr 1
    omega
  have e4 : (128 + p / 256) / 2 ^ 7 = 1 := by omega
  have e5 : digs 8 (p % 256) = digs 8 p := digs_mod 8 8 p (Nat.le_refl _)
  rw [e1, e2, e3, e4, e5, ← List.append_assoc]
  rfl
theorem digs_short (p : Nat) (h : p < 128) : digs 8 p = [bit false] ++ digs 7 p := by
  have e2 : digs 8 p = digs 1 (p / 2 ^ 7) ++ digs 7 p := digs_add 1 7 _
  have e4 : p / 2 ^ 7 = 0 := by omega
  rw [e2, e4]
  rfl
theorem D_one (x : Nat) : D [x] = digs 8 x := by rw [D_cons, D_nil, List.append_nil]
theorem D_two (x y : Nat) : D [x, y] = digs 8 x ++ digs 8 y := by rw [D_cons, D_one]
theorem right_parts {d : Dv} (hr : d.right = true) : d.part < 8 ∧ d.pic < 32768 ∧ (d.long = false → d.pic < 128) ∧ d.tid < 4 ∧ d.key < 32 ∧ (d.hasPic = false → d.long = false ∧ d.pic = 0) ∧ (d.hasTl0 = false → d.tl0 = 0) ∧ (d.hasTid = false → d.tid = 0 ∧ d.sync = false) ∧ (d.hasKey = false → d.key = 0) := by
  have hfit := right_fit hr
  obtain ⟨a1, a2, a3, a4, a5, a6, a7, a8, a9, a10, a11, a12, a13⟩ := d
  simp only [Dv.fit, Dv.mk.injEq] at hfit
  obtain ⟨_, _, e3, _, e5, e6, _, e8, _, e10, e11, _, e13⟩ := hfit
  simp only
  refine ⟨by omega, ?_, ?_, ?_, ?_, ?_, ?_, ?_, ?_⟩
  · cases a4 <;> cases a5 <;> simp only [if_true, Bool.false_eq_true, if_false] at e6 <;> omega
  · intro h; subst h; cases a4 <;> simp only [if_true, Bool.false_eq_true, if_false] at e6 <;> omega
  · cases a9 <;> simp only [if_true, Bool.false_eq_true, if_false] at e10 <;> omega
  · cases a12 <;> simp only [if_true, Bool.false_eq_true, if_false] at e13 <;> omega
  · intro h; subst h; simp only [Bool.false_eq_true, if_false] at e5 e6; exact ⟨e5, e6⟩
  · intro h; subst h; simp only [Bool.false_eq_true, if_false] at e8; exact e8
  · intro h; subst h; simp only [Bool.false_eq_true, if_false] at e10 e11; exact ⟨e10, e11⟩
  · intro h; subst h; simp only [Bool.false_eq_true, if_false] at e13; exact e13
theorem more1_put (d : Dv) (q : List Nat) : (Vp.more1 d q).2 = q ++ (if d.hasPic then [bit d.long] ++ digs (if d.long then 15 else 7) d.pic else []) := by
  unfold Vis.more1
  cases d.hasPic
  · simp
  · exact List.append_assoc _ _ _
theorem more2_put (d : Dv) (q : List Nat) : (Vp.more2 d q).2 = q ++ (if d.hasTl0 then digs 8 d.tl0 else []) := by
  unfold Vis.more2
  cases d.hasTl0
  · simp
  · rfl
theorem more3_put (d : Dv) (q : List Nat) : (Vp.more3 d q).2 = q ++ (if d.hasTid then digs 2 d.tid ++ [bit d.sync] else digs 3 0) := by
  unfold Vis.more3
  cases d.hasTid
  · rfl
  · simp only [if_true, Vp]; rw [List.append_assoc]
theorem more4_put (d : Dv) (q : List Nat) : (Vp.more4 d q).2 = q ++ (if d.hasKey then digs 5 d.key else digs 5 0) := by
  unfold Vis.more4
  cases d.hasKey <;> rfl
theorem digits_eq (d : Dv) (hf : d.Fit) : d.digits = ([bit d.any] ++ digs 1 0 ++ [bit d.n] ++ [bit d.start] ++ digs 1 0 ++ digs 3 d.part) ++ (if d.any then ([bit d.hasPic] ++ [bit d.hasTl0] ++ [bit d.hasTid] ++ [bit d.hasKey] ++ digs 4 0) ++ (if d.hasPic then [bit d.long] ++ digs (if d.long then 15 else 7) d.pic else []) ++ (if d.hasTl0 then digs 8 d.tl0 else []) ++ (if d.hasTid || d.hasKey then (if d.hasTid then digs 2 d.tid ++ [bit d.sync] else digs 3 0) ++ (if d.hasKey then digs 5 d.key else digs 5 0) else []) else []) := by
  unfold Dv.digits
  have hv : Vp.visit d [] = if d.any then Vp.more d (Vp.second d (Vp.first d []).2).2 else (d, (Vp.first d []).2) := by
    unfold Vis.visit
    simp only [vp_first d _ hf, vp_second]
    show (if d.any = true then _ else _) = _
    split
    · rfl
    · exact Prod.ext (vp_first d [] hf) rfl
  have h1 : (Vp.first d []).2 = [bit d.any] ++ digs 1 0 ++ [bit d.n] ++ [bit d.start] ++ digs 1 0 ++ digs 3 d.part := rfl
  have h2 : ∀ q, (Vp.second d q).2 = q ++ ([bit d.hasPic] ++ [bit d.hasTl0] ++ [bit d.hasTid] ++ [bit d.hasKey] ++ digs 4 0) := fun q => by
    show q ++ [bit d.hasPic] ++ [bit d.hasTl0] ++ [bit d.hasTid] ++ [bit d.hasKey] ++ digs 4 0 = _
    simp only [List.append_assoc]
  rw [hv]
  cases ha : d.any
  · simp only [Bool.false_eq_true, if_false, List.append_nil]
    rw [h1, ha]
  · simp only [if_true]
    rw [vp_more d _ hf, h2, h1, ha]
    generalize [bit true] ++ digs 1 0 ++ [bit d.n] ++ [bit d.start] ++ digs 1 0 ++ digs 3 d.part = f
    generalize [bit d.hasPic] ++ [bit d.hasTl0] ++ [bit d.hasTid] ++ [bit d.hasKey] ++ digs 4 0 = g
    by_cases hk : (!d.hasTid && !d.hasKey) = true
    · rw [if_pos hk]
      simp only
      rw [more2_put, more1_put]
      obtain ⟨r1, r2⟩ : d.hasTid = false ∧ d.hasKey = false := by simpa using hk
      rw [r1, r2]
      simp only [Bool.or_self, Bool.false_eq_true, if_false, List.append_nil, List.append_assoc]
    · rw [if_neg hk, more4_put, more3_put, more2_put, more1_put]
      have hk2 : (d.hasTid || d.hasKey) = true := by
        revert hk
        cases d.hasTid <;> cases d.hasKey <;> simp
      rw [if_pos hk2]
      simp only [List.append_assoc]
theorem head_digits (d : Dv) (hf : d.Fit) (hr : d.right = true) : D (refHead d) = d.digits := by
  obtain ⟨h1, h2, h3, h4, h5, h6, h7, h8, h9⟩ := right_parts hr
  rw [digits_eq d hf]
  unfold refHead rh4 rh3 rh2 rh1
  rw [D_append, D_append, D_append, D_append, D_append, D_one, show digs 8 (rb0 d) = _ from digs_b0 ⟨d.part, h1⟩ d.any d.n d.start]
  simp only [List.append_assoc]
  congr 6
  cases ha : d.any
  · obtain ⟨k1, k2, k3, k4⟩ := any_off ha
    rw [k1, k2, k3, k4]
    rfl
  · simp only [if_true]
    rw [D_one, show digs 8 (rb1 d) = _ from digs_b1 d.hasPic d.hasTl0 d.hasTid d.hasKey]
    simp only [List.append_assoc]
    congr 5
    have ep : D (if (d.hasPic && d.long) = true then [128 + d.pic / 256, d.pic % 256] else []) ++ D (if (d.hasPic && !d.long) = true then [d.pic] else []) = (if d.hasPic then [bit d.long] ++ digs (if d.long then 15 else 7) d.pic else []) := by
      cases d.hasPic
      · rfl
      · cases hl : d.long
        · show D [] ++ D [d.pic] = [bit false] ++ digs 7 d.pic
          rw [D_nil, D_one, digs_short d.pic (h3 hl)]
          rfl
        · show D [128 + d.pic / 256, d.pic % 256] ++ D [] = [bit true] ++ digs 15 d.pic
          rw [D_nil, D_two, digs_long d.pic h2, List.append_nil]
    have et : D (if d.hasTl0 = true then [d.tl0] else []) = (if d.hasTl0 then digs 8 d.tl0 else []) := by
      cases d.hasTl0
      · rfl
      · exact D_one _
    have ek : D (if (d.hasTid || d.hasKey) = true then [rbk d] else []) = (if d.hasTid || d.hasKey then (if d.hasTid then digs 2 d.tid ++ [bit d.sync] else digs 3 0) ++ (if d.hasKey then digs 5 d.key else digs 5 0) else []) := by
      cases hk : (d.hasTid || d.hasKey)
      · rfl
      · simp only [if_true]
        rw [D_one, show digs 8 (rbk d) = _ from digs_bk ⟨d.tid, h4⟩ d.sync ⟨d.key, h5⟩]
        simp only
        congr 1
        · cases ht : d.hasTid
          · obtain ⟨z1, z2⟩ := h8 ht
            rw [z1, z2]
            rfl
          · rfl
        · cases hy : d.hasKey
          · rw [h9 hy]; rfl
          · rfl
    rw [← List.append_assoc, ep, et, ek]
theorem head_lt (d : Dv) (hf : d.Fit) (hr : d.right = true) : ∀ x ∈ refHead d, x < 256 := by
  obtain ⟨h1, h2, h3, h4, h5, h6, h7, h8, h9⟩ := right_parts hr
  have e0 : rb0 d < 256 := by unfold rb0; cases d.any <;> cases d.n <;> cases d.start <;> simp <;> omega
  have e1 : rb1 d < 256 := by unfold rb1; cases d.hasPic <;> cases d.hasTl0 <;> cases d.hasTid <;> cases d.hasKey <;> simp
  have ek : rbk d < 256 := by unfold rbk; split <;> omega
  have hp := hf.tl0
  intro x hx
  unfold refHead rh4 rh3 rh2 rh1 at hx
  simp only [List.mem_append] at hx
  rcases hx with ((((hx | hx) | hx) | hx) | hx) | hx
  · simp at hx; omega
  · split at hx <;> simp at hx; omega
  · split at hx <;> simp at hx; omega
  · split at hx
    · rename_i hc
      have : d.long = false := by revert hc; cases d.hasPic <;> cases d.long <;> simp
      have := h3 this
      simp at hx; omega
    · simp at hx
  · split at hx <;> simp at hx; omega
  · split at hx <;> simp at hx; omega
end Go.Proofs.Ytneogagainllnaa
