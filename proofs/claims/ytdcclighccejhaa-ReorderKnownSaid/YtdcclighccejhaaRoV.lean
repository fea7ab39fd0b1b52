/- reorder's law: calls as arguments, opened. Conditions: as each says. -/
import Derived.Test.YtdcclighccejhaaRoT
import Derived.Test.YtdcclighccejhaaBase
set_option linter.unusedVariables false
set_option linter.unusedSimpArgs false
namespace Go.Proofs.Ytdcclighccejhaa
open Go.Joins Go.ChangeShapes Go.WideShapes Go.RowKit Go.Deep

section
variable {H : Type} {enc : TypeId × Value → H} {P : Program} {w : World} {base : Nat} {spare : Nat → Bool} {held : Bool}
/-- The cells of a struct of fields of one cell. -/
theorem open_cells {n : Nat} {e : TypeId} {fs : Array Field} {cs : List Value} {y : DataW H × List MemPlace} (he : P.underlying e = some (.struct fs)) (hone : oneCellFields P fs = true) (hC : P.cellsOf e = fs.size)
    (h : DataW.trod enc P w base spare held n e cs = some y) : cs.length = fs.size ∧ ∀ (j : Nat) (f : Field) (x : Value), fs[j]? = some f → cs[j]? = some x → ∃ (m : Nat) (z : DataW H × List MemPlace), DataW.trod enc P w base spare held m f.type [x] = some z := by
  obtain ⟨xs, m', _, _, hlen, hxl, hf⟩ := DataW.trod_struct he h
  refine ⟨hlen.trans hC, fun j f x hj hx => ?_⟩
  obtain ⟨o, k1⟩ := hone_of hone j f hj
  have h1 := hf j f hj
  rw [o, k1] at h1
  obtain ⟨hjl, hxe⟩ := List.getElem?_eq_some_iff.1 hx
  have e1 : (cs.drop j).take 1 = [x] := by
    rw [List.drop_eq_getElem_cons hjl, hxe]
    rfl
  rw [e1] at h1
  have hjx : j < xs.length := by rw [hxl]; exact (Array.getElem?_eq_some_iff.1 hj).1
  rw [List.getElem?_eq_getElem hjx] at h1
  exact ⟨m', _, h1⟩
end
section
variable {H : Type} {enc : TypeId × Value → H} {w : World} {base : Nat} {spare : Nat → Bool} {held : Bool}
theorem open_pkt {n : Nat} {cs : List Value} {y : DataW H × List MemPlace} (h : DataW.trod enc Try.prog w base spare held n 42 cs = some y) :
    ∃ (p : Pk) (u : V3), cs = (p.cls u.1 u.2.1 u.2.2).toList ∧ RdU p u w := by
  obtain ⟨hl, hf⟩ := open_cells Try.underlying42 (by kernel_rfl) (by kernel_rfl) h
  obtain _ | ⟨c0, cs⟩ := cs
  · cases hl
  obtain _ | ⟨c1, cs⟩ := cs
  · cases hl
  obtain _ | ⟨c2, cs⟩ := cs
  · cases hl
  obtain _ | ⟨c3, cs⟩ := cs
  · cases hl
  obtain _ | ⟨c4, cs⟩ := cs
  · cases hl
  obtain _ | ⟨c5, cs⟩ := cs
  · cases hl
  obtain _ | ⟨c6, cs⟩ := cs
  · cases hl
  obtain _ | ⟨c7, cs⟩ := cs
  · cases hl
  obtain _ | ⟨c8, cs⟩ := cs
  · cases hl
  obtain _ | ⟨c9, cs⟩ := cs
  · cases hl
  obtain _ | ⟨c10, cs⟩ := cs
  · cases hl
  obtain rfl : cs = [] := by
    obtain _ | ⟨c11, cs⟩ := cs
    · rfl
    · cases hl
  obtain ⟨m0, y0, e0⟩ := hf 0 _ c0 rfl rfl
  obtain ⟨m1, y1, e1⟩ := hf 1 _ c1 rfl rfl
  obtain ⟨m2, y2, e2⟩ := hf 2 _ c2 rfl rfl
  obtain ⟨m3, y3, e3⟩ := hf 3 _ c3 rfl rfl
  obtain ⟨m4, y4, e4⟩ := hf 4 _ c4 rfl rfl
  obtain ⟨m5, y5, e5⟩ := hf 5 _ c5 rfl rfl
  obtain ⟨m6, y6, e6⟩ := hf 6 _ c6 rfl rfl
  obtain ⟨m7, y7, e7⟩ := hf 7 _ c7 rfl rfl
  obtain ⟨m8, y8, e8⟩ := hf 8 _ c8 rfl rfl
  obtain ⟨m9, y9, e9⟩ := hf 9 _ c9 rfl rfl
  obtain ⟨m10, y10, e10⟩ := hf 10 _ c10 rfl rfl
  clear hf
  obtain ⟨b0, rfl⟩ := field_bool Try.underlying4 e0
  obtain ⟨x1, rfl, -⟩ := field_nat Try.underlying5 (.inl ⟨rfl, rfl⟩) e1
  obtain ⟨x2, rfl, -⟩ := field_nat Try.underlying37 (.inr (.inl ⟨rfl, rfl⟩)) e2
  obtain ⟨x3, rfl, -⟩ := field_nat Try.underlying38 (.inr (.inr (.inl ⟨rfl, rfl⟩))) e3
  obtain ⟨x4, rfl, -⟩ := field_nat Try.underlying38 (.inr (.inr (.inl ⟨rfl, rfl⟩))) e4
  obtain ⟨zs, h5, w5, -, n5⟩ := field_rdn Try.underlying39 Try.underlying38 (by kernel_rfl) e5
  obtain ⟨b6, rfl⟩ := field_bool Try.underlying4 e6
  obtain ⟨x7, rfl, -⟩ := field_nat Try.underlying37 (.inr (.inl ⟨rfl, rfl⟩)) e7
  obtain ⟨bs8, h8, -, -⟩ := field_bytes Try.underlying40 Try.underlying5 (by kernel_rfl) e8
  obtain ⟨bs9, h9, -, -⟩ := field_bytes Try.underlying40 Try.underlying5 (by kernel_rfl) e9
  obtain ⟨x10, rfl, -⟩ := field_nat Try.underlying5 (.inl ⟨rfl, rfl⟩) e10
  obtain ⟨xs, rfl, -⟩ := nats_u32 zs w5
  exact ⟨⟨b0, x1, x2, x3, x4, xs, b6, x7, bs8, bs9, x10⟩, (c5, c8, c9), rfl, ⟨h5, h8, h9, by obtain ⟨A, c, h, _⟩ := h5; exact ⟨A, _, c, h⟩⟩, n5⟩
set_option maxRecDepth 100000 in
/-- The numbers of a call are numbers of 64 digits. -/
def Ac.Fit (a : Ac) : Prop := a.n < 18446744073709551616 ∧ a.now < 18446744073709551616 ∧ (Lit.int .i64 a.d).wf = true
set_option maxRecDepth 100000 in
theorem open_act_cells {n : Nat} {cs : List Value} {y : DataW H × List MemPlace} (h : DataW.trod enc Try.prog w base spare held n 44 cs = some y) :
    ∃ (a : Ac) (u : V3), cs = a.cls u ∧ RdU a.p u w ∧ a.Fit := by
  obtain ⟨xs, m', _, _, hlen, hxl, hf⟩ := DataW.trod_struct Try.underlying44 h
  have hcl : cs.length = 14 := hlen.trans (by kernel_rfl)
  have h0 := hf 0 _ rfl
  have h1 := hf 1 _ rfl
  have h2 := hf 2 _ rfl
  have h3 := hf 3 _ rfl
  have get : ∀ j, j < 4 → ∃ z, xs[j]? = some z := fun j hj => ⟨_, List.getElem?_eq_getElem (by rw [hxl]; exact hj)⟩
  obtain ⟨z0, g0⟩ := get 0 (by decide)
  obtain ⟨z1, g1⟩ := get 1 (by decide)
  obtain ⟨z2, g2⟩ := get 2 (by decide)
  obtain ⟨z3, g3⟩ := get 3 (by decide)
  rw [g0] at h0
  rw [g1] at h1
  rw [g2] at h2
  rw [g3] at h3
  obtain _ | ⟨c0, cs⟩ := cs
  · simp at hcl
  obtain _ | ⟨c1, cs⟩ := cs
  · simp at hcl
  obtain _ | ⟨c2, cs⟩ := cs
  · simp at hcl
  have hl3 : cs.length = 11 := by simpa using hcl
  replace h0 : DataW.trod enc Try.prog w base spare held m' 3 [c0] = some z0 := h0
  replace h1 : DataW.trod enc Try.prog w base spare held m' 22 [c1] = some z1 := h1
  replace h2 : DataW.trod enc Try.prog w base spare held m' 22 [c2] = some z2 := h2
  replace h3 : DataW.trod enc Try.prog w base spare held m' 42 cs = some z3 := by
    have : ((c0 :: c1 :: c2 :: cs).drop 3).take (Try.prog.cellsOf 42) = cs := by
      rw [show Try.prog.cellsOf 42 = 11 from by kernel_rfl]
      exact List.take_of_length_le (by simp [hl3])
    rw [← this]
    exact h3
  obtain ⟨d, rfl, hd⟩ := field_int Try.underlying3 h0
  obtain ⟨x1, rfl, hx1⟩ := field_nat Try.underlying22 (.inr (.inr (.inr ⟨rfl, rfl⟩))) h1
  obtain ⟨x2, rfl, hx2⟩ := field_nat Try.underlying22 (.inr (.inr (.inr ⟨rfl, rfl⟩))) h2
  obtain ⟨p, u, rfl, hr⟩ := open_pkt h3
  exact ⟨⟨d, x1, x2, p⟩, u, rfl, hr, hx1, hx2, hd⟩
set_option maxRecDepth 100000 in
/-- A call by value. -/
theorem open_act {r : Reach} {b0 : Nat} {v : Value} {d : DataW H} {p : List MemPlace} (hv : Value.okWide Try.prog w r b0 44 v) (h : DataW.Trod enc Try.prog w base spare held 44 v d p) : ∃ (a : Ac) (u : V3), v = .agg (a.cls u).toArray ∧ RdU a.p u w ∧ a.Fit := by
  obtain ⟨cs, rfl, hsz⟩ := okWide_struct Try.underlying44 hv
  obtain ⟨l⟩ := cs
  obtain ⟨fuel, hf⟩ := h
  obtain ⟨a, u, rfl, h1, h2⟩ := open_act_cells hf
  exact ⟨a, u, rfl, h1, h2⟩
set_option maxRecDepth 100000 in
/-- Calls in a row. -/
theorem open_acts {n : Nat} {c : Value} {y : DataW H × List MemPlace} (h : DataW.trod enc Try.prog w base spare held n 23 [c] = some y) :
    ∃ (l : List Ac) (us : List V3), RdAs w c l us ∧ (∀ a ∈ l, a.Fit) ∧ l.length ≤ 9223372036854775807 := by
  rcases open_slice Try.underlying23 h with ⟨hcs, _⟩ | ⟨a, len, cap, m, k, D, Pl, hcs, _, hl, hm, hmm, _, hi⟩
  · injection hcs with hcs
    subst hcs
    exact ⟨[], [], ⟨⟨none, 0, rfl, Nat.le_refl _⟩, rfl, fun i a u ha => by simp at ha⟩, by simp, by simp⟩
  · injection hcs with hcs
    subst hcs
    have hQ : ∀ i, i < len → ∃ q : Ac × V3, (∃ g o, a = ⟨g, o, none⟩ ∧ w.rangeAt g (o + i * 14) (q.1.cls q.2)) ∧ RdU q.1.p q.2 w ∧ q.1.Fit := by
      intro i hil
      obtain ⟨cs, hc, hT⟩ := hi i (by rw [hmm]; split <;> omega)
      obtain ⟨b, u, rfl, h1, h2⟩ := open_act_cells hT
      obtain ⟨_, hcl, hat⟩ := World.cells?_some hc
      refine ⟨(b, u), ?_, h1, h2⟩
      rw [show Try.prog.cellsOf 44 = 14 from by kernel_rfl] at hat
      obtain ⟨g, o, spot⟩ := a
      have hsp : spot = none := by
        obtain ⟨cs0, hc0, hT0⟩ := hi 0 (by rw [hmm]; split <;> omega)
        obtain ⟨b0, u0, rfl, -, -⟩ := open_act_cells hT0
        obtain ⟨_, -, hat0⟩ := World.cells?_some hc0
        have q0 := hat0 0 (by rw [show Try.prog.cellsOf 44 = 14 from by kernel_rfl]; decide)
        have : w.cell? (⟨g, o, spot⟩ : Addr) = (b0.cls u0)[0]? := by simpa [Addr.add] using q0
        replace this : w.cell? (⟨g, o, spot⟩ : Addr) = some (.int .i64 b0.d) := this
        simpa using World.cell?_spot this
      subst hsp
      refine ⟨g, o, rfl, fun j z hj => ?_⟩
      have hjl : j < 14 := by rw [← Ac.cls_length b u]; exact (List.getElem?_eq_some_iff.1 hj).1
      have q := hat j hjl
      rw [Go.Deep.add_add, add_plain, hj] at q
      rw [Nat.add_assoc]
      exact q
    obtain ⟨l, hll, hq⟩ := list_of len hQ
    refine ⟨l.map (·.1), l.map (·.2), ⟨⟨some a, cap, by rw [List.length_map, hll], by rw [List.length_map, hll]; exact hl⟩, by simp, fun i b u hb hu => ?_⟩, fun b hb => ?_, by rw [List.length_map, hll]; unfold maxLen at hm; omega⟩
    · rw [List.getElem?_map] at hb hu
      cases hx : l[i]? with
      | none => rw [hx] at hb; simp at hb
      | some q =>
        rw [hx] at hb hu
        simp at hb hu
        subst hb hu
        obtain ⟨⟨g, o, rfl, hr⟩, hp, -⟩ := hq i q hx
        exact ⟨⟨g, o, _, _, rfl, hr⟩, hp⟩
    · obtain ⟨q, hqm, rfl⟩ := List.mem_map.1 hb
      obtain ⟨i, hi2⟩ := List.getElem?_of_mem hqm
      exact (hq i q hi2).2.2
end
end Go.Proofs.Ytdcclighccejhaa
