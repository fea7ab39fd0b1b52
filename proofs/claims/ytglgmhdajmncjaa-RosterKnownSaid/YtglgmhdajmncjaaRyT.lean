/- roster: what RosterPlays' walk gives for the statement's arguments: a row of calls, opened. Conditions: none. -/
import Derived.Test.YtglgmhdajmncjaaRyS
import Derived.Test.YtglgmhdajmncjaaLawC
set_option linter.unusedVariables false
set_option linter.unusedSimpArgs false
namespace Go.Proofs.Ytglgmhdajmncjaa
open Go.Joins Go.ChangeShapes Go.WideShapes Go.RowKit Go.Deep

theorem wf_i64 {z : Int} (h : (Lit.int .i64 z).wf = true) : -9223372036854775808 ≤ z ∧ z ≤ 9223372036854775807 := by
  simp [Lit.wf, IntKind.min, IntKind.max, IntKind.signed, IntKind.bits] at h
  omega
section
variable {H : Type} {enc : TypeId × Value → H} {w : World} {base : Nat} {spare : Nat → Bool} {held : Bool}
set_option maxRecDepth 100000 in
theorem open_mb {n : Nat} {cs : List Value} {y : DataW H × List MemPlace} (h : DataW.trod enc Try.prog w base spare held n 58 cs = some y) : ∃ m : Mb, cs = mbCells m ∧ m.Fits := by
  obtain ⟨hl, hf⟩ := open_cells Try.underlying58 (by kernel_rfl) (by kernel_rfl) h
  obtain _ | ⟨c0, cs⟩ := cs
  · cases hl
  obtain _ | ⟨c1, cs⟩ := cs
  · cases hl
  obtain _ | ⟨c2, cs⟩ := cs
  · cases hl
  obtain _ | ⟨c3, cs⟩ := cs
  · cases hl
  obtain rfl : cs = [] := by
    obtain _ | ⟨c4, cs⟩ := cs
    · rfl
    · cases hl
  obtain ⟨m0, y0, e0⟩ := hf 0 _ c0 rfl rfl
  obtain ⟨m1, y1, e1⟩ := hf 1 _ c1 rfl rfl
  obtain ⟨m2, y2, e2⟩ := hf 2 _ c2 rfl rfl
  obtain ⟨m3, y3, e3⟩ := hf 3 _ c3 rfl rfl
  clear hf
  obtain ⟨x0, rfl, hx0⟩ := field_int Try.underlying3 e0
  obtain ⟨x1, rfl, hx1⟩ := field_nat Try.underlying30 (.inr (.inr (.inl ⟨rfl, rfl⟩))) e1
  obtain ⟨x2, rfl, hx2⟩ := field_nat Try.underlying30 (.inr (.inr (.inl ⟨rfl, rfl⟩))) e2
  obtain ⟨b3, rfl⟩ := field_bool Try.underlying4 e3
  exact ⟨⟨x0, x1, x2, b3⟩, rfl, (wf_i64 hx0).1, (wf_i64 hx0).2, hx1, hx2⟩
set_option maxRecDepth 100000 in
theorem open_a14 {n : Nat} {cs : List Value} {y : DataW H × List MemPlace} (h : DataW.trod enc Try.prog w base spare held n 60 cs = some y) : ∃ a : A14, cs = a.cells ∧ a.m.Fits := by
  obtain ⟨xs, m', _, _, hlen, hxl, hf⟩ := DataW.trod_struct Try.underlying60 h
  have hcl : cs.length = 5 := hlen.trans (by kernel_rfl)
  have h0 := hf 0 _ rfl
  have h1 := hf 1 _ rfl
  have get : ∀ j, j < 2 → ∃ z, xs[j]? = some z := fun j hj => ⟨_, List.getElem?_eq_getElem (by rw [hxl]; exact hj)⟩
  obtain ⟨z0, g0⟩ := get 0 (by decide)
  obtain ⟨z1, g1⟩ := get 1 (by decide)
  rw [g0] at h0
  rw [g1] at h1
  obtain _ | ⟨c0, cs⟩ := cs
  · simp at hcl
  have hl3 : cs.length = 4 := by simpa using hcl
  replace h0 : DataW.trod enc Try.prog w base spare held m' 4 [c0] = some z0 := h0
  replace h1 : DataW.trod enc Try.prog w base spare held m' 58 cs = some z1 := by
    have : ((c0 :: cs).drop 1).take (Try.prog.cellsOf 58) = cs := by
      rw [show Try.prog.cellsOf 58 = 4 from by kernel_rfl]
      exact List.take_of_length_le (by simp [hl3])
    rw [← this]
    exact h1
  obtain ⟨b, rfl⟩ := field_bool Try.underlying4 h0
  obtain ⟨m, rfl, hm⟩ := open_mb h1
  exact ⟨⟨b, m⟩, rfl, hm⟩
theorem A14.cells_length (a : A14) : a.cells.length = 5 := rfl
set_option maxRecDepth 100000 in
theorem open_a14s {n : Nat} {c : Value} {y : DataW H × List MemPlace} (h : DataW.trod enc Try.prog w base spare held n 48 [c] = some y) :
    ∃ l : List A14, RdC w c l ∧ (∀ x ∈ l, x.m.Fits) ∧ l.length ≤ 9223372036854775807 := by
  rcases open_slice Try.underlying48 h with ⟨hcs, _⟩ | ⟨a, len, cap, m, k, D, Pl, hcs, _, hl, hm, hmm, _, hi⟩
  · injection hcs with hcs
    subst hcs
    exact ⟨[], ⟨none, 0, rfl, Nat.le_refl _, fun h => by simp at h⟩, by simp, by simp⟩
  · injection hcs with hcs
    subst hcs
    have hQ : ∀ i, i < len → ∃ q : A14, (∃ g o, a = ⟨g, o, none⟩ ∧ w.rangeAt g (o + i * 5) q.cells) ∧ q.m.Fits := by
      intro i hil
      obtain ⟨cs, hc, hT⟩ := hi i (by rw [hmm]; split <;> omega)
      obtain ⟨b, rfl, h1⟩ := open_a14 hT
      obtain ⟨_, hcl, hat⟩ := World.cells?_some hc
      refine ⟨b, ?_, h1⟩
      rw [show Try.prog.cellsOf 60 = 5 from by kernel_rfl] at hat
      obtain ⟨g, o, spot⟩ := a
      have hsp : spot = none := by
        obtain ⟨cs0, hc0, hT0⟩ := hi 0 (by rw [hmm]; split <;> omega)
        obtain ⟨b0, rfl, -⟩ := open_a14 hT0
        obtain ⟨_, -, hat0⟩ := World.cells?_some hc0
        have q0 := hat0 0 (by rw [show Try.prog.cellsOf 60 = 5 from by kernel_rfl]; decide)
        have : w.cell? (⟨g, o, spot⟩ : Addr) = b0.cells[0]? := by simpa [Addr.add] using q0
        replace this : w.cell? (⟨g, o, spot⟩ : Addr) = some (.bool b0.lv) := this
        simpa using World.cell?_spot this
      subst hsp
      refine ⟨g, o, rfl, fun j z hj => ?_⟩
      have hjl : j < 5 := by rw [← A14.cells_length b]; exact (List.getElem?_eq_some_iff.1 hj).1
      have q := hat j hjl
      rw [Go.Deep.add_add, add_plain, hj] at q
      rw [Nat.add_assoc]
      exact q
    obtain ⟨l, hll, hq⟩ := list_of len hQ
    refine ⟨l, ⟨some a, cap, by rw [hll], by rw [hll]; exact hl, fun hp => ?_⟩, fun b hb => ?_, by rw [hll]; unfold maxLen at hm; omega⟩
    · obtain ⟨⟨g, o, rfl, -⟩, -⟩ := hq 0 _ (List.getElem?_eq_getElem hp)
      refine ⟨g, o, rfl, fun i x hx => ?_⟩
      obtain ⟨⟨g', o', e, hr⟩, -⟩ := hq i x hx
      injection e with e1 e2
      subst e1 e2
      exact hr
    · obtain ⟨i, hi2⟩ := List.getElem?_of_mem hb
      exact (hq i b hi2).2
end
theorem rplays14_args {z z2 : Int} {s : Nat} {v : Value} {l : List A14} {w : World} (hs : s < 4294967296) (hv : RdC w v l) (hf : ∀ x ∈ l, x.m.Fits) : Calls Try.prog 5 #[.int .i64 z, v, .int .i64 z2, .int .u32 (s : Int)] w fun e w' => e = .returned (.bool true) ∧ Below w.heap.size w w' :=
  (rplays14_walk z z2 s v l w hs hv hf).mono fun _ _ h => ⟨h.1, h.2.below (by simp) (Nat.le_refl _)⟩
end Go.Proofs.Ytglgmhdajmncjaa
