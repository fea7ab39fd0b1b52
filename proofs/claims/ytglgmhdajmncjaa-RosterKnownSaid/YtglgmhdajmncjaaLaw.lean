/- Arguments of a statement's function, opened: numbers, rows of numbers, structs of any number of fields of one cell. Conditions: as each says. -/
import Derived.Test.YtglgmhdajmncjaaRow
import Derived.ProofKit
import Derived.OpenShut
import Derived.ChangeOld
import Derived.Lib.SmallJoins
import Derived.Deep.Slices
import Derived.Deep.Fields
import Derived.ChangeSame
set_option linter.unusedVariables false
namespace Go.Proofs.Ytglgmhdajmncjaa
open Go.Joins Go.ChangeShapes Go.WideShapes Go.RowKit Go.Deep

section
variable {H : Type} {enc : TypeId × Value → H} {P : Program} {w : World} {base : Nat} {spare : Nat → Bool} {held : Bool}
/-- A struct of fields of one cell, by value. -/
theorem open_agg {r : Reach} {b0 : Nat} {t : TypeId} {fs : Array Field} {v : Value} {d : DataW H} {p : List MemPlace} (hs : P.underlying t = some (.struct fs)) (hone : oneCellFields P fs = true) (hC : P.cellsOf t = fs.size)
    (hv : Value.okWide P w r b0 t v) (h : DataW.Trod enc P w base spare held t v d p) :
    ∃ cs : List Value, v = .agg cs.toArray ∧ cs.length = fs.size ∧ ∀ (j : Nat) (f : Field) (c : Value), fs[j]? = some f → cs[j]? = some c → ∃ (n : Nat) (y : DataW H × List MemPlace), DataW.trod enc P w base spare held n f.type [c] = some y := by
  obtain ⟨cs, rfl, hsz⟩ := okWide_struct hs hv
  obtain ⟨l⟩ := cs
  have hl : l.length = fs.size := hsz.trans hC
  refine ⟨l, rfl, hl, ?_⟩
  obtain ⟨fuel, hf⟩ := h
  obtain ⟨xs, n, _, hx, _, hlen, hg⟩ := DataW.trod_struct hs hf
  intro j f c hj hc
  obtain ⟨o, k⟩ := hone_of hone j f hj
  have h1 := hg j f hj
  rw [o, k] at h1
  have hjl : j < l.length := (List.getElem?_eq_some_iff.1 hc).1
  have e : (l.drop j).take 1 = [c] := by
    rw [List.drop_eq_getElem_cons hjl]
    have : l[j] = c := (List.getElem?_eq_some_iff.1 hc).2
    rw [this]
    rfl
  have h1 : DataW.trod enc P w base spare held n f.type ((l.drop j).take 1) = xs[j]? := h1
  rw [e] at h1
  have hjx : j < xs.length := by omega
  rw [List.getElem?_eq_getElem hjx] at h1
  exact ⟨n, _, h1⟩
theorem field_bool {n : Nat} {t : TypeId} {c : Value} {y : DataW H × List MemPlace} (ht : P.underlying t = some .bool) (h : DataW.trod enc P w base spare held n t [c] = some y) : ∃ b : Bool, c = .bool b := by
  obtain ⟨b, h, _⟩ := DataW.trod_bool ht h
  injection h with h
  exact ⟨b, h⟩
theorem nat_of_wf {k : IntKind} {m : Nat} {z : Int} (hk : k = .u8 ∧ m = 256 ∨ k = .u16 ∧ m = 65536 ∨ k = .u32 ∧ m = 4294967296 ∨ k = .u64 ∧ m = 18446744073709551616) (hw : (Lit.int k z).wf = true) : ∃ x : Nat, z = (x : Int) ∧ x < m := by
  have hz : 0 ≤ z ∧ z < m := by
    rcases hk with ⟨rfl, rfl⟩ | ⟨rfl, rfl⟩ | ⟨rfl, rfl⟩ | ⟨rfl, rfl⟩ <;> (simp [Lit.wf, IntKind.min, IntKind.max, IntKind.signed, IntKind.bits] at hw; omega)
  exact ⟨z.toNat, by rw [Int.toNat_of_nonneg hz.1], by omega⟩
theorem field_int {n : Nat} {t : TypeId} {c : Value} {y : DataW H × List MemPlace} (ht : P.underlying t = some (.int .i64)) (h : DataW.trod enc P w base spare held n t [c] = some y) : ∃ z : Int, c = .int .i64 z ∧ (Lit.int .i64 z).wf = true := by
  obtain ⟨z, h, _, hw⟩ := DataW.trod_int ht h
  injection h with h
  exact ⟨z, h, hw⟩
/-- A number without a sign. -/
theorem field_nat {k : IntKind} {m n : Nat} {t : TypeId} {c : Value} {y : DataW H × List MemPlace} (ht : P.underlying t = some (.int k)) (hk : k = .u8 ∧ m = 256 ∨ k = .u16 ∧ m = 65536 ∨ k = .u32 ∧ m = 4294967296 ∨ k = .u64 ∧ m = 18446744073709551616) (h : DataW.trod enc P w base spare held n t [c] = some y) : ∃ x : Nat, c = .int k x ∧ x < m := by
  obtain ⟨z, h, _, hw⟩ := DataW.trod_int ht h
  injection h with h
  subst h
  have hz : 0 ≤ z ∧ z < m := by
    rcases hk with ⟨rfl, rfl⟩ | ⟨rfl, rfl⟩ | ⟨rfl, rfl⟩ | ⟨rfl, rfl⟩ <;> (simp [Lit.wf, IntKind.min, IntKind.max, IntKind.signed, IntKind.bits] at hw; omega)
  exact ⟨z.toNat, by rw [Int.toNat_of_nonneg hz.1], by omega⟩
/-- A row of bytes. -/
theorem field_bytes {n : Nat} {t e : TypeId} {c : Value} {y : DataW H × List MemPlace} (ht : P.underlying t = some (.slice e)) (he : P.underlying e = some (.int .u8)) (hc : P.cellsOf e = 1) (h : DataW.trod enc P w base spare held n t [c] = some y) :
    ∃ bs : List Nat, Src w c bs ∧ (∀ x ∈ bs, x < 256) ∧ bs.length ≤ 9223372036854775807 := by
  rcases open_ints ht he hc h with ⟨hcs, _⟩ | ⟨x, l, cp, zs, hcs, _, hl, hm, hz, _, hcell, hwz⟩
  · injection hcs with hcs
    exact ⟨[], .inl ⟨hcs, rfl⟩, by simp, by simp⟩
  · injection hcs with hcs
    have hlz : l ≤ zs.length := by rw [hz]; split <;> omega
    have hb : ∀ z ∈ zs, 0 ≤ z ∧ z < 256 := fun z hz => by
      have := hwz z hz
      simp [Lit.wf, IntKind.min, IntKind.max, IntKind.signed, IntKind.bits] at this
      omega
    have hlen : ((zs.take l).map Int.toNat).length = l := by rw [List.length_map, List.length_take]; omega
    refine ⟨(zs.take l).map Int.toNat, .inr ⟨x, cp, by rw [hlen]; exact hcs, by rw [hlen]; exact hl, fun j u hu => ?_⟩, ?_, by rw [hlen]; unfold maxLen at hm; omega⟩
    · have hj : j < ((zs.take l).map Int.toNat).length := by
        have := (List.getElem?_eq_some_iff.1 hu).1
        rwa [length_cellsOf] at this
      rw [cellsOf_get _ j hj] at hu
      injection hu with hu
      subst hu
      have hjl : j < l := by omega
      have hjz : j < zs.length := by omega
      rw [hcell j hjz]
      have h0 := hb zs[j] (List.getElem_mem _)
      simp [List.getD, List.getElem?_eq_getElem hjz]
      omega
    · intro y hy
      obtain ⟨z, hz, rfl⟩ := List.mem_map.1 hy
      have := hb z (List.take_subset _ _ hz)
      omega
/-- A row of numbers. -/
theorem field_rd {k : IntKind} {n : Nat} {t e : TypeId} {c : Value} {y : DataW H × List MemPlace} (ht : P.underlying t = some (.slice e)) (he : P.underlying e = some (.int k)) (hc : P.cellsOf e = 1) (h : DataW.trod enc P w base spare held n t [c] = some y) :
    ∃ zs : List Int, Rd k w c zs ∧ (∀ z ∈ zs, (Lit.int k z).wf = true) ∧ zs.length ≤ 9223372036854775807 := by
  rcases open_ints ht he hc h with ⟨hcs, _⟩ | ⟨x, l, cp, zs, hcs, _, hl, hm, hz, _, hcell, hwz⟩
  · injection hcs with hcs
    subst hcs
    exact ⟨[], Rd.nil _ _, by simp, by simp⟩
  · injection hcs with hcs
    subst hcs
    have hlz : l ≤ zs.length := by rw [hz]; split <;> omega
    have hlen : (zs.take l).length = l := by rw [List.length_take]; omega
    refine ⟨zs.take l, ⟨some x, cp, by rw [hlen], by rw [hlen]; exact hl, fun hp => ?_⟩, fun z hz => hwz z (List.take_subset _ _ hz), by rw [hlen]; unfold maxLen at hm; omega⟩
    have h0 := hcell 0 (by omega)
    obtain ⟨g, o, spot⟩ := x
    have hspot : spot = none := by simpa [Addr.add] using World.cell?_spot h0
    subst hspot
    refine ⟨g, o, rfl, fun j hj => ?_⟩
    have hjz : j < zs.length := by omega
    have := hcell j hjz
    rw [add_plain] at this
    rw [this]
    simp [List.getD, List.getElem?_eq_getElem hjz]
end
end Go.Proofs.Ytglgmhdajmncjaa
