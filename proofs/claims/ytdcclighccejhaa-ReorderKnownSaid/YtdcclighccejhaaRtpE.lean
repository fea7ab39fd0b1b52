/- Parts of Parse: padding, the extension, contributors. Conditions: as each says. -/
import Derived.Test.YtdcclighccejhaaRtpC
import Derived.Test.YtdcclighccejhaaBase
import Derived.Deep.RegionHeld3
import Derived.Deep.DrawnRows
set_option linter.unusedVariables false
namespace Go.Proofs.Ytdcclighccejhaa
open Go.RowKit

/-- What the last byte tells of padding. -/
def lastOf (bs : List Nat) : Nat := bs.getLast?.getD 0
theorem lastOf_get (bs : List Nat) (h : 0 < bs.length) : bs[bs.length - 1]? = some (lastOf bs) := by
  unfold lastOf
  rw [List.getLast?_eq_getElem?]
  rw [List.getElem?_eq_getElem (by omega)]
  rfl

/-- How many bytes an extension takes that begins so. -/
def extEnd (bs : List Nat) : Nat := 4 + 4 * be ((bs.drop 2).take 2)
theorem two_of (bs : List Nat) (l : Nat) (h : l + 2 ≤ bs.length) : (bs.drop l).take 2 = [bs[l]'(by omega), bs[l + 1]'(by omega)] := by
  rw [List.drop_eq_getElem_cons (by omega), List.drop_eq_getElem_cons (by omega)]
  rfl
theorem four_of (bs : List Nat) (l : Nat) (h : l + 4 ≤ bs.length) : (bs.drop l).take 4 = [bs[l]'(by omega), bs[l + 1]'(by omega), bs[l + 2]'(by omega), bs[l + 3]'(by omega)] := by
  rw [List.drop_eq_getElem_cons (by omega), List.drop_eq_getElem_cons (by omega), List.drop_eq_getElem_cons (by omega), List.drop_eq_getElem_cons (by omega)]
  rfl
theorem be2_lt (bs : List Nat) (l : Nat) (hb : ∀ x ∈ bs, x < 256) (hl : l + 2 ≤ bs.length) : be ((bs.drop l).take 2) < 65536 := by
  rw [two_of bs l hl, be2]
  have := hb _ (List.getElem_mem (l := bs) (n := l) (by omega))
  have := hb _ (List.getElem_mem (l := bs) (n := l + 1) (by omega))
  omega
theorem be4_lt (bs : List Nat) (l : Nat) (hb : ∀ x ∈ bs, x < 256) (hl : l + 4 ≤ bs.length) : be ((bs.drop l).take 4) < 4294967296 := by
  rw [four_of bs l hl, be4]
  have := hb _ (List.getElem_mem (l := bs) (n := l) (by omega))
  have := hb _ (List.getElem_mem (l := bs) (n := l + 1) (by omega))
  have := hb _ (List.getElem_mem (l := bs) (n := l + 2) (by omega))
  have := hb _ (List.getElem_mem (l := bs) (n := l + 3) (by omega))
  omega
theorem cells_pure {w w1 : World} {g o : Nat} {bs : List Nat} (h : ∀ j (hj : j < bs.length), w.cell? ⟨g, o + j, none⟩ = some (.int .u8 (bs[j] : Int))) (ho : Pure w w1) : ∀ j (hj : j < bs.length), w1.cell? ⟨g, o + j, none⟩ = some (.int .u8 (bs[j] : Int)) :=
  fun j hj => (ho.cell (World.block_lt_of_cell? w _ (h j hj)) (by simp)).trans (h j hj)

/-- An extension, and what stands behind it. -/
def GotExt (wo w : World) (bs : List Nat) (e : Ending) (w' : World) : Prop :=
  ∃ ve vb, e = .returned (.tuple #[.int .u16 (be (bs.take 2) : Nat), ve, vb, .bool true]) ∧ w'.ownsRow w.heap.size 5 1 ve ((bs.drop 4).take (extEnd bs - 4)).length (cellsOf ((bs.drop 4).take (extEnd bs - 4))) ∧ Src wo vb (bs.drop (extEnd bs)) ∧ Pure w w'

theorem ext_fin {wo w wy : World} {bs : List Nat} {ve vb : Value} {n : Nat} (hE : extEnd bs = 4 + 4 * n) (hp : be ((bs.drop 0).take 2) < 65536) (hve : wy.ownsRow w.heap.size 5 1 ve (cellsOf ((bs.drop 4).take (4 * n))).length (cellsOf ((bs.drop 4).take (4 * n)))) (hvb : Src wo vb (bs.drop (4 + 4 * n))) (ho : Pure w wy) :
    GotExt wo w bs (.returned (.tuple #[.int .u16 (IntKind.u16.wrap (be (bs.take 2) : Nat)), ve, vb, .bool true])) wy := by
  rw [List.drop_zero] at hp
  have e : IntKind.u16.wrap ((be (bs.take 2) : Nat) : Int) = (be (bs.take 2) : Nat) := by
    rw [IntKind.wrap_u16]
    omega
  rw [e]
  rw [length_cellsOf] at hve
  refine ⟨ve, vb, rfl, ?_, ?_, ho⟩
  · rw [hE, Nat.add_sub_cancel_left]
    exact hve
  · rw [hE]
    exact hvb
end Go.Proofs.Ytdcclighccejhaa
