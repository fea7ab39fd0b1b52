/- Rows of bytes: a copy of one (bytes.Clone), a row that is owned, a row that is read. Conditions: as each says. -/
import Derived.Test.YtglgmhdajmncjaaRows
import Derived.Test.YtglgmhdajmncjaaMem
import Derived.Deep.QuietTactic
import Derived.BigQuiet
import Derived.BigRegion
import Derived.StillTailTactics
import Derived.Laws.CopyOwn
set_option linter.unusedVariables false
namespace Go.Proofs.Ytglgmhdajmncjaa
open Go.RowKit

/-- A pointer to the head of block b. -/
abbrev ptr (b : Nat) : Value := .pointer (some ⟨b, 0, none⟩)
theorem int_congr {k : IntKind} {a b : Int} (h : a = b) : Value.int k a = .int k b := by rw [h]
theorem Try.sizeU8 : (Try.prog.info? 5).map (·.size) = some 1 := by kernel_rfl

theorem Try.infoU8 : (Try.prog.info? 5).map (fun i => (i.zero, i.size, i.bytes)) = some (some (.int .u8 0), 1, 1) := by kernel_rfl

/-- What a call answers that hands out a row of bytes of its own. -/
def OwnRow (B : Nat) (news : List Value) (w : World) (e : Ending) (w' : World) : Prop := ∃ v, e = .returned v ∧ w'.ownsRow B 5 1 v news.length news ∧ Only (fun _ => False) w w' ∧ (∀ k, v.ownBlock = some k → w.heap.size ≤ k)

/-- Bytes in new memory, of B on. -/
theorem OwnRow.cells {B : Nat} {news : List Value} {w w' : World} {e : Ending} (h : OwnRow B news w e w') : ∃ v, e = .returned v ∧ w'.ownsRow B 5 1 v news.length news ∧ Only (fun _ => False) w w' ∧ (∀ k, v.ownBlock = some k → w.heap.size ≤ k) := h

theorem own_slice {w : World} {B n : Nat} {t : TypeId} {v : Value} {xs : List Value} (h : w.ownsRow B t 1 v n xs) : ∃ A c, v = .slice A n c ∧ n ≤ c := by
  rcases h.2 with ⟨rfl, rfl⟩ | ⟨g, cap, cur, rfl, _, _, hc, _⟩
  · exact ⟨none, 0, rfl, Nat.le_refl _⟩
  · exact ⟨_, cap, rfl, hc⟩

/-- Nothing, or bytes that are there: a slice of which a copy can be made. -/
def Src (w : World) (v : Value) (bs : List Nat) : Prop :=
  (v = .slice none 0 0 ∧ bs = []) ∨ ∃ a c, v = .slice (some a) bs.length c ∧ bs.length ≤ c ∧ ∀ j u, (cellsOf bs)[j]? = some u → w.cell? (a.add j) = some u

theorem Src.of_own {w : World} {B : Nat} {v : Value} {bs : List Nat} (h : w.ownsRow B 5 1 v bs.length (cellsOf bs)) : Src w v bs := by
  rcases h.2 with ⟨rfl, h0⟩ | ⟨g, cap, cur, rfl, hb, hg, hc, _⟩
  · exact .inl ⟨rfl, List.eq_nil_of_length_eq_zero h0⟩
  · exact .inr ⟨_, cap, rfl, hc, h.cells (g := g) rfl⟩

theorem Src.at_ {w : World} {v : Value} {bs : List Nat} (h : Src w v bs) (hp : 0 < bs.length) : ∃ g o c, v = .slice (some ⟨g, o, none⟩) bs.length c ∧ ∀ j (hj : j < bs.length), w.cell? ⟨g, o + j, none⟩ = some (.int .u8 (bs[j] : Int)) := by
  rcases h with ⟨_, rfl⟩ | ⟨a, c, rfl, _, hc⟩
  · simp at hp
  · obtain ⟨g, o, spot⟩ := a
    have h0 := hc 0 _ (cellsOf_get bs 0 hp)
    have hspot : spot = none := by simpa [Addr.add] using World.cell?_spot h0
    subst hspot
    refine ⟨g, o, c, rfl, fun j hj => ?_⟩
    have := hc j _ (cellsOf_get bs j hj)
    rwa [add_plain] at this
theorem Src.slice {w : World} {v : Value} {bs : List Nat} (h : Src w v bs) : ∃ A c, v = .slice A bs.length c := by
  rcases h with ⟨rfl, rfl⟩ | ⟨a, c, rfl, _⟩
  · exact ⟨none, 0, rfl⟩
  · exact ⟨_, c, rfl⟩
theorem Src.drewN {w : World} {v : Value} {bs : List Nat} (h : Src w v bs) (n : Nat) : Src (w.drewN n) v bs := h
theorem Src.only {w w1 : World} {v : Value} {bs : List Nat} {S : Nat → Prop} (h : Src w v bs) (ho : Only S w w1) (hn : ∀ k, v.ownBlock = some k → ¬ S k) : Src w1 v bs := by
  rcases h with h | ⟨a, c, rfl, hl, hc⟩
  · exact .inl h
  · refine .inr ⟨a, c, rfl, hl, fun j u hu => ?_⟩
    have h1 := hc j u hu
    have hb : (a.add j).block = a.block := by unfold Addr.add; split <;> rfl
    exact (ho.cell (World.block_lt_of_cell? w _ h1) (by rw [hb]; exact hn a.block rfl)).trans h1


theorem madeU8 (n : Nat) : (madeCells #[Value.int .u8 0] n).toList = cellsOf (List.replicate n 0) := by
  rw [toList_madeCells_one]
  simp [cellsOf]
def nats (xs : List Nat) : List Int := xs.map fun (x : Nat) => (x : Int)
theorem nats_length (xs : List Nat) : (nats xs).length = xs.length := by simp [nats]
end Go.Proofs.Ytglgmhdajmncjaa
