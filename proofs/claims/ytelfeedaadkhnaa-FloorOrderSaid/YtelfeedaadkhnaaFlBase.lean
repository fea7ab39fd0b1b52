/- Merged of Mem Row Cut Step Str StrW RowS MapW AppW Reg RegT RegL Pick. Conditions: as each says. -/
import Derived.WalkKit
import Derived.WalkSpells
import Derived.WalkLawsBesides
import Derived.Deep.AppendLies
import Derived.Deep.Draws
import Derived.Lib.Hide
import Derived.Test.YtelfeedaadkhnaaRows
import Derived.Deep.QuietTactic
import Derived.BigQuiet
import Derived.BigRegion
import Derived.StillTailTactics
import Derived.Laws.CopyOwn
import Derived.Laws.Tables
import Derived.Deep.MidRow
import Derived.Laws.IdiomCopy
import Derived.Deep.DeepAppendRoom
import Derived.Deep.RegionLaw
import Derived.Maps.AppendAt
import Derived.Maps.OwnSet
import Derived.Laws.AppendOwn
import Derived.Laws.OwnMore
import Derived.Orders
import Derived.KernelRfl
import Derived.Deep.RegionWith
import Derived.Control
/- Words for memory, used by the walks over package bits: what a call may change (Only), a block known whole (Is), a slice of numbers that is read (Rd), a row of bytes that is owned (Own). Conditions: none. -/
set_option linter.unusedVariables false
namespace Go.Proofs.Ytelfeedaadkhnaa
open Go.RowKit

/-- w' is w but for the blocks that S tells, and for new ones. -/
structure Only (S : Nat → Prop) (w w' : World) : Prop where
  os : w'.os = w.os
  tape : w'.tape = w.tape
  output : w'.output = w.output
  size : w.heap.size ≤ w'.heap.size
  same : ∀ k, k < w.heap.size → ¬ S k → w'.heap[k]? = w.heap[k]?

section
variable {S T : Nat → Prop} {w w1 w2 : World}
theorem Only.refl (S : Nat → Prop) (w : World) : Only S w w := ⟨rfl, rfl, rfl, Nat.le_refl _, fun _ _ _ => rfl⟩
theorem Only.trans (h : Only S w w1) (k : Only T w1 w2) (hs : ∀ i, i < w.heap.size → T i → S i) : Only S w w2 :=
  ⟨k.os.trans h.os, k.tape.trans h.tape, k.output.trans h.output, Nat.le_trans h.size k.size,
    fun i hi hn => (k.same i (Nat.lt_of_lt_of_le hi h.size) (fun ht => hn (hs i hi ht))).trans (h.same i hi hn)⟩
theorem Only.mono (h : Only S w w1) (hs : ∀ i, i < w.heap.size → S i → T i) : Only T w w1 :=
  ⟨h.os, h.tape, h.output, h.size, fun i hi hn => h.same i hi (fun x => hn (hs i hi x))⟩
theorem Only.drew (h : Only S w w1) : Only S w w1.drew := ⟨h.os, h.tape, h.output, h.size, h.same⟩
theorem Only.drewN (h : Only S w w1) (n : Nat) : Only S w (w1.drewN n) := ⟨h.os, h.tape, h.output, h.size, h.same⟩
theorem Only.alloc (h : Only S w w1) (o : Obj) : Only S w (w1.alloc o) :=
  ⟨h.os, h.tape, h.output, by have := h.size; simp; omega, fun i hi hn => (Below.heap_alloc w1 o i (Nat.lt_of_lt_of_le hi h.size)).trans (h.same i hi hn)⟩
theorem Only.set (h : Only S w w1) {p : Addr} (hp : p.block < w.heap.size → S p.block) (u : Value) : Only S w (w1.setCell p u) :=
  ⟨h.os, h.tape, h.output, by have := h.size; simpa using this, fun i hi hn => (Below.heap_setCell w1 p u i (fun e => hn (by subst e; exact hp hi))).trans (h.same i hi hn)⟩
theorem Only.grown {row : Option Nat} (h : Only S w w1) (hg : w1.grownBy w2 row) (hr : ∀ i, row = some i → i < w.heap.size → S i) : Only S w w2 :=
  ⟨hg.os.trans h.os, hg.tape.trans h.tape, hg.output.trans h.output, Nat.le_trans h.size hg.size,
    fun i hi hn => (hg.block i (Nat.lt_of_lt_of_le hi h.size) (fun e => hn (hr i e.symm hi))).trans (h.same i hi hn)⟩
theorem Only.below (h : Only S w w1) {B : Nat} (hs : ∀ i, S i → B ≤ i) (hB : B ≤ w.heap.size) : Below B w w1 :=
  ⟨h.os, h.tape, h.output, h.size, fun i hi => h.same i (by omega) (fun x => by have := hs i x; omega)⟩
theorem Only.cell (h : Only S w w1) {p : Addr} (hp : p.block < w.heap.size) (hn : ¬ S p.block) : w1.cell? p = w.cell? p := World.cell?_of_block (h.same _ hp hn)
theorem Only.frozen (h : Only S w w1) {p : Addr} (hp : p.block < w.heap.size) (hn : ¬ S p.block) : w1.frozen? p = w.frozen? p := World.frozen?_of_block (h.same _ hp hn)
end

/-- Block b is just the cells cs, of type t, none frozen. -/
def Is (w : World) (b : Nat) (t : TypeId) (cs : Array Value) : Prop := w.heap[b]? = some (.cells cs t (0, 0))

section
variable {w w1 : World} {b : Nat} {t : TypeId} {cs : Array Value}
theorem lt_of_heap {o : Obj} (h : w.heap[b]? = some o) : b < w.heap.size := (Array.getElem?_eq_some_iff.1 h).1
theorem Is.lt (h : Is w b t cs) : b < w.heap.size := lt_of_heap h
theorem Is.cell (h : Is w b t cs) (i : Nat) : w.cell? ⟨b, i, none⟩ = cs[i]? := cell_of_row w b i cs t (0, 0) h
theorem Is.free (h : Is w b t cs) (i : Nat) : w.frozen? ⟨b, i, none⟩ = false := by
  have e : w.heap[b]? = some (.cells cs t (0, 0)) := h
  simp [World.frozen?, e]
theorem Is.made (w : World) (t : TypeId) (cs : Array Value) : Is (w.alloc (.cells cs t)) w.heap.size t cs := heap_alloc_new w _
theorem Is.put (h : Is w b t cs) (i : Nat) (u : Value) : Is (w.setCell ⟨b, i, none⟩ u) b t (cs.setIfInBounds i u) := by
  have e : w.heap[b]? = some (.cells cs t (0, 0)) := h
  show (w.setCell ⟨b, i, none⟩ u).heap[b]? = _
  simp [World.setCell, Array.getElem?_modify, e]
theorem Is.alloc (h : Is w b t cs) (o : Obj) : Is (w.alloc o) b t cs := (Below.heap_alloc w o b h.lt).trans h
theorem Is.far (h : Is w b t cs) {p : Addr} (hp : b ≠ p.block) (u : Value) : Is (w.setCell p u) b t cs := (Below.heap_setCell w p u b hp).trans h
theorem Is.only {S : Nat → Prop} (h : Is w b t cs) (ho : Only S w w1) (hn : ¬ S b) : Is w1 b t cs := (ho.same b h.lt hn).trans h
theorem Is.apart {c : Nat} {u : TypeId} {ds : Array Value} (h : Is w b t cs) (k : Is w c u ds) (hne : t ≠ u) : b ≠ c := by
  intro e
  subst e
  have h' : w.heap[b]? = some (.cells cs t (0, 0)) := h
  have k' : w.heap[b]? = some (.cells ds u (0, 0)) := k
  rw [h'] at k'
  simp only [Option.some.injEq, Obj.cells.injEq] at k'
  exact hne k'.2.1
end

/-- A slice of numbers of kind k that reads as zs, wherever it lies. -/
def Rd (k : IntKind) (w : World) (v : Value) (zs : List Int) : Prop :=
  ∃ A c, v = .slice A zs.length c ∧ zs.length ≤ c ∧ (0 < zs.length → ∃ b o, A = some ⟨b, o, none⟩ ∧ ∀ j (h : j < zs.length), w.cell? ⟨b, o + j, none⟩ = some (.int k zs[j]))

theorem Rd.nil (k : IntKind) (w : World) : Rd k w (.slice none 0 0) [] := ⟨none, 0, rfl, by simp, fun h => by simp at h⟩
theorem Rd.empty (k : IntKind) (w : World) (A : Option Addr) (c : Nat) : Rd k w (.slice A 0 c) [] := ⟨A, c, rfl, by simp, fun h => by simp at h⟩
theorem Rd.keep {k : IntKind} {w w1 : World} {v : Value} {zs : List Int} (h : Rd k w v zs) (hk : ∀ b o, v.ownBlock = some b → w1.cell? ⟨b, o, none⟩ = w.cell? ⟨b, o, none⟩) : Rd k w1 v zs := by
  obtain ⟨A, c, rfl, hl, hc⟩ := h
  refine ⟨A, c, rfl, hl, fun hp => ?_⟩
  obtain ⟨b, o, rfl, hcell⟩ := hc hp
  exact ⟨b, o, rfl, fun j hj => (hk b (o + j) rfl).trans (hcell j hj)⟩
theorem Rd.lt {k : IntKind} {w : World} {v : Value} {zs : List Int} (h : Rd k w v zs) (hp : 0 < zs.length) : ∃ b, v.ownBlock = some b ∧ b < w.heap.size := by
  obtain ⟨A, c, rfl, hl, hc⟩ := h
  obtain ⟨b, o, rfl, hcell⟩ := hc hp
  exact ⟨b, rfl, World.block_lt_of_cell? w ⟨b, o + 0, none⟩ (hcell 0 hp)⟩
theorem Rd.only {k : IntKind} {w w1 : World} {v : Value} {zs : List Int} {S : Nat → Prop} (h : Rd k w v zs) (ho : Only S w w1) (hn : ∀ b, v.ownBlock = some b → ¬ S b) : Rd k w1 v zs := by
  obtain ⟨A, c, rfl, hl, hc⟩ := h
  refine ⟨A, c, rfl, hl, fun hp => ?_⟩
  obtain ⟨b, o, rfl, hcell⟩ := hc hp
  exact ⟨b, o, rfl, fun j hj => (ho.cell (p := ⟨b, o + j, none⟩) (World.block_lt_of_cell? w ⟨b, o + j, none⟩ (hcell j hj)) (hn b rfl)).trans (hcell j hj)⟩

theorem add_plain (g o j : Nat) : (⟨g, o, none⟩ : Addr).add j = ⟨g, o + j, none⟩ := by
  unfold Addr.add
  by_cases h : j = 0
  · subst h; simp
  · simp [h]
/-- Bytes as cells. -/
def cellsOf (bs : List Nat) : List Value := bs.map fun (x : Nat) => Value.int .u8 (x : Int)
theorem length_cellsOf (bs : List Nat) : (cellsOf bs).length = bs.length := by simp [cellsOf]
theorem cellsOf_get (bs : List Nat) (j : Nat) (h : j < bs.length) : (cellsOf bs)[j]? = some (.int .u8 (bs[j] : Int)) := by simp [cellsOf, h]
theorem cellsOf_one (bs : List Nat) : ∀ u ∈ cellsOf bs, u.oneCell' = true := by
  intro u hu
  simp only [cellsOf, List.mem_map] at hu
  obtain ⟨x, _, rfl⟩ := hu
  rfl
theorem cellsOf_append (a b : List Nat) : cellsOf (a ++ b) = cellsOf a ++ cellsOf b := by simp [cellsOf]
theorem cellsOf_set (bs : List Nat) (j x : Nat) : cellsOf (bs.set j x) = (cellsOf bs).set j (.int .u8 (x : Int)) := by simp [cellsOf, List.map_set]
end Go.Proofs.Ytelfeedaadkhnaa

/- Rows of bytes: a copy of one (bytes.Clone), a row that is owned, a row that is read. Conditions: as each says. -/
set_option linter.unusedVariables false
namespace Go.Proofs.Ytelfeedaadkhnaa
open Go.RowKit

/-- A pointer to the head of block b. -/
abbrev ptr (b : Nat) : Value := .pointer (some ⟨b, 0, none⟩)
theorem int_congr {k : IntKind} {a b : Int} (h : a = b) : Value.int k a = .int k b := by rw [h]
theorem Try.sizeU8 : (Try.prog.info? 5).map (·.size) = some 1 := by kernel_rfl

theorem Try.infoU8 : (Try.prog.info? 5).map (fun i => (i.zero, i.size, i.bytes)) = some (some (.int .u8 0), 1, 1) := by kernel_rfl

/-- What a call answers that hands out a row of bytes of its own. -/
def OwnRow (B : Nat) (news : List Value) (w : World) (e : Ending) (w' : World) : Prop := ∃ v, e = .returned v ∧ w'.ownsRow B 5 1 v news.length news ∧ Only (fun _ => False) w w' ∧ (∀ k, v.ownBlock = some k → w.heap.size ≤ k)

/-- Bytes in new memory, of B on. -/
theorem OwnRow.cells {B : Nat} {news : List Value} {w w' : World} {e : Ending} (h : OwnRow B news w e w') : ∃ v, e = .returned v ∧ w'.ownsRow B 5 1 v news.length news ∧ Only (fun _ => False) w w' ∧ (∀ k, v.ownBlock = some k → w.heap.size ≤ k) := h

theorem own_slice {w : World} {B n : Nat} {t : TypeId} {v : Value} {xs : List Value} (h : w.ownsRow B t 1 v n xs) : ∃ A c, v = .slice A n c ∧ n ≤ c := by
  rcases h.2 with ⟨rfl, rfl⟩ | ⟨g, cap, cur, rfl, _, _, hc, _⟩
  · exact ⟨none, 0, rfl, Nat.le_refl _⟩
  · exact ⟨_, cap, rfl, hc⟩

/-- Nothing, or bytes that are there: a slice of which a copy can be made. -/
def Src (w : World) (v : Value) (bs : List Nat) : Prop :=
  (v = .slice none 0 0 ∧ bs = []) ∨ ∃ a c, v = .slice (some a) bs.length c ∧ bs.length ≤ c ∧ ∀ j u, (cellsOf bs)[j]? = some u → w.cell? (a.add j) = some u

theorem Src.of_own {w : World} {B : Nat} {v : Value} {bs : List Nat} (h : w.ownsRow B 5 1 v bs.length (cellsOf bs)) : Src w v bs := by
  rcases h.2 with ⟨rfl, h0⟩ | ⟨g, cap, cur, rfl, hb, hg, hc, _⟩
  · exact .inl ⟨rfl, List.eq_nil_of_length_eq_zero h0⟩
  · exact .inr ⟨_, cap, rfl, hc, h.cells (g := g) rfl⟩

theorem Src.at_ {w : World} {v : Value} {bs : List Nat} (h : Src w v bs) (hp : 0 < bs.length) : ∃ g o c, v = .slice (some ⟨g, o, none⟩) bs.length c ∧ ∀ j (hj : j < bs.length), w.cell? ⟨g, o + j, none⟩ = some (.int .u8 (bs[j] : Int)) := by
  rcases h with ⟨_, rfl⟩ | ⟨a, c, rfl, _, hc⟩
  · simp at hp
  · obtain ⟨g, o, spot⟩ := a
    have h0 := hc 0 _ (cellsOf_get bs 0 hp)
    have hspot : spot = none := by simpa [Addr.add] using World.cell?_spot h0
    subst hspot
    refine ⟨g, o, c, rfl, fun j hj => ?_⟩
    have := hc j _ (cellsOf_get bs j hj)
    rwa [add_plain] at this
theorem Src.slice {w : World} {v : Value} {bs : List Nat} (h : Src w v bs) : ∃ A c, v = .slice A bs.length c := by
  rcases h with ⟨rfl, rfl⟩ | ⟨a, c, rfl, _⟩
  · exact ⟨none, 0, rfl⟩
  · exact ⟨_, c, rfl⟩
theorem Src.drewN {w : World} {v : Value} {bs : List Nat} (h : Src w v bs) (n : Nat) : Src (w.drewN n) v bs := h
theorem Src.only {w w1 : World} {v : Value} {bs : List Nat} {S : Nat → Prop} (h : Src w v bs) (ho : Only S w w1) (hn : ∀ k, v.ownBlock = some k → ¬ S k) : Src w1 v bs := by
  rcases h with h | ⟨a, c, rfl, hl, hc⟩
  · exact .inl h
  · refine .inr ⟨a, c, rfl, hl, fun j u hu => ?_⟩
    have h1 := hc j u hu
    have hb : (a.add j).block = a.block := by unfold Addr.add; split <;> rfl
    exact (ho.cell (World.block_lt_of_cell? w _ h1) (by rw [hb]; exact hn a.block rfl)).trans h1


theorem madeU8 (n : Nat) : (madeCells #[Value.int .u8 0] n).toList = cellsOf (List.replicate n 0) := by
  rw [toList_madeCells_one]
  simp [cellsOf]
def nats (xs : List Nat) : List Int := xs.map fun (x : Nat) => (x : Int)
theorem nats_length (xs : List Nat) : (nats xs).length = xs.length := by simp [nats]
end Go.Proofs.Ytelfeedaadkhnaa

/- Pieces of rows of bytes. Conditions: as each says. -/
set_option linter.unusedVariables false
namespace Go.Proofs.Ytelfeedaadkhnaa
open Go.RowKit

theorem Src.cap {w : World} {v : Value} {bs : List Nat} (h : Src w v bs) (hp : 0 < bs.length) : ∃ g o c, v = .slice (some ⟨g, o, none⟩) bs.length c ∧ bs.length ≤ c ∧ ∀ j (hj : j < bs.length), w.cell? ⟨g, o + j, none⟩ = some (.int .u8 (bs[j] : Int)) := by
  obtain ⟨g, o, c, rfl, hc⟩ := h.at_ hp
  refine ⟨g, o, c, rfl, ?_, hc⟩
  rcases h with ⟨e, _⟩ | ⟨a, c', e, h2, _⟩
  · simp at e
  · injection e with _ _ e3
    omega
theorem src_of {w : World} {g o c n : Nat} {xs : List Nat} (hn : xs.length = n) (hc : xs.length ≤ c) (h : ∀ j (hj : j < xs.length), w.cell? ⟨g, o + j, none⟩ = some (.int .u8 (xs[j] : Int))) : Src w (.slice (some ⟨g, o, none⟩) n c) xs := by
  subst hn
  refine .inr ⟨_, c, rfl, hc, fun j u hu => ?_⟩
  have hj : j < xs.length := by
    have := (List.getElem?_eq_some_iff.1 hu).1
    rwa [length_cellsOf] at this
  rw [add_plain, h j hj, ← hu, cellsOf_get xs j hj]
theorem src_nil {w : World} {A : Option Addr} {n c : Nat} {xs : List Nat} (hA : A.isSome) (hn : n = 0) (hx : xs = []) : Src w (.slice A n c) xs := by
  subst hn hx
  obtain ⟨a, rfl⟩ := Option.isSome_iff_exists.1 hA
  exact .inr ⟨a, c, rfl, by simp, fun j u hu => by simp [cellsOf] at hu⟩
/-- A piece of a row that is there. -/
theorem src_cut {w : World} {g o c d n : Nat} {bs : List Nat} (l m : Nat) (h : ∀ j (hj : j < bs.length), w.cell? ⟨g, o + j, none⟩ = some (.int .u8 (bs[j] : Int))) (hm : l + m ≤ bs.length) (hn : n = m) (hc : m ≤ d) : Src w (.slice (some ⟨g, o + l, none⟩) n d) ((bs.drop l).take m) := by
  have hlen : ((bs.drop l).take m).length = m := by rw [List.length_take, List.length_drop]; omega
  refine src_of (by omega) (by omega) fun j hj => ?_
  have hj' : l + j < bs.length := by omega
  rw [Nat.add_assoc, h (l + j) hj']
  simp

theorem Src.cells_at {w : World} {g o n c : Nat} {bs : List Nat} (h : Src w (.slice (some ⟨g, o, none⟩) n c) bs) : ∀ j (hj : j < bs.length), w.cell? ⟨g, o + j, none⟩ = some (.int .u8 (bs[j] : Int)) := by
  intro j hj
  obtain ⟨g', o', c', e, hc⟩ := h.at_ (by omega)
  injection e with e1 e2 e3
  injection e1 with e1
  injection e1 with e1 e4
  subst e1 e4
  exact hc j hj
theorem Src.later {w w1 : World} {v : Value} {bs : List Nat} {S : Nat → Prop} (h : Src w v bs) (ho : Only S w w1) (hn : ∀ k, k < w.heap.size → ¬ S k) : Src w1 v bs := by
  rcases h with h | ⟨a, c, rfl, hl, hc⟩
  · exact .inl h
  · refine .inr ⟨a, c, rfl, hl, fun j u hu => ?_⟩
    have h1 := hc j u hu
    have hlt := World.block_lt_of_cell? w _ h1
    exact (ho.cell hlt (hn _ hlt)).trans h1

theorem src_drop {w : World} {g o d n : Nat} {bs : List Nat} (l : Nat) (h : ∀ j (hj : j < bs.length), w.cell? ⟨g, o + j, none⟩ = some (.int .u8 (bs[j] : Int))) (hl : l ≤ bs.length) (hn : n = bs.length - l) (hc : bs.length - l ≤ d) : Src w (.slice (some ⟨g, o + l, none⟩) n d) (bs.drop l) := by
  have := src_cut (c := 0) l (bs.length - l) h (by omega) hn hc
  rwa [List.take_of_length_le (by simp)] at this
theorem src_take {w : World} {g o n c : Nat} {bs : List Nat} (h : Src w (.slice (some ⟨g, o, none⟩) n c) bs) (m : Nat) (hm : m ≤ bs.length) : Src w (.slice (some ⟨g, o, none⟩) m c) (bs.take m) := by
  have hc : bs.length ≤ c := by
    rcases h with ⟨e, _⟩ | ⟨a, c', e, h2, _⟩
    · simp at e
    · injection e with _ _ e3
      omega
  refine src_of (by rw [List.length_take]; omega) (by rw [List.length_take]; omega) fun j hj => ?_
  rw [List.length_take] at hj
  rw [h.cells_at j (by omega)]
  simp
theorem row_apart {w : World} {ob B n : Nat} {t u : TypeId} {cs : Array Value} {v : Value} {xs : List Value} (hI : Is w ob u cs) (hW : w.ownsRow B t 1 v n xs) (hne : t ≠ u) : v.ownBlock ≠ some ob := by
  intro hk
  rcases hW.2 with ⟨rfl, _⟩ | ⟨g, cap, cur, rfl, _, q2, _⟩
  · simp [Value.ownBlock] at hk
  · have : g = ob := by simpa [Value.ownBlock] using hk
    subst this
    exact Is.apart (t := t) (u := u) q2 hI hne rfl
theorem own_only {w w1 : World} {B n : Nat} {t : TypeId} {v : Value} {xs : List Value} (h : w.ownsRow B t 1 v n xs) {S : Nat → Prop} (ho : Only S w w1) (hs : ∀ k, v.ownBlock = some k → ¬ S k) : w1.ownsRow B t 1 v n xs := by
  refine ⟨h.1, ?_⟩
  rcases h.2 with q | ⟨g, cap, cur, r1, r2, r3, r4⟩
  · exact .inl q
  · exact .inr ⟨g, cap, cur, r1, r2, (ho.same g (lt_of_heap r3) (hs g (by rw [r1]; rfl))).trans r3, r4⟩
end Go.Proofs.Ytelfeedaadkhnaa

/- Steps of a walk by laws: whole structs, under guards too. Conditions: as each says. -/
set_option linter.unusedVariables false
namespace Go.Proofs.Ytelfeedaadkhnaa
open Go Go.RowKit

section
variable {P : Program} {ops : Array Oper} {rest : List Oper} {o : Oper} {a : Act} {w : World} {Q : Exit → Act → World → Prop}
/-- An operation whose guard says yes. -/
theorem wpList_want (hw : Region.wanted o (yielded ops a.tmps) = true) (h : ∀ K : Act → World → Prop, (∀ a w, wpList P ops Q rest a w → K a w) → o.wp P a w K Q) : wpList P ops Q (o :: rest) a w :=
  wpList_step fun K hK => by simp only [hw, if_true]; exact h K hK
/-- A whole struct is loaded. -/
theorem wpList_load_want (hw : Region.wanted o (yielded ops a.tmps) = true) (ty : TypeId) (x : Operand) (ho : o.op = .load ty x)
    (g : Nat) (hx : a.eval x = .pointer (some ⟨g, 0, none⟩)) (t : TypeId) (cs : Array Value) (d : TypeDesc) (hg : Is w g t cs)
    (hu : P.underlying ty = some d) (hd : (match d with | .struct _ | .array _ _ => true | _ => false) = true) (hi : (P.info? ty).map (·.size) = some cs.size)
    (h : wpList P ops Q rest (a.put o.dst (.agg cs)) w) : wpList P ops Q (o :: rest) a w :=
  wpList_want hw fun _ hK => wp_load_row ty x ho g hx t cs (0, 0) d hg hu hd hi (hK _ _ h)
end
theorem Only.setRow {S : Nat → Prop} {w w1 : World} (h : Only S w w1) {g : Nat} (hg : g < w.heap.size → S g) (cs : Array Value) : Only S w (w1.setRow g cs) :=
  ⟨h.os, h.tape, h.output, by have := h.size; simpa using this, fun i hi hn => (setRow_other w1 g i cs (fun e => hn (by subst e; exact hg hi))).trans (h.same i hi hn)⟩
theorem Is.setRow {w : World} {g : Nat} {t : TypeId} {old : Array Value} (h : Is w g t old) (cs : Array Value) : Is (w.setRow g cs) g t cs := setRow_heap w g old cs t (0, 0) h
/-- A whole struct is stored: what is known of the world behind it. -/
theorem wpList_store_is {P : Program} {ops : Array Oper} {rest : List Oper} {o : Oper} {a : Act} {w : World} {Q : Exit → Act → World → Prop} (hgd : o.guard = none) (ty : TypeId) (x y : Operand) (ho : o.op = .store ty x y)
    (g : Nat) (cells : Array Value) (hx : a.eval x = .pointer (some ⟨g, 0, none⟩)) (hy : a.eval y = .agg cells)
    (t : TypeId) (old : Array Value) (hg : Is w g t old) (hi : (P.info? ty).map (·.size) = some cells.size)
    (hold : old.size = cells.size) (h1 : cells.all (·.oneCell') = true)
    (h : ∀ w', Is w' g t cells → Only (· = g) w w' → wpList P ops Q rest (a.put o.dst undef) w') : wpList P ops Q (o :: rest) a w :=
  wpList_store_row hgd ty x y ho g cells hx hy t old hg hi hold h1 (h _ (hg.setRow cells) (Only.setRow (S := fun k => k = g) (Only.refl _ w) (fun _ => rfl) cells))
end Go.Proofs.Ytelfeedaadkhnaa

/- Rows of structs: a row that is owned, whose elements are lists of cells; rows of bytes side by side. Conditions: as each says. -/
set_option linter.unusedVariables false
namespace Go.Proofs.Ytelfeedaadkhnaa
open Go Go.RowKit

theorem flat_length {sz : Nat} : ∀ (xss : List (List Value)), (∀ xs ∈ xss, xs.length = sz) → xss.flatten.length = xss.length * sz
  | [], _ => by simp
  | xs :: xss, h => by
    have e := h xs (by simp)
    have ih := flat_length xss (fun y hy => h y (by simp [hy]))
    rw [List.flatten_cons, List.length_append, ih, e, List.length_cons, Nat.succ_mul]
    omega
theorem flat_get {sz : Nat} : ∀ (xss : List (List Value)), (∀ xs ∈ xss, xs.length = sz) → ∀ (i j : Nat) (xs : List Value), xss[i]? = some xs → j < sz → xss.flatten[i * sz + j]? = xs[j]?
  | [], _, i, j, xs, hi, _ => by simp at hi
  | ys :: xss, h, 0, j, xs, hi, hj => by
    have e := h ys (by simp)
    simp at hi
    subst hi
    rw [List.flatten_cons, List.getElem?_append_left (by omega), Nat.zero_mul, Nat.zero_add]
  | ys :: xss, h, i + 1, j, xs, hi, hj => by
    have e := h ys (by simp)
    have ih := flat_get xss (fun y hy => h y (by simp [hy])) i j xs (by simpa using hi) hj
    rw [List.flatten_cons, List.getElem?_append_right (by rw [e, Nat.succ_mul]; omega), e, ← ih]
    congr 1
    rw [Nat.succ_mul]
    omega

/-- A row of structs that is owned. -/
def OwnS (w : World) (B : Nat) (T : TypeId) (sz : Nat) (v : Value) (xss : List (List Value)) : Prop :=
  w.ownsRow B T sz v xss.length xss.flatten ∧ ∀ xs ∈ xss, xs.length = sz
section
variable {w w1 : World} {B : Nat} {T : TypeId} {sz : Nat} {v : Value} {xss : List (List Value)}
theorem OwnS.nil (w : World) (B : Nat) (T : TypeId) (sz : Nat) : OwnS w B T sz (.slice none 0 0) [] := ⟨World.ownsRow_nil w B T sz, by simp⟩
theorem owned_only {n : Nat} {xs : List Value} (h : w.ownsRow B T sz v n xs) {S : Nat → Prop} (ho : Only S w w1) (hs : ∀ k, v.ownBlock = some k → ¬ S k) : w1.ownsRow B T sz v n xs := by
  refine ⟨h.1, ?_⟩
  rcases h.2 with q | ⟨g, cap, cur, r1, r2, r3, r4⟩
  · exact .inl q
  · exact .inr ⟨g, cap, cur, r1, r2, (ho.same g (lt_of_heap r3) (hs g (by rw [r1]; rfl))).trans r3, r4⟩
theorem owned_low {n : Nat} {xs : List Value} (h : w.ownsRow B T sz v n xs) {B' : Nat} (hB : B' ≤ B) : w.ownsRow B' T sz v n xs := by
  refine ⟨h.1, ?_⟩
  rcases h.2 with q | ⟨g, cap, cur, r1, r2, r3⟩
  · exact .inl q
  · exact .inr ⟨g, cap, cur, r1, Nat.le_trans hB r2, r3⟩
theorem owned_apart {n m sz' B' : Nat} {xs ys : List Value} {U : TypeId} {u : Value} (h : w.ownsRow B T sz v n xs) (k : w.ownsRow B' U sz' u m ys) (hne : T ≠ U) : ∀ b, v.ownBlock = some b → u.ownBlock ≠ some b := by
  intro b hb hu
  rcases h.2 with ⟨rfl, _⟩ | ⟨g, cap, cur, rfl, _, q, _⟩
  · simp [Value.ownBlock] at hb
  · rcases k.2 with ⟨rfl, _⟩ | ⟨g', cap', cur', rfl, _, q', _⟩
    · simp [Value.ownBlock] at hu
    · have e1 : g = b := by simpa [Value.ownBlock] using hb
      have e2 : g' = b := by simpa [Value.ownBlock] using hu
      subst e1 e2
      exact Is.apart (t := T) (u := U) q q' hne rfl
theorem owned_off {n : Nat} {xs : List Value} {U : TypeId} {ob : Nat} {cs : Array Value} (h : w.ownsRow B T sz v n xs) (hI : Is w ob U cs) (hne : T ≠ U) : v.ownBlock ≠ some ob := by
  intro hb
  rcases h.2 with ⟨rfl, _⟩ | ⟨g, cap, cur, rfl, _, q, _⟩
  · simp [Value.ownBlock] at hb
  · have e1 : g = ob := by simpa [Value.ownBlock] using hb
    subst e1
    exact Is.apart (t := T) (u := U) q hI hne rfl
theorem OwnS.only (h : OwnS w B T sz v xss) {S : Nat → Prop} (ho : Only S w w1) (hs : ∀ k, v.ownBlock = some k → ¬ S k) : OwnS w1 B T sz v xss := ⟨owned_only h.1 ho hs, h.2⟩
theorem OwnS.slice (h : OwnS w B T sz v xss) : ∃ A c, v = .slice A xss.length c ∧ xss.length ≤ c := by
  rcases h.1.2 with ⟨rfl, h0⟩ | ⟨g, cap, cur, rfl, _, _, hc, _⟩
  · exact ⟨none, 0, by rw [h0], by omega⟩
  · exact ⟨_, cap, rfl, hc⟩
theorem OwnS.lt (h : OwnS w B T sz v xss) : ∀ k, v.ownBlock = some k → B ≤ k ∧ k < w.heap.size := h.1.lt
/-- An element's cells, where they lie. -/
theorem OwnS.at_ (h : OwnS w B T sz v xss) (hp : 0 < xss.length) : ∃ g c, v = .slice (some ⟨g, 0, none⟩) xss.length c ∧ xss.length ≤ c ∧ g < w.heap.size ∧ B ≤ g ∧
    ∀ i j xs, xss[i]? = some xs → j < sz → w.cell? ⟨g, i * sz + j, none⟩ = xs[j]? := by
  rcases h.1.2 with ⟨_, h0⟩ | ⟨g, cap, cur, rfl, hb, hg, hc, _, hcs, ht⟩
  · omega
  · refine ⟨g, cap, rfl, hc, lt_of_heap hg, hb, fun i j xs hi hj => ?_⟩
    have hf := flat_get xss h.2 i j xs hi hj
    have hx := h.2 xs (List.mem_of_getElem? hi)
    have hil : i < xss.length := (List.getElem?_eq_some_iff.1 hi).1
    have hlt : i * sz + j < xss.length * sz := by
      have : (i + 1) * sz ≤ xss.length * sz := Nat.mul_le_mul_right _ hil
      rw [Nat.succ_mul] at this
      omega
    rw [cell_of_row w g (i * sz + j) cur T (0, 0) hg, ← hf, ← ht, List.getElem?_take_of_lt hlt]
    simp
end

/-- Of a struct's type what append wants. -/
structure Sty (t T : TypeId) (sz bytes : Nat) : Prop where
  und : Try.prog.underlying t = some (.slice T)
  info : ∃ i z, Try.prog.info? T = some i ∧ i.zero = some z ∧ i.size = sz ∧ i.bytes = bytes ∧ z.cells.size = sz
  pos : 0 < sz
theorem append_run {o : Oper} {a : Act} {K : Act → World → Prop} {Q : Exit → Act → World → Prop} (w : World) (s x : Operand) {t T : TypeId} {sz bytes : Nat} (st : Sty t T sz bytes)
    (ho : o.op = .call { callee := .builtin .append, args := #[s, x], argTypes := #[t, t] })
    (B : Nat) (v : Value) (xss : List (List Value)) (hs : a.eval s = v) (hown : OwnS w B T sz v xss) (g : Nat) (xs : List Value) (hx : a.eval x = .slice (some ⟨g, 0, none⟩) 1 1) (hsrc : Is w g T xs.toArray)
    (hxl : xs.length = sz) (h1 : ∀ u ∈ xs, u.oneCell' = true)
    (hl : xss.length ≤ 100000) (hby : bytes ≤ 100000) (hB : B ≤ w.heap.size)
    (h : ∀ v' w', OwnS w' B T sz v' (xss ++ [xs]) → Only (fun k => v.ownBlock = some k) w w' → K (a.put o.dst v') w') :
    Oper.wp Try.prog o a w K Q := by
  obtain ⟨i0, z, hi, hz0, hz1, hz2, hz3⟩ := st.info
  have hb1 : (xss.length + 1) * bytes ≤ 100001 * 100000 := Nat.mul_le_mul (by omega) hby
  refine wp_append_own w s x t ho B T i0 z sz bytes st.und hi hz0 hz1 hz2 hz3 st.pos v xss.length xss.flatten hs hown.1 ⟨g, 0, none⟩ 1 1 xs hx (by rw [hxl, Nat.one_mul]) (fun j u hu => ?_) h1 (by unfold maxLen; omega) (by omega) hB (fun v' w' h1 h2 _ => h v' w' ⟨?_, ?_⟩ ?_)
  · rw [add_plain, hsrc.cell]
    simpa using hu
  · rw [List.length_append, List.flatten_append]
    simpa using h1
  · intro ys hy
    rcases List.mem_append.1 hy with hy | hy
    · exact hown.2 ys hy
    · rw [List.mem_singleton.1 hy]; exact hxl
  · exact (Only.refl _ w).grown h2 (fun i hi _ => hi)
theorem step_append_struct {ops : Array Oper} {o : Oper} {a : Act} {K : Act → World → Prop} {Q : Exit → Act → World → Prop} {E : Prop} (w : World) (hgd : o.guard = none) (s x : Operand) {t T : TypeId} {sz bytes : Nat} (st : Sty t T sz bytes)
    (ho : o.op = .call { callee := .builtin .append, args := #[s, x], argTypes := #[t, t] })
    (B : Nat) (v : Value) (xss : List (List Value)) (hs : a.eval s = v) (hown : OwnS w B T sz v xss) (g : Nat) (xs : List Value) (hx : a.eval x = .slice (some ⟨g, 0, none⟩) 1 1) (hsrc : Is w g T xs.toArray)
    (hxl : xs.length = sz) (h1 : ∀ u ∈ xs, u.oneCell' = true)
    (hl : xss.length ≤ 100000) (hby : bytes ≤ 100000) (hB : B ≤ w.heap.size)
    (h : ∀ v' w', OwnS w' B T sz v' (xss ++ [xs]) → Only (fun k => v.ownBlock = some k) w w' → K (a.put o.dst v') w') :
    if Region.wanted o (yielded ops a.tmps) = true then Oper.wp Try.prog o a w K Q else E := by
  have hw : Region.wanted o (yielded ops a.tmps) = true := by simp [Region.wanted, hgd]
  rw [if_pos hw]
  exact append_run w s x st ho B v xss hs hown g xs hx hsrc hxl h1 hl hby hB h
theorem wpList_append_struct {ops : Array Oper} {rest : List Oper} {o : Oper} {a : Act} {Q : Exit → Act → World → Prop} (w : World) (hgd : o.guard = none) (s x : Operand) {t T : TypeId} {sz bytes : Nat} (st : Sty t T sz bytes)
    (ho : o.op = .call { callee := .builtin .append, args := #[s, x], argTypes := #[t, t] })
    (B : Nat) (v : Value) (xss : List (List Value)) (hs : a.eval s = v) (hown : OwnS w B T sz v xss) (g : Nat) (xs : List Value) (hx : a.eval x = .slice (some ⟨g, 0, none⟩) 1 1) (hsrc : Is w g T xs.toArray)
    (hxl : xs.length = sz) (h1 : ∀ u ∈ xs, u.oneCell' = true)
    (hl : xss.length ≤ 100000) (hby : bytes ≤ 100000) (hB : B ≤ w.heap.size)
    (h : ∀ v' w', OwnS w' B T sz v' (xss ++ [xs]) → Only (fun k => v.ownBlock = some k) w w' → wpList Try.prog ops Q rest (a.put o.dst v') w') :
    wpList Try.prog ops Q (o :: rest) a w :=
  wpList_plain hgd fun _ hK => append_run w s x st ho B v xss hs hown g xs hx hsrc hxl h1 hl hby hB fun v' w' h1 h2 => hK _ _ (h v' w' h1 h2)

/-- Rows of bytes side by side, each owned, no two in one place. -/
structure Bods (w : World) (B : Nat) (vs : List Value) (bss : List (List Nat)) : Prop where
  len : vs.length = bss.length
  own : ∀ (i : Nat) (v : Value) (bs : List Nat), vs[i]? = some v → bss[i]? = some bs → w.ownsRow B 5 1 v bs.length (cellsOf bs)
  apart : ∀ (i j : Nat) (a b : Value), i < j → vs[i]? = some a → vs[j]? = some b → ∀ k, a.ownBlock = some k → b.ownBlock ≠ some k
section
variable {w w1 : World} {B : Nat} {vs : List Value} {bss : List (List Nat)}
theorem Bods.nil (w : World) (B : Nat) : Bods w B [] [] := ⟨rfl, fun i v bs h => by simp at h, fun i j a b _ h => by simp at h⟩
theorem Bods.only (h : Bods w B vs bss) {S : Nat → Prop} (ho : Only S w w1) (hs : ∀ u ∈ vs, ∀ k, u.ownBlock = some k → ¬ S k) : Bods w1 B vs bss :=
  ⟨h.len, fun i v bs hv hb => own_only (h.own i v bs hv hb) ho (hs v (List.mem_of_getElem? hv)), h.apart⟩
theorem Bods.pure (h : Bods w B vs bss) (ho : Only (fun _ => False) w w1) : Bods w1 B vs bss := h.only ho (by simp)
/-- What a row of another type changes. -/
theorem Bods.far (h : Bods w B vs bss) {B' sz n : Nat} {T : TypeId} {v : Value} {xs : List Value} (hr : w.ownsRow B' T sz v n xs) (hne : T ≠ 5) (ho : Only (fun k => v.ownBlock = some k) w w1) : Bods w1 B vs bss :=
  h.only ho (fun u hu k hk hv => by
    obtain ⟨i, hi⟩ := List.getElem?_of_mem hu
    have hl := h.len
    have hib : i < bss.length := by rw [← hl]; exact (List.getElem?_eq_some_iff.1 hi).1
    exact owned_apart hr (h.own i u _ hi (List.getElem?_eq_getElem hib)) hne k hv hk)
theorem Bods.snoc (h : Bods w B vs bss) {u : Value} {bs : List Nat} (hB : B ≤ w.heap.size) (ho : Only (fun _ => False) w w1) (hu : w1.ownsRow w.heap.size 5 1 u bs.length (cellsOf bs)) : Bods w1 B (vs ++ [u]) (bss ++ [bs]) := by
  refine ⟨by simp [h.len], fun i v bs' hv hb => ?_, fun i j a b hij ha hb k hk hkb => ?_⟩
  · by_cases hi : i < vs.length
    · rw [List.getElem?_append_left hi] at hv
      rw [List.getElem?_append_left (by rw [← h.len]; exact hi)] at hb
      exact own_only (h.own i v bs' hv hb) ho (by simp)
    · rw [List.getElem?_append_right (by omega)] at hv
      rw [List.getElem?_append_right (by rw [← h.len]; omega)] at hb
      rw [← h.len] at hb
      have h0 : i - vs.length = 0 := by
        rcases Nat.eq_zero_or_pos (i - vs.length) with e | e
        · exact e
        · rw [List.getElem?_eq_none (by simp; omega)] at hv; cases hv
      rw [h0] at hv hb
      simp at hv hb
      subst hv hb
      exact owned_low hu hB
  · by_cases hj : j < vs.length
    · rw [List.getElem?_append_left hj] at hb
      rw [List.getElem?_append_left (by omega)] at ha
      exact h.apart i j a b hij ha hb k hk hkb
    · rw [List.getElem?_append_right (by omega)] at hb
      have h0 : j - vs.length = 0 := by
        rcases Nat.eq_zero_or_pos (j - vs.length) with e | e
        · exact e
        · rw [List.getElem?_eq_none (by simp; omega)] at hb; cases hb
      rw [h0] at hb
      simp at hb
      subst hb
      have hi : i < vs.length := by omega
      rw [List.getElem?_append_left hi] at ha
      have h1 := ((h.own i a _ ha (List.getElem?_eq_getElem (by rw [← h.len]; exact hi))).lt k hk).2
      have h2 := (hu.lt k hkb).1
      omega
theorem Bods.src (h : Bods w B vs bss) {i : Nat} {v : Value} {bs : List Nat} (hv : vs[i]? = some v) (hb : bss[i]? = some bs) : Src w v bs := Src.of_own (h.own i v bs hv hb)
end
end Go.Proofs.Ytelfeedaadkhnaa

/- Rows of structs that are owned: an element is written anew, or read whole; many cells at once. Conditions: as each says. -/
set_option linter.unusedVariables false
namespace Go.Proofs.Ytelfeedaadkhnaa
open Go Go.RowKit

/-- Cells that are written from a place on. -/
def setA (cs : Array Value) : Nat → List Value → Array Value
  | _, [] => cs
  | o, v :: r => setA (cs.setIfInBounds o v) (o + 1) r
theorem setA_size : ∀ (vs : List Value) (cs : Array Value) (o : Nat), (setA cs o vs).size = cs.size
  | [], _, _ => rfl
  | v :: r, cs, o => by rw [setA, setA_size r]; simp
theorem setA_get : ∀ (vs : List Value) (cs : Array Value) (o k : Nat), o + vs.length ≤ cs.size → (setA cs o vs)[k]? = if o ≤ k ∧ k < o + vs.length then vs[k - o]? else cs[k]?
  | [], cs, o, k, _ => by
    rw [setA, if_neg (by intro h; have := h.1; have := h.2; simp at *; omega)]
  | v :: r, cs, o, k, h => by
    rw [List.length_cons] at h
    rw [setA, setA_get r _ _ k (by simp; omega), List.length_cons]
    by_cases h1 : o + 1 ≤ k ∧ k < o + 1 + r.length
    · rw [if_pos h1, if_pos (by omega), show k - o = (k - (o + 1)) + 1 by omega, List.getElem?_cons_succ]
    · rw [if_neg h1]
      by_cases h2 : k = o
      · subst h2
        rw [if_pos (by omega), Nat.sub_self, List.getElem?_cons_zero, Array.getElem?_setIfInBounds_self_of_lt (by omega)]
      · rw [if_neg (by omega), Array.getElem?_setIfInBounds_ne (fun e => h2 e.symm)]
theorem Is.many {t : TypeId} : ∀ (vs : List Value) (o : Nat) (w : World) (b : Nat) (cs : Array Value), Is w b t cs → Is (w.setCells b o vs) b t (setA cs o vs)
  | [], _, _, _, _, h => h
  | v :: r, o, w, b, cs, h => by
    rw [World.setCells, setA]
    exact Is.many r (o + 1) _ b _ (h.put o v)
theorem Only.many {S : Nat → Prop} {w : World} {b : Nat} : ∀ (vs : List Value) (o : Nat) (w1 : World), Only S w w1 → (b < w.heap.size → S b) → Only S w (w1.setCells b o vs)
  | [], _, _, h, _ => h
  | v :: r, o, w1, h, hb => by
    rw [World.setCells]
    exact Only.many r (o + 1) _ (h.set (p := ⟨b, o, none⟩) hb v) hb
theorem flat_set {sz : Nat} : ∀ (xss : List (List Value)) (i : Nat) (cs : List Value), (∀ xs ∈ xss, xs.length = sz) → cs.length = sz → i < xss.length → ∀ k, (xss.set i cs).flatten[k]? = if i * sz ≤ k ∧ k < i * sz + sz then cs[k - i * sz]? else xss.flatten[k]?
  | [], i, cs, _, _, hi, _ => by simp at hi
  | xs :: xss, 0, cs, h, hc, _, k => by
    have e := h xs (by simp)
    rw [List.set_cons_zero, List.flatten_cons, List.flatten_cons, Nat.zero_mul, Nat.zero_add]
    by_cases hk : k < sz
    · rw [if_pos ⟨Nat.zero_le _, hk⟩, List.getElem?_append_left (by omega), Nat.sub_zero]
    · rw [if_neg (by omega), List.getElem?_append_right (by omega), List.getElem?_append_right (by omega), hc, e]
  | xs :: xss, i + 1, cs, h, hc, hi, k => by
    have e := h xs (by simp)
    have hi' : i < xss.length := by simpa using hi
    have ih := flat_set xss i cs (fun y hy => h y (by simp [hy])) hc hi' (k - sz)
    rw [List.set_cons_succ, List.flatten_cons, List.flatten_cons]
    rw [Nat.succ_mul]
    by_cases hk : k < sz
    · rw [if_neg (by omega), List.getElem?_append_left (by omega), List.getElem?_append_left (by omega)]
    · rw [List.getElem?_append_right (by omega), List.getElem?_append_right (by omega), e, ih]
      by_cases hr : i * sz ≤ k - sz ∧ k - sz < i * sz + sz
      · rw [if_pos hr, if_pos (by omega)]
        congr 1
        omega
      · rw [if_neg hr, if_neg (by omega)]
section
variable {w w1 : World} {B : Nat} {T : TypeId} {sz : Nat} {v : Value} {xss : List (List Value)}
/-- Where a row lies. -/
theorem OwnS.place (h : OwnS w B T sz v xss) (hp : 0 < xss.length) : ∃ g c, v = .slice (some ⟨g, 0, none⟩) xss.length c ∧ B ≤ g ∧ xss.length ≤ c ∧ c ≤ maxLen ∧ ∃ cur, Is w g T cur ∧ cur.size = c * sz ∧ cur.toList.take (xss.length * sz) = xss.flatten := by
  rcases h.1.2 with ⟨_, h0⟩ | ⟨g, cap, cur, rfl, hb, hg, hc, hm, hcs, ht⟩
  · omega
  · exact ⟨g, cap, rfl, hb, hc, hm, cur, hg, hcs, ht⟩
theorem mul_in {i n sz : Nat} (h : i < n) : i * sz + sz ≤ n * sz := by
  have : (i + 1) * sz ≤ n * sz := Nat.mul_le_mul_right _ h
  rwa [Nat.succ_mul] at this
/-- An element is written anew. -/
theorem OwnS.write {g i : Nat} {cs : List Value} (h : OwnS w B T sz v xss) (hg : v.ownBlock = some g) (hi : i < xss.length) (hc : cs.length = sz) : OwnS (w.setCells g (i * sz) cs) B T sz v (xss.set i cs) ∧ Only (fun k => k = g) w (w.setCells g (i * sz) cs) := by
  obtain ⟨g', c, rfl, hb, hl, hm, cur, hI, hs, ht⟩ := h.place (by omega)
  obtain rfl : g' = g := by simpa [Value.ownBlock] using hg
  have hin := mul_in (sz := sz) hi
  have hcap : xss.length * sz ≤ c * sz := Nat.mul_le_mul_right _ hl
  have hfl := flat_length xss h.2
  refine ⟨⟨⟨?_, .inr ⟨g', c, setA cur (i * sz) cs, by rw [List.length_set], hb, Is.many cs _ _ _ _ hI, by rw [List.length_set]; exact hl, hm, by rw [setA_size]; exact hs, ?_⟩⟩, ?_⟩, Only.many cs _ _ (Only.refl _ w) (fun _ => rfl)⟩
  · rw [flat_length _ (fun y hy => ?_)]
    rcases List.mem_or_eq_of_mem_set hy with hy | rfl
    · exact h.2 y hy
    · exact hc
  · rw [List.length_set]
    apply List.ext_getElem?
    intro k
    rw [List.getElem?_take, flat_set xss i cs h.2 hc hi k, Array.getElem?_toList, setA_get cs cur _ k (by omega), hc]
    by_cases hk : k < xss.length * sz
    · rw [if_pos hk, ← ht, List.getElem?_take, if_pos hk]
      simp
    · rw [if_neg hk, if_neg (by omega), List.getElem?_eq_none (by omega)]
  · intro y hy
    rcases List.mem_or_eq_of_mem_set hy with hy | rfl
    · exact h.2 y hy
    · exact hc
/-- It may be written. -/
theorem OwnS.there {g i : Nat} (h : OwnS w B T sz v xss) (hg : v.ownBlock = some g) (hi : i < xss.length) : w.there g (i * sz) sz := by
  obtain ⟨g', c, rfl, hb, hl, hm, cur, hI, hs, ht⟩ := h.place (by omega)
  obtain rfl : g' = g := by simpa [Value.ownBlock] using hg
  have hin := mul_in (sz := sz) hi
  have hcap : xss.length * sz ≤ c * sz := Nat.mul_le_mul_right _ hl
  intro j hj
  refine ⟨?_, hI.free _⟩
  rw [hI.cell, Array.getElem?_eq_getElem (by omega)]
  rfl
/-- It is read whole. -/
theorem OwnS.range {g i : Nat} {xs : List Value} (h : OwnS w B T sz v xss) (hg : v.ownBlock = some g) (hi : xss[i]? = some xs) : w.rangeAt g (i * sz) xs := by
  have hil : i < xss.length := (List.getElem?_eq_some_iff.1 hi).1
  have hx := h.2 xs (List.mem_of_getElem? hi)
  obtain ⟨g', c', e, -, -, -, hc⟩ := h.at_ (by omega)
  have e2 := congrArg Value.ownBlock e
  rw [hg] at e2
  simp [Value.ownBlock] at e2
  subst e2
  intro j u hj
  have hjl : j < xs.length := (List.getElem?_eq_some_iff.1 hj).1
  rw [hc i j xs hi (by omega)]
  exact hj
end
end Go.Proofs.Ytelfeedaadkhnaa

/- Rows of structs: copy and clear of whole elements; the first elements of a row; what an append over them leaves. Conditions: as each says. -/
set_option linter.unusedVariables false
set_option linter.unusedSimpArgs false
namespace Go.Proofs.Ytelfeedaadkhnaa
open Go Go.RowKit

section
variable {P : Program}
theorem run_copy_wide (w : World) (dT sT ty elem : TypeId) (b o dLen dCap : Nat) (a : Addr) (sLen sCap sz k : Nat) (cs : List Value)
    (hu : P.underlying dT = some (.slice elem)) (hs : (P.info? elem).map (·.size) = some sz) (hk : Nat.min sLen dLen = k) (hn : cs.length = k * sz)
    (hsrc : ∀ j v, cs[j]? = some v → w.cell? (a.add j) = some v) (hc : ∀ j, j < cs.length → (w.cell? ⟨b, o + j, none⟩).isSome = true) (hf : ∀ j, j < cs.length → w.frozen? ⟨b, o + j, none⟩ = false) (h1 : ∀ v ∈ cs, v.oneCell' = true) :
    (Builtin.copy_ #[dT, sT] ty #[.slice (some ⟨b, o, none⟩) dLen dCap, .slice (some a) sLen sCap]).run P w = .ok (goInt k) (w.setCells b o cs) := by
  have hl := run_loadCells_list (P := P) w a cs hsrc
  have hst := run_storeCells_cells (P := P) b o cs 0 w (by simpa using hc) (by simpa using hf) h1
  cases hq : P.info? elem with
  | none => simp [hq] at hs
  | some i =>
    have hi : i.size = sz := by simpa [hq] using hs
    simp [Builtin.copy_, run_underlying hu, Builtin.lenOf, Builtin.firstCells, sizeOf, typeInfo, hq, hi, hk, ← hn, hl, hst]
theorem run_clear_wide (w : World) (t e ty : TypeId) (z : Value) (ht : P.underlying t = some (.slice e)) (hv : ∀ w, (zeroValue e).run P w = .ok z w) (b o n c : Nat) (hn : 0 < n)
    (hc : ∀ j, j < (Builtin.zeroCells z.cells n).toList.length → (w.cell? ⟨b, o + j, none⟩).isSome = true) (hf : ∀ j, j < (Builtin.zeroCells z.cells n).toList.length → w.frozen? ⟨b, o + j, none⟩ = false) (h1 : ∀ v ∈ (Builtin.zeroCells z.cells n).toList, v.oneCell' = true) :
    (Builtin.clear_ #[t] ty #[.slice (some ⟨b, o, none⟩) n c]).run P w = .ok (.tuple #[]) (w.setCells b o (Builtin.zeroCells z.cells n).toList) := by
  have hst := run_storeCells_cells (P := P) b o (Builtin.zeroCells z.cells n).toList 0 w (by simpa using hc) (by simpa using hf) h1
  obtain ⟨m, rfl⟩ : ∃ m, n = m + 1 := ⟨n - 1, by omega⟩
  simp [Builtin.clear_, run_underlying ht, hv, hst]
theorem wpList_copy_of {w : World} {ops : Array Oper} {rest : List Oper} {o : Oper} {a : Act} {Q : Exit → Act → World → Prop} (hgd : o.guard = none) (d s : Operand) (t t' : TypeId)
    (ho : o.op = .call { callee := .builtin .copy, args := #[d, s], argTypes := #[t, t'] }) (v u : Value) (hd : a.eval d = v) (hs : a.eval s = u) {v' : Value} {w' : World}
    (hr : ∀ ty, (Builtin.copy_ #[t, t'] ty #[v, u]).run P w = .ok v' w') (h : wpList P ops Q rest (a.put o.dst v') w') : wpList P ops Q (o :: rest) a w :=
  wpList_plain hgd fun _ hK => by
    unfold Oper.wp execOp
    simp only [ho, resolve, invoke, builtin, Sem.run_bind, Sem.run_pure, Result.andThen_ok, List.map_toArray, List.map_cons, List.map_nil, hd, hs, hr]
    exact hK _ _ h
theorem wpList_clear_of {w : World} {ops : Array Oper} {rest : List Oper} {o : Oper} {a : Act} {Q : Exit → Act → World → Prop} (hgd : o.guard = none) (s : Operand) (t : TypeId)
    (ho : o.op = .call { callee := .builtin .clear, args := #[s], argTypes := #[t] }) (u : Value) (hs : a.eval s = u) {v' : Value} {w' : World}
    (hr : ∀ ty, (Builtin.clear_ #[t] ty #[u]).run P w = .ok v' w') (h : wpList P ops Q rest (a.put o.dst v') w') : wpList P ops Q (o :: rest) a w :=
  wpList_plain hgd fun _ hK => by
    unfold Oper.wp execOp
    simp only [ho, resolve, invoke, builtin, Sem.run_bind, Sem.run_pure, Result.andThen_ok, List.map_toArray, List.map_cons, List.map_nil, hs, hr]
    exact hK _ _ h
end
theorem zeroCells_size (z : Array Value) : ∀ n, (Builtin.zeroCells z n).size = n * z.size := by
  intro n
  simp [Builtin.zeroCells]
/-- The first elements of a row, as a row of its own in the same block. -/
theorem OwnS.pre {w : World} {B : Nat} {T : TypeId} {sz g n c k : Nat} {xss : List (List Value)} (h : OwnS w B T sz (.slice (some ⟨g, 0, none⟩) n c) xss) (hn : xss.length = n) (hk : k ≤ n) : OwnS w B T sz (.slice (some ⟨g, 0, none⟩) k c) (xss.take k) := by
  rcases h.1.2 with ⟨e, h0⟩ | ⟨g', cap, cur, e, hb, hg, hc, hm, hcs, ht⟩
  · cases e
  · injection e with e1 e2 e3
    injection e1 with e1
    injection e1 with e1
    subst e1 e3
    have hfl := flat_length xss h.2
    have htl : (xss.take k).length = k := by rw [List.length_take]; omega
    have h2 : ∀ xs ∈ xss.take k, xs.length = sz := fun xs hx => h.2 xs (List.mem_of_mem_take hx)
    have hf2 := flat_length (xss.take k) h2
    have hmul : k * sz ≤ xss.length * sz := Nat.mul_le_mul_right _ (by omega)
    have hpre : (xss.take k).flatten = xss.flatten.take (k * sz) := by
      have e0 : xss.flatten = (xss.take k).flatten ++ (xss.drop k).flatten := by rw [← List.flatten_append, List.take_append_drop]
      have hf3 : (xss.take k).flatten.length = k * sz := by rw [hf2, htl]
      rw [e0, List.take_append_of_le_length (by rw [hf3]; exact Nat.le_refl _)]
      exact (List.take_of_length_le (by rw [hf3]; exact Nat.le_refl _)).symm
    refine ⟨⟨hf2, .inr ⟨g, c, cur, by rw [htl], hb, hg, by omega, hm, hcs, ?_⟩⟩, h2⟩
    rw [htl, hpre, ← ht, List.take_take, Nat.min_eq_left hmul]
/-- Cells of a row, from an element on. -/
theorem OwnS.from_ {w : World} {B : Nat} {T : TypeId} {sz g n c k : Nat} {xss : List (List Value)} (h : OwnS w B T sz (.slice (some ⟨g, 0, none⟩) n c) xss) (j : Nat) (u : Value) (hj : ((xss.drop k).flatten)[j]? = some u) : w.cell? ⟨g, k * sz + j, none⟩ = some u := by
  have hkl : k < xss.length := by
    rcases Nat.lt_or_ge k xss.length with h | h
    · exact h
    · rw [List.drop_eq_nil_of_le h] at hj
      simp at hj
  rcases h.1.2 with ⟨e, h0⟩ | ⟨g', cap, cur, e, hb, hg, hc, hm, hcs, ht⟩
  · cases e
  · injection e with e1 e2 e3
    injection e1 with e1
    injection e1 with e1
    subst e1 e3
    have hfl := flat_length xss h.2
    have h2 : ∀ xs ∈ xss.take k, xs.length = sz := fun xs hx => h.2 xs (List.mem_of_mem_take hx)
    have hf2 := flat_length (xss.take k) h2
    rw [show (xss.take k).length = k by rw [List.length_take]; omega] at hf2
    have e0 : xss.flatten = (xss.take k).flatten ++ (xss.drop k).flatten := by rw [← List.flatten_append, List.take_append_drop]
    have hq : xss.flatten[k * sz + j]? = some u := by
      rw [e0, List.getElem?_append_right (by omega), hf2, Nat.add_sub_cancel_left]
      exact hj
    have hlt : k * sz + j < xss.length * sz := by rw [← hfl]; exact (List.getElem?_eq_some_iff.1 hq).1
    rw [cell_of_row w g (k * sz + j) cur T (0, 0) hg, ← hq, ← ht, List.getElem?_take_of_lt hlt]
    simp
/-- The first elements of what is left, when cells behind them are written. -/
theorem own_tail {w : World} {B : Nat} {T : TypeId} {sz g n c : Nat} {xss : List (List Value)} (h : OwnS w B T sz (.slice (some ⟨g, 0, none⟩) n c) xss) (hn : xss.length = n) (vs : List Value) (hv : n * sz + vs.length ≤ c * sz) : OwnS (w.setCells g (n * sz) vs) B T sz (.slice (some ⟨g, 0, none⟩) n c) xss ∧ Only (fun k => k = g) w (w.setCells g (n * sz) vs) := by
  rcases h.1.2 with ⟨e, h0⟩ | ⟨g', cap, cur, e, hb, hg, hc, hm, hcs, ht⟩
  · cases e
  · injection e with e1 e2 e3
    injection e1 with e1
    injection e1 with e1
    subst e1 e3
    refine ⟨⟨⟨h.1.1, .inr ⟨g, c, setA cur (n * sz) vs, by rw [hn], hb, Is.many vs _ _ _ _ hg, hc, hm, by rw [setA_size]; exact hcs, ?_⟩⟩, h.2⟩, Only.many vs _ _ (Only.refl _ w) (fun _ => rfl)⟩
    rw [← ht]
    apply List.ext_getElem?
    intro j
    rw [List.getElem?_take, List.getElem?_take, hn]
    by_cases hj : j < n * sz
    · rw [if_pos hj, if_pos hj, Array.getElem?_toList, Array.getElem?_toList, setA_get vs cur _ j (by omega), if_neg (by omega)]
    · rw [if_neg hj, if_neg hj]
theorem own_is {w : World} {B : Nat} {T : TypeId} {sz g n c : Nat} {xss : List (List Value)} (h : OwnS w B T sz (.slice (some ⟨g, 0, none⟩) n c) xss) : ∃ cur, Is w g T cur ∧ cur.size = c * sz ∧ xss.length ≤ c ∧ c ≤ maxLen ∧ n = xss.length := by
  rcases h.1.2 with ⟨e, h0⟩ | ⟨g', cap, cur, e, hb, hg, hc, hm, hcs, ht⟩
  · cases e
  · injection e with e1 e2 e3
    injection e1 with e1
    injection e1 with e1
    subst e1 e3
    exact ⟨cur, hg, hcs, hc, hm, e2⟩
/-- What an append over the first elements leaves. -/
theorem own_shift {w : World} {B g n c k m : Nat} {xss : List (List Value)} {T : TypeId} {sz : Nat} (h : OwnS w B T sz (.slice (some ⟨g, 0, none⟩) n c) xss) (hn : xss.length = n) (hm : n - k = m) (hkn : k ≤ n) :
    OwnS (w.setCells g 0 (xss.drop k).flatten) B T sz (.slice (some ⟨g, 0, none⟩) m c) (xss.drop k) ∧ Only (fun j => j = g) w (w.setCells g 0 (xss.drop k).flatten) := by
  have h2 : ∀ xs ∈ xss.drop k, xs.length = sz := fun xs hx => h.2 xs (List.mem_of_mem_drop hx)
  have hl : (xss.drop k).length = m := by rw [List.length_drop]; omega
  have hfl := flat_length _ h2
  rw [hl] at hfl
  rcases h.1.2 with ⟨e, h0⟩ | ⟨g', cap, cur, e, hb, hg, hc, hmx, hcs, ht⟩
  · cases e
  · injection e with e1 e2 e3
    injection e1 with e1
    injection e1 with e1
    subst e1 e3
    have hmc : m * sz ≤ c * sz := Nat.mul_le_mul_right _ (by omega)
    refine ⟨⟨⟨by rw [hl]; exact hfl, .inr ⟨g, c, setA cur 0 (xss.drop k).flatten, by rw [hl], hb, Is.many _ _ _ _ _ hg, by omega, hmx, by rw [setA_size]; exact hcs, ?_⟩⟩, h2⟩, Only.many _ _ _ (Only.refl _ w) (fun _ => rfl)⟩
    rw [hl]
    apply List.ext_getElem?
    intro j
    rw [List.getElem?_take, Array.getElem?_toList, setA_get _ cur 0 j (by omega)]
    by_cases hj : j < m * sz
    · rw [if_pos hj, if_pos (by omega), Nat.sub_zero]
    · rw [if_neg hj, List.getElem?_eq_none (by omega)]
/-- An append of a struct: and where the row lies then. -/
theorem append_runN {o : Oper} {a : Act} {K : Act → World → Prop} {Q : Exit → Act → World → Prop} (w : World) (s x : Operand) {t T : TypeId} {sz bytes : Nat} (st : Sty t T sz bytes)
    (ho : o.op = .call { callee := .builtin .append, args := #[s, x], argTypes := #[t, t] })
    (B : Nat) (v : Value) (xss : List (List Value)) (hs : a.eval s = v) (hown : OwnS w B T sz v xss) (g : Nat) (xs : List Value) (hx : a.eval x = .slice (some ⟨g, 0, none⟩) 1 1) (hsrc : Is w g T xs.toArray)
    (hxl : xs.length = sz) (h1 : ∀ u ∈ xs, u.oneCell' = true)
    (hl : xss.length ≤ 100000) (hby : bytes ≤ 100000) (hB : B ≤ w.heap.size)
    (h : ∀ v' w', OwnS w' B T sz v' (xss ++ [xs]) → Only (fun k => v.ownBlock = some k) w w' → (∀ k, v'.ownBlock = some k → v.ownBlock = some k ∨ w.heap.size ≤ k) → K (a.put o.dst v') w') :
    Oper.wp Try.prog o a w K Q := by
  obtain ⟨i0, z, hi, hz0, hz1, hz2, hz3⟩ := st.info
  have hb1 : (xss.length + 1) * bytes ≤ 100001 * 100000 := Nat.mul_le_mul (by omega) hby
  obtain ⟨v', w', hr, h2, h3, h4, h5⟩ := run_append_own_at (P := Try.prog) w B t o.type T i0 z sz bytes st.und hi hz0 hz1 hz2 hz3 st.pos v xss.length xss.flatten hown.1 ⟨g, 0, none⟩ 1 1 xs (by rw [hxl, Nat.one_mul]) (fun j u hu => by
    rw [add_plain, hsrc.cell]
    simpa using hu) h1 (by unfold maxLen; omega) (by omega) hB
  unfold Oper.wp execOp
  simp only [ho, resolve, invoke, builtin, Sem.run_bind, Sem.run_pure, Result.andThen_ok, List.map_toArray, List.map_cons, List.map_nil, hs, hx, hr]
  refine h v' w' ⟨?_, ?_⟩ ((Only.refl _ w).grown h3 (fun i hi _ => hi)) (fun k hk => ?_)
  · rw [List.length_append, List.flatten_append]
    simpa using h2
  · intro ys hy
    rcases List.mem_append.1 hy with hy | hy
    · exact hown.2 ys hy
    · rw [List.mem_singleton.1 hy]; exact hxl
  · rcases h5 with e | e
    · exact .inl (e ▸ hk)
    · rw [e] at hk
      injection hk with hk
      exact .inr (by omega)
theorem wpList_append_structN {ops : Array Oper} {rest : List Oper} {o : Oper} {a : Act} {Q : Exit → Act → World → Prop} (w : World) (hgd : o.guard = none) (s x : Operand) {t T : TypeId} {sz bytes : Nat} (st : Sty t T sz bytes)
    (ho : o.op = .call { callee := .builtin .append, args := #[s, x], argTypes := #[t, t] })
    (B : Nat) (v : Value) (xss : List (List Value)) (hs : a.eval s = v) (hown : OwnS w B T sz v xss) (g : Nat) (xs : List Value) (hx : a.eval x = .slice (some ⟨g, 0, none⟩) 1 1) (hsrc : Is w g T xs.toArray)
    (hxl : xs.length = sz) (h1 : ∀ u ∈ xs, u.oneCell' = true)
    (hl : xss.length ≤ 100000) (hby : bytes ≤ 100000) (hB : B ≤ w.heap.size)
    (h : ∀ A c w', OwnS w' B T sz (.slice A (xss.length + 1) c) (xss ++ [xs]) → Only (fun k => v.ownBlock = some k) w w' → (∀ k, Value.ownBlock (.slice A (xss.length + 1) c) = some k → v.ownBlock = some k ∨ w.heap.size ≤ k) → wpList Try.prog ops Q rest (a.put o.dst (.slice A (xss.length + 1) c)) w') :
    wpList Try.prog ops Q (o :: rest) a w :=
  wpList_plain hgd fun _ hK => append_runN w s x st ho B v xss hs hown g xs hx hsrc hxl h1 hl hby hB fun v' w' h1 h2 h3 => by
    obtain ⟨A, c, rfl, -⟩ := h1.slice
    rw [List.length_append] at h1 h3 ⊢
    exact hK _ _ (h A c w' h1 h2 h3)
/-- A store amid a block; the world behind it is a letter. -/
theorem wpList_store_midw {P : Program} {ops : Array Oper} {rest : List Oper} {op : Oper} {a : Act} {w : World} {Q : Exit → Act → World → Prop} (hgd : op.guard = none) (ty : TypeId) (x y : Operand) (ho : op.op = .store ty x y)
    (b o : Nat) (cells : Array Value) (hx : a.eval x = .pointer (some ⟨b, o, none⟩)) (hy : a.eval y = .agg cells)
    (ht : w.there b o cells.size) (hi : (P.info? ty).map (·.size) = some cells.size) (h1 : cells.all (·.oneCell') = true)
    (h : ∀ w', w' = w.setCells b o cells.toList → wpList P ops Q rest (a.put op.dst undef) w') : wpList P ops Q (op :: rest) a w :=
  wpList_store_mid hgd ty x y ho b o cells hx hy ht hi h1 (h _ rfl)
theorem wpList_load_midW {P : Program} {ops : Array Oper} {rest : List Oper} {op : Oper} {a : Act} {w : World} {Q : Exit → Act → World → Prop} (hw : Region.wanted op (yielded ops a.tmps) = true) (ty : TypeId) (x : Operand) (ho : op.op = .load ty x)
    (b o : Nat) (hx : a.eval x = .pointer (some ⟨b, o, none⟩)) (cs : List Value) (d : TypeDesc) (hc : w.rangeAt b o cs)
    (hu : P.underlying ty = some d) (hd : d.isRow = true) (hi : (P.info? ty).map (·.size) = some cs.length)
    (h : wpList P ops Q rest (a.put op.dst (.agg cs.toArray)) w) : wpList P ops Q (op :: rest) a w :=
  wpList_want hw fun _ hK => wp_load_mid ty x ho b o hx cs d hc hu hd hi (hK _ _ h)
theorem results_is {P : Program} {fn : Func} {p q : Tmp} {ty : TypeId} (h : fn.results = #[.cell p ty, .tmp q]) (tmps : Array Value) (w : World) (g : Nat) (t : TypeId) (cs : Array Value) (d : TypeDesc) (x : Value)
    (hp : tmps.getD p undef = .pointer (some ⟨g, 0, none⟩)) (hq : tmps.getD q undef = x) (hg : Is w g t cs)
    (hu : P.underlying ty = some d) (hd : (match d with | .struct _ | .array _ _ => true | _ => false) = true) (hi : (P.info? ty).map (·.size) = some cs.size) :
    (results fn tmps).run P w = .ok (.tuple #[.agg cs, x]) w := by
  have hp' : tmps[p]?.getD undef = .pointer (some ⟨g, 0, none⟩) := by simpa using hp
  have hq' : tmps[q]?.getD undef = x := by simpa using hq
  simp [results, h, hp', hq', asAddr, run_loadVar_row w g t ty cs (0, 0) d hg hu hd hi]
end Go.Proofs.Ytelfeedaadkhnaa

/- Maps keyed by numbers: what lies there, entry by entry, in the order in which they came; look-up, store of a new key, delete, len. Conditions: as each says. -/
set_option linter.unusedVariables false
set_option linter.unusedSimpArgs false
namespace Go.Proofs.Ytelfeedaadkhnaa
open Go Go.RowKit
open Go.MapKept Go.ChangeMaps

/-- A map lies there: its entries, in the order in which they came. -/
def MapAt (w : World) (b : Nat) (q : IntKind) (ms : List (Nat × Value)) : Prop :=
  ∃ es clock, w.heap[b]? = some (.map es clock) ∧ Stamped es clock ∧ es.toList.map (fun e => (e.key, e.val)) = ms.map (fun m => (Value.int q (m.1 : Int), m.2)) ∧ ∀ m ∈ ms, (Lit.int q (m.1 : Int)).wf = true
def mget (ms : List (Nat × Value)) (n : Nat) : Option Value := (ms.find? (fun m => m.1 == n)).map (·.2)

section
variable {w w1 : World} {b n : Nat} {q : IntKind} {ms : List (Nat × Value)} {P : Program} {t k e : TypeId}
theorem MapAt.lt (h : MapAt w b q ms) : b < w.heap.size := by
  obtain ⟨es, c, hb, _⟩ := h
  exact lt_of_heap hb
theorem MapAt.only {S : Nat → Prop} (h : MapAt w b q ms) (ho : Only S w w1) (hn : ¬ S b) : MapAt w1 b q ms := by
  have hlt := h.lt
  obtain ⟨es, c, hb, r⟩ := h
  exact ⟨es, c, (ho.same b hlt hn).trans hb, r⟩
theorem MapAt.made (w : World) (q : IntKind) : MapAt (w.alloc (.map #[] 0)) w.heap.size q [] := ⟨#[], 0, heap_alloc_new w _, stamped_empty 0, by simp, by simp⟩
theorem map_nodup {l : List (Nat × Value)} (h : (l.map (fun m => Value.int q (m.1 : Int))).Nodup) : (l.map (·.1)).Nodup := by
  have : l.map (fun m => Value.int q (m.1 : Int)) = (l.map (·.1)).map (fun n : Nat => Value.int q (n : Int)) := by simp
  rw [this] at h
  exact (List.pairwise_map.1 h).imp (fun hne e => hne (by rw [e]))
theorem MapAt.nodup (h : MapAt w b q ms) : (ms.map (·.1)).Nodup := by
  obtain ⟨es, c, hb, ⟨_, _, hn⟩, he, _⟩ := h
  have := congrArg (List.map Prod.fst) he
  simp only [List.map_map, Function.comp_def] at this
  rw [this] at hn
  exact map_nodup hn
theorem mget_none (h : ∀ m ∈ ms, m.1 ≠ n) : mget ms n = none := by
  unfold mget
  rw [List.find?_eq_none.2 (fun m hm => by simpa using h m hm)]
  rfl
theorem mget_mem : ∀ {ms : List (Nat × Value)} {n : Nat} {v : Value}, (ms.map (·.1)).Nodup → (n, v) ∈ ms → mget ms n = some v
  | [], _, _, _, h => by simp at h
  | m :: r, n, v, hd, h => by
    simp only [List.map_cons, List.nodup_cons] at hd
    rcases List.mem_cons.1 h with rfl | h
    · simp [mget]
    · have hne : m.1 ≠ n := fun e => hd.1 (by rw [e]; exact List.mem_map.2 ⟨_, h, rfl⟩)
      have := mget_mem hd.2 h
      unfold mget at this ⊢
      rw [List.find?_cons_of_neg (by simpa using hne)]
      exact this
theorem mget_iff : mget ms n = none ↔ ∀ m ∈ ms, m.1 ≠ n := by
  constructor
  · intro h m hm e
    unfold mget at h
    simp only [Option.map_eq_none_iff, List.find?_eq_none] at h
    exact h m hm (by simpa using e)
  · exact mget_none
/-- What the map's own search finds. -/
theorem MapAt.find (h : MapAt w b q ms) (hk : P.underlying k = some (.int q)) (hn : (Lit.int q (n : Int)).wf = true) : ∃ es clock, w.heap[b]? = some (.map es clock) ∧ Stamped es clock ∧ es.toList.map (fun e => (e.key, e.val)) = ms.map (fun m => (Value.int q (m.1 : Int), m.2)) ∧
    (((Instr.findKey k (.int q n) es.toList).run P w = .ok none w ∧ (∀ e ∈ es.toList, e.key ≠ .int q n) ∧ mget ms n = none) ∨ ∃ j v, (Instr.findKey k (.int q n) es.toList).run P w = .ok (some (j, v)) w ∧ ms[j]? = some (n, v) ∧ mget ms n = some v) := by
  have hnd := h.nodup
  obtain ⟨es, c, hb, hst, he, hwf⟩ := h
  refine ⟨es, c, hb, hst, he, ?_⟩
  have hkey : ∀ e ∈ es.toList, ∃ l, keyOf P k e.key = some l := by
    intro e hm
    have : (e.key, e.val) ∈ es.toList.map (fun e => (e.key, e.val)) := List.mem_map.2 ⟨e, hm, rfl⟩
    rw [he] at this
    obtain ⟨m, hm, hme⟩ := List.mem_map.1 this
    injection hme with h1 h2
    exact ⟨.int q m.1, by rw [← h1]; exact Maps.keyOf_int_mk hk (hwf m hm)⟩
  rcases (Maps.int_keyed hk).find w (Maps.keyOf_int_mk hk hn) es.toList hkey with ⟨h1, h2⟩ | ⟨j, e0, h1, h2, h3⟩
  · refine .inl ⟨h1, h2, mget_none fun m hm e => ?_⟩
    have : (Value.int q (m.1 : Int), m.2) ∈ ms.map (fun m => (Value.int q (m.1 : Int), m.2)) := List.mem_map.2 ⟨m, hm, rfl⟩
    rw [← he] at this
    obtain ⟨x, hx, hxe⟩ := List.mem_map.1 this
    injection hxe with h4 h5
    exact h2 x hx (by rw [h4, e])
  · have hj : (es.toList.map (fun e => (e.key, e.val)))[j]? = some (e0.key, e0.val) := by simp [h2]
    rw [he, List.getElem?_map] at hj
    obtain ⟨m, hm, hme⟩ := Option.map_eq_some_iff.1 hj
    injection hme with h4 h5
    rw [h3] at h4
    injection h4 with _ h4
    have h4' : m.1 = n := by omega
    have hm' : ms[j]? = some (n, e0.val) := by rw [hm, ← h4', ← h5]
    exact .inr ⟨j, e0.val, h1, hm', mget_mem hnd (List.mem_of_getElem? hm')⟩
theorem MapAt.look (h : MapAt w b q ms) (c : Bool) (ht : P.underlying t = some (.map k e)) (hk : P.underlying k = some (.int q)) {z : Value} (hz : (zeroValue e).run P w = .ok z w) (hn : (Lit.int q (n : Int)).wf = true) :
    (Instr.lookup t (.map (some b)) (.int q n) c).run P w = .ok (if c then .tuple #[(mget ms n).getD z, .bool (mget ms n).isSome] else (mget ms n).getD z) w := by
  obtain ⟨es, cl, hb, hst, he, hf⟩ := h.find hk hn
  rcases hf with ⟨h1, _, h2⟩ | ⟨j, v, h1, _, h2⟩
  · simp [Instr.lookup, run_underlying ht, MapKept.run_getObj_map hb, (Maps.int_keyed hk).check w _ (Maps.keyOf_int_mk hk hn), h1, hz, h2, Result.andThen]
  · simp [Instr.lookup, run_underlying ht, MapKept.run_getObj_map hb, (Maps.int_keyed hk).check w _ (Maps.keyOf_int_mk hk hn), h1, h2, Result.andThen]
theorem MapAt.size (h : MapAt w b q ms) (ht : P.underlying t = some (.map k e)) (ty : TypeId) : (Builtin.len_ #[t] ty #[.map (some b)]).run P w = .ok (.int .i64 (ms.length : Nat)) w := by
  obtain ⟨es, cl, hb, _, he, _⟩ := h
  have : es.size = ms.length := by simpa using congrArg List.length he
  simp [Builtin.len_, run_underlying ht, MapKept.run_getObj_map hb, goInt, Result.andThen, this]
theorem only_setBlock (w : World) (b : Nat) (o : Obj) : Only (fun k => k = b) w (setBlock w b o) :=
  ⟨rfl, rfl, rfl, by simp [setBlock], fun i hi hn => by
    have : ¬ b = i := fun e => hn e.symm
    simp [setBlock, Array.getElem?_setIfInBounds, this]⟩
theorem MapAt.put (h : MapAt w b q ms) (ht : P.underlying t = some (.map k e)) (hk : P.underlying k = some (.int q)) (hn : (Lit.int q (n : Int)).wf = true) (v : Value) (hno : mget ms n = none) :
    ∃ w', (Instr.mapUpdate t (.map (some b)) (.int q n) v).run P w = .ok () w' ∧ MapAt w' b q (ms ++ [(n, v)]) ∧ Only (fun k => k = b) w w' := by
  have hwf := h.choose_spec.choose_spec.2.2.2
  obtain ⟨es, cl, hb, hst, he, hf⟩ := h.find hk hn
  rcases hf with ⟨h1, h3, h2⟩ | ⟨j, v, h1, _, h2⟩
  · refine ⟨setBlock w b (.map (es.push ⟨.int q n, v, cl⟩) (cl + 1)), ?_, ⟨es.push ⟨.int q n, v, cl⟩, cl + 1, heap_setBlock_same hb _, stamped_push hst h3, by simp [he], ?_⟩, only_setBlock w b _⟩
    · simp [Instr.mapUpdate, run_underlying ht, MapKept.run_getObj_map hb, (Maps.int_keyed hk).check w false (Maps.keyOf_int_mk hk hn), h1, MapKept.run_setObj_map _ hb, Result.andThen, setBlock]
    · intro m hm
      rcases List.mem_append.1 hm with hm | hm
      · exact hwf m hm
      · rw [List.mem_singleton.1 hm]; exact hn
  · rw [hno] at h2
    cases h2
theorem erase_filter : ∀ (ms : List (Nat × Value)) (j n : Nat) (v : Value), (ms.map (·.1)).Nodup → ms[j]? = some (n, v) → ms.eraseIdx j = ms.filter (fun m => m.1 != n)
  | [], j, n, v, _, h => by simp at h
  | m :: r, 0, n, v, hd, h => by
    simp only [List.map_cons, List.nodup_cons] at hd
    simp only [List.getElem?_cons_zero, Option.some.injEq] at h
    subst h
    rw [List.eraseIdx_cons_zero, List.filter_cons_of_neg (by simp), List.filter_eq_self.2]
    intro x hx
    simp only [bne_iff_ne, ne_eq]
    intro e
    exact hd.1 (List.mem_map.2 ⟨x, hx, e⟩)
  | m :: r, j + 1, n, v, hd, h => by
    simp only [List.map_cons, List.nodup_cons] at hd
    simp only [List.getElem?_cons_succ] at h
    have hne : m.1 ≠ n := fun e => hd.1 (List.mem_map.2 ⟨(n, v), List.mem_of_getElem? h, e.symm⟩)
    rw [List.eraseIdx_cons_succ, List.filter_cons_of_pos (by simpa using hne), erase_filter r j n v hd.2 h]
theorem MapAt.del (h : MapAt w b q ms) (ht : P.underlying t = some (.map k e)) (hk : P.underlying k = some (.int q)) (hn : (Lit.int q (n : Int)).wf = true) (ty : TypeId) :
    ∃ w', (Builtin.delete_ #[t, k] ty #[.map (some b), .int q n]).run P w = .ok (.tuple #[]) w' ∧ MapAt w' b q (ms.filter (fun m => m.1 != n)) ∧ Only (fun k => k = b) w w' := by
  have hwf := h.choose_spec.choose_spec.2.2.2
  have hnd := h.nodup
  obtain ⟨es, cl, hb, hst, he, hf⟩ := h.find hk hn
  have hwf' : ∀ m ∈ ms.filter (fun m => m.1 != n), (Lit.int q (m.1 : Int)).wf = true := fun m hm => hwf m (List.mem_filter.1 hm).1
  rcases hf with ⟨h1, h3, h2⟩ | ⟨j, v, h1, h3, h2⟩
  · refine ⟨setBlock w b (.map es cl), ?_, ⟨es, cl, heap_setBlock_same hb _, hst, ?_, hwf'⟩, only_setBlock w b _⟩
    · simp [Builtin.delete_, run_underlying ht, MapKept.run_getObj_map hb, (Maps.int_keyed hk).check w _ (Maps.keyOf_int_mk hk hn), h1, MapKept.run_setObj_map _ hb, Result.andThen, setBlock]
    · rw [List.filter_eq_self.2 (fun m hm => by simpa using mget_iff.1 h2 m hm)]
      exact he
  · have hjs : j < es.size := by
      have := congrArg List.length he
      simp only [List.length_map, Array.length_toList] at this
      have := (List.getElem?_eq_some_iff.1 h3).1
      omega
    have hsub : (es.eraseIdxIfInBounds j).toList = es.toList.eraseIdx j := by
      unfold Array.eraseIdxIfInBounds
      rw [dif_pos hjs]
      simp
    refine ⟨setBlock w b (.map (es.eraseIdxIfInBounds j) cl), ?_, ⟨es.eraseIdxIfInBounds j, cl, heap_setBlock_same hb _, stamped_erase hst j, ?_, hwf'⟩, only_setBlock w b _⟩
    · simp [Builtin.delete_, run_underlying ht, MapKept.run_getObj_map hb, (Maps.int_keyed hk).check w _ (Maps.keyOf_int_mk hk hn), h1, MapKept.run_setObj_map _ hb, Result.andThen, setBlock]
    · rw [hsub, map_eraseIdx, he, ← map_eraseIdx, erase_filter ms j n v hnd h3]
end

section
variable {P : Program} {w : World} {ops : Array Oper} {rest : List Oper} {o : Oper} {a : Act} {Q : Exit → Act → World → Prop} {b n : Nat} {q : IntKind} {ms : List (Nat × Value)}
/-- A look-up, at the operation. -/
theorem wpList_mlook (hg : o.guard = none) (m x : Operand) (t : TypeId) (c : Bool) (hop : o.op = Op.lookup t m x c) (k e : TypeId) (ht : P.underlying t = some (.map k e)) (hk : P.underlying k = some (.int q)) {z : Value} (hz : (zeroValue e).run P w = .ok z w)
    (hm : a.eval m = .map (some b)) (h : MapAt w b q ms) (hx : a.eval x = .int q (n : Int)) (hn : (Lit.int q (n : Int)).wf = true)
    (hK : wpList P ops Q rest (a.put o.dst (if c then .tuple #[(mget ms n).getD z, .bool (mget ms n).isSome] else (mget ms n).getD z)) w) : wpList P ops Q (o :: rest) a w := by
  refine wpList_plain hg fun K' hK' => ?_
  have hrun := h.look c ht hk hz hn
  unfold Oper.wp
  cases c <;> simp [execOp, hop, hm, hx, hrun, Result.andThen] <;> exact hK' _ _ hK
theorem wpList_mlookT (hg : o.guard = none) (m x : Operand) (t : TypeId) (hop : o.op = Op.lookup t m x true) (k e : TypeId) (ht : P.underlying t = some (.map k e)) (hk : P.underlying k = some (.int q)) {z : Value} (hz : (zeroValue e).run P w = .ok z w)
    (hm : a.eval m = .map (some b)) (h : MapAt w b q ms) (hx : a.eval x = .int q (n : Int)) (hn : (Lit.int q (n : Int)).wf = true) {v : Value} {s : Bool} (hv : (mget ms n).getD z = v) (hs : (mget ms n).isSome = s)
    (hK : wpList P ops Q rest (a.put o.dst (.tuple #[v, .bool s])) w) : wpList P ops Q (o :: rest) a w :=
  wpList_mlook hg m x t true hop k e ht hk hz hm h hx hn (by rw [if_pos rfl, hv, hs]; exact hK)
theorem wpList_mlookF (hg : o.guard = none) (m x : Operand) (t : TypeId) (hop : o.op = Op.lookup t m x false) (k e : TypeId) (ht : P.underlying t = some (.map k e)) (hk : P.underlying k = some (.int q)) {z : Value} (hz : (zeroValue e).run P w = .ok z w)
    (hm : a.eval m = .map (some b)) (h : MapAt w b q ms) (hx : a.eval x = .int q (n : Int)) (hn : (Lit.int q (n : Int)).wf = true) {v : Value} (hv : (mget ms n).getD z = v)
    (hK : wpList P ops Q rest (a.put o.dst v) w) : wpList P ops Q (o :: rest) a w :=
  wpList_mlook hg m x t false hop k e ht hk hz hm h hx hn (by rw [if_neg (by decide), hv]; exact hK)
theorem wpList_mlen (hg : o.guard = none) (m : Operand) (t : TypeId) (hop : o.op = Op.call { callee := Callee.builtin Builtin.len, args := #[m], argTypes := #[t] }) (k e : TypeId) (ht : P.underlying t = some (.map k e))
    (hm : a.eval m = .map (some b)) (h : MapAt w b q ms) (hK : wpList P ops Q rest (a.put o.dst (.int .i64 (ms.length : Nat))) w) : wpList P ops Q (o :: rest) a w := by
  refine wpList_plain hg fun K' hK' => ?_
  unfold Oper.wp
  simp [execOp, hop, resolve, invoke, builtin, hm, h.size ht o.type, Result.andThen]
  exact hK' _ _ hK
theorem wpList_mput (hg : o.guard = none) (m x y : Operand) (t : TypeId) (hop : o.op = Op.mapUpdate t m x y) (k e : TypeId) (ht : P.underlying t = some (.map k e)) (hk : P.underlying k = some (.int q))
    (hm : a.eval m = .map (some b)) (h : MapAt w b q ms) (hx : a.eval x = .int q (n : Int)) (v : Value) (hv : a.eval y = v) (hn : (Lit.int q (n : Int)).wf = true) (hno : mget ms n = none)
    (hK : ∀ w', MapAt w' b q (ms ++ [(n, v)]) → Only (fun k => k = b) w w' → wpList P ops Q rest (a.put o.dst undef) w') : wpList P ops Q (o :: rest) a w := by
  refine wpList_plain hg fun K' hK' => ?_
  obtain ⟨w', hrun, r1, r2⟩ := h.put ht hk hn v hno
  unfold Oper.wp
  simp [execOp, hop, hm, hx, hv, hrun, Result.andThen]
  exact hK' _ _ (hK w' r1 r2)
theorem wpList_mdel (hg : o.guard = none) (m x : Operand) (t k : TypeId) (hop : o.op = Op.call { callee := Callee.builtin Builtin.delete, args := #[m, x], argTypes := #[t, k] }) (e : TypeId) (ht : P.underlying t = some (.map k e)) (hk : P.underlying k = some (.int q))
    (hm : a.eval m = .map (some b)) (h : MapAt w b q ms) (hx : a.eval x = .int q (n : Int)) (hn : (Lit.int q (n : Int)).wf = true)
    (hK : ∀ w', MapAt w' b q (ms.filter (fun m => m.1 != n)) → Only (fun k => k = b) w w' → wpList P ops Q rest (a.put o.dst (.tuple #[])) w') : wpList P ops Q (o :: rest) a w := by
  refine wpList_plain hg fun K' hK' => ?_
  obtain ⟨w', hrun, r1, r2⟩ := h.del ht hk hn o.type
  unfold Oper.wp
  simp [execOp, hop, resolve, invoke, builtin, hm, hx, hrun, Result.andThen]
  exact hK' _ _ (hK w' r1 r2)
end
end Go.Proofs.Ytelfeedaadkhnaa

/- Rows of numbers of 32 digits: what is appended to nothing. Conditions: as each says. -/
set_option linter.unusedVariables false
set_option linter.unusedSimpArgs false
namespace Go.Proofs.Ytelfeedaadkhnaa
open Go.RowKit

theorem Try.infoU32 : (Try.prog.info? 30).map (fun i => (i.zero, i.size, i.bytes)) = some (some (.int .u32 0), 1, 4) := by kernel_rfl
def cells32 (l : List Nat) : List Value := l.map fun (n : Nat) => .int .u32 (n : Int)
theorem length_cells32 (l : List Nat) : (cells32 l).length = l.length := by simp [cells32]
theorem own32_rd {w : World} {B : Nat} {v : Value} {ns : List Nat} (h : w.ownsRow B 30 1 v ns.length (cells32 ns)) : Rd .u32 w v (nats ns) := by
  rcases h.2 with ⟨rfl, h0⟩ | ⟨g, cap, cur, rfl, hb, hg, hc, _⟩
  · obtain rfl := List.eq_nil_of_length_eq_zero h0
    exact Rd.nil _ _
  · refine ⟨some ⟨g, 0, none⟩, cap, by rw [nats_length], by rw [nats_length]; exact hc, fun hp => ⟨g, 0, rfl, fun j hj => ?_⟩⟩
    rw [nats_length] at hj
    have h1 := h.cells (g := g) rfl j (.int .u32 (ns[j] : Nat)) (by simp [cells32, hj])
    rw [add_plain] at h1
    rw [h1]
    simp [nats]
set_option maxRecDepth 100000 in
/-- Numbers are appended to nothing. -/
theorem app32 {o : Oper} {a : Act} {K : Act → World → Prop} {Q : Exit → Act → World → Prop} (w : World) (s x : Operand) (ho : o.op = .call { callee := .builtin .append, args := #[s, x], argTypes := #[33, 33] })
    (B : Nat) (vx : Value) (ns : List Nat) (hs : a.eval s = .slice none 0 0) (hx : a.eval x = vx) (hn0 : vx = .slice none 0 0 ∨ ∃ ad n c, vx = .slice (some ad) n c) (hr : Rd .u32 w vx (nats ns)) (hl : ns.length ≤ 1000000) (hB : B ≤ w.heap.size)
    (h : ∀ A c w', w'.ownsRow B 30 1 (.slice A ns.length c) ns.length (cells32 ns) → Only (fun _ => False) w w' → K (a.put o.dst (.slice A ns.length c)) w') : Oper.wp Try.prog o a w K Q := by
  obtain ⟨i0, hi, hz0, hz1, hz2⟩ := info_parts Try.infoU32
  obtain ⟨A, c, rfl, hc, hh⟩ := hr
  rw [nats_length] at hc hx
  have fin : ∀ v' w', w'.ownsRow B 30 1 v' ns.length (cells32 ns) → Only (fun _ => False) w w' → K (a.put o.dst v') w' := fun v' w' h1 h2 => by
    obtain ⟨A', c', rfl, _⟩ := own_slice h1
    exact h A' c' w' h1 h2
  rcases A with _ | ad
  · have h0 : ns.length = 0 := by
      rcases Nat.eq_zero_or_pos ns.length with e | e
      · exact e
      · obtain ⟨b, o, e1, _⟩ := hh (by rw [nats_length]; exact e)
        cases e1
    obtain rfl := List.eq_nil_of_length_eq_zero h0
    have hrun := run_append_owned_none (P := Try.prog) w B 33 o.type 30 i0 1 Try.underlying33 hi (.slice none 0 0) 0 [] (World.ownsRow_nil w B 30 1)
    obtain rfl : c = 0 := by rcases hn0 with e | ⟨_, _, _, e⟩ <;> cases e; rfl
    unfold Oper.wp
    simp [execOp, ho, resolve, invoke, builtin, hs, hx, hrun, Result.andThen]
    exact fin _ w (World.ownsRow_nil w B 30 1) (Only.refl _ w)
  · have hn : ∀ j u, (cells32 ns)[j]? = some u → w.cell? (ad.add j) = some u := by
      intro j u hu
      have hj : j < ns.length := by rw [← length_cells32]; exact (List.getElem?_eq_some_iff.1 hu).1
      obtain ⟨b, o, e1, hcell⟩ := hh (by rw [nats_length]; omega)
      injection e1 with e1
      subst e1
      have h1 := hcell j (by rw [nats_length]; exact hj)
      rw [add_plain, h1, ← hu]
      simp [cells32, nats, hj]
    exact wp_append_own w s x 33 ho B 30 i0 (.int .u32 0) 1 4 Try.underlying33 hi hz0 hz1 hz2 rfl (by decide) (.slice none 0 0) 0 [] hs (World.ownsRow_nil w B 30 1) ad ns.length c (cells32 ns) hx (by rw [length_cells32, Nat.mul_one]) hn (by simp [cells32, Value.oneCell']) (by unfold maxLen; omega) (by omega) hB
      (fun v' w' h1 h2 _ => fin v' w' (by simpa using h1) ((Only.refl _ w).grown h2 (fun i hi _ => by simp [Value.ownBlock] at hi)))
theorem wpList_app32 {ops : Array Oper} {rest : List Oper} {o : Oper} {a : Act} {Q : Exit → Act → World → Prop} (w : World) (hgd : o.guard = none) (s x : Operand) (ho : o.op = .call { callee := .builtin .append, args := #[s, x], argTypes := #[33, 33] })
    (B : Nat) (vx : Value) (ns : List Nat) (hs : a.eval s = .slice none 0 0) (hx : a.eval x = vx) (hn0 : vx = .slice none 0 0 ∨ ∃ ad n c, vx = .slice (some ad) n c) (hr : Rd .u32 w vx (nats ns)) (hl : ns.length ≤ 1000000) (hB : B ≤ w.heap.size)
    (h : ∀ A c w', w'.ownsRow B 30 1 (.slice A ns.length c) ns.length (cells32 ns) → Only (fun _ => False) w w' → wpList Try.prog ops Q rest (a.put o.dst (.slice A ns.length c)) w') : wpList Try.prog ops Q (o :: rest) a w :=
  wpList_plain hgd fun _ hK => app32 w s x ho B vx ns hs hx hn0 hr hl hB fun A c w' h1 h2 => hK _ _ (h A c w' h1 h2)
end Go.Proofs.Ytelfeedaadkhnaa

/- A region that draws its order, operation by operation: each once, whatever the order. Conditions: as it says. -/
set_option linter.unusedVariables false
namespace Go.Proofs.Ytelfeedaadkhnaa
open Go

/-- The operations that an operation's own edges name. -/
def Reg.deps (o : Oper) : List Nat := o.after.toList.filterMap fun e => if Region.binds .any e then some e.on else none
/-- All that stand ahead of each operation. -/
def Reg.aheads : List Oper → List (List Nat) → List (List Nat)
  | [], acc => acc
  | o :: os, acc => Reg.aheads os (acc ++ [(Reg.deps o ++ (Reg.deps o).flatMap fun k => acc.getD k []).eraseDups])
def Reg.ahead (ops : Array Oper) : List (List Nat) := Reg.aheads ops.toList []
def Reg.select : Op → Bool
  | .select .. => true
  | _ => false
/-- What of a region is looked through by reckoning. -/
def Reg.okAt (ops : Array Oper) (A : List (List Nat)) (i : Nat) (o : Oper) : Bool :=
  (Reg.deps o).all (fun k => decide (k < i)) &&
  (A.getD i []).all (fun j => (Reg.deps o).any fun k => k == j || (A.getD k []).contains j) &&
  (List.range ops.size).all (fun j => match (ops[j]?).bind (·.dst) with
    | none => true
    | some t => (!(o.looksAt ops).contains t || (A.getD i []).contains j) && (j == i || o.dst != some t)) &&
  !Reg.select o.op
def Reg.ok (ops : Array Oper) (A : List (List Nat)) : Bool :=
  (List.range ops.size).all fun i => match ops[i]? with
    | none => true
    | some o => Reg.okAt ops A i o

section
variable {P : Program} {ops : Array Oper} {Q : Exit → Act → World → Prop}

theorem Reg.ok_at {A : List (List Nat)} (h : Reg.ok ops A = true) {i : Nat} {o : Oper} (ho : ops[i]? = some o) : Reg.okAt ops A i o = true := by
  have hi : i < ops.size := (Array.getElem?_eq_some_iff.1 ho).1
  simp only [Reg.ok, List.all_eq_true, List.mem_range] at h
  have := h i hi
  rw [ho] at this
  exact this

/-- Some of the operations' values are put into their slots. -/
def Reg.part (ops : Array Oper) (L : Nat → Bool) (x : Nat → Value) (js : List Nat) (a : Act) : Act :=
  js.foldl (fun a j => if L j then a.put ((ops[j]?).bind (·.dst)) (x j) else a) a
/-- All of them. -/
def Reg.fill (ops : Array Oper) (x : Nat → Value) (a : Act) : Act := Reg.part ops (fun _ => true) x (List.range ops.size) a

theorem Act.put_size (a : Act) (d : Option Tmp) (v : Value) : (a.put d v).tmps.size = a.tmps.size := by cases d <;> simp [Act.put]
theorem Act.put_def (a : Act) (d : Option Tmp) (v : Value) : (a.put d v).defers = a.defers := by cases d <;> rfl
theorem Act.put_get (a b : Act) (d : Option Tmp) (v : Value) (t : Nat) (hs : a.tmps.size = b.tmps.size) (h : a.tmps[t]? = b.tmps[t]?) : (a.put d v).tmps[t]? = (b.put d v).tmps[t]? := by
  cases d with
  | none => exact h
  | some d => simp only [Act.put, Array.getElem?_setIfInBounds, hs, h]
theorem Act.put_get_ne (a : Act) (d : Option Tmp) (v : Value) (t : Nat) (h : d ≠ some t) : (a.put d v).tmps[t]? = a.tmps[t]? := by
  cases d with
  | none => rfl
  | some d => simp only [Act.put]; rw [Array.getElem?_setIfInBounds_ne (fun e => h (by rw [e]))]

theorem Reg.part_same (L : Nat → Bool) (x : Nat → Value) : ∀ (js : List Nat) (a b : Act), (Reg.part ops L x js a).tmps.size = a.tmps.size ∧ (Reg.part ops L x js a).defers = a.defers := by
  intro js
  induction js with
  | nil => intro a b; exact ⟨rfl, rfl⟩
  | cons j js ih =>
    intro a b
    simp only [Reg.part, List.foldl_cons] at ih ⊢
    obtain ⟨h1, h2⟩ := ih (if L j = true then a.put ((ops[j]?).bind (·.dst)) (x j) else a) a
    rw [h1, h2]
    split
    · exact ⟨Act.put_size .., Act.put_def ..⟩
    · exact ⟨rfl, rfl⟩

/-- A slot that no unlisted operation writes is the same, if all are put. -/
theorem Reg.part_get (L M : Nat → Bool) (x : Nat → Value) (t : Nat) : ∀ (js : List Nat) (a b : Act), a.tmps.size = b.tmps.size → a.tmps[t]? = b.tmps[t]? →
    (∀ j ∈ js, (ops[j]?).bind (·.dst) = some t → L j = true ∧ M j = true) → (Reg.part ops L x js a).tmps[t]? = (Reg.part ops M x js b).tmps[t]? := by
  intro js
  induction js with
  | nil => intro a b _ h _; exact h
  | cons j js ih =>
    intro a b hs h hl
    simp only [Reg.part, List.foldl_cons] at ih ⊢
    have hsz : ∀ (c : Bool) (a : Act), (if c = true then a.put ((ops[j]?).bind (·.dst)) (x j) else a).tmps.size = a.tmps.size := fun c a => by
      cases c <;> simp [Act.put_size]
    refine ih _ _ (by rw [hsz, hsz]; exact hs) ?_ (fun k hk => hl k (List.mem_cons_of_mem _ hk))
    by_cases hd : (ops[j]?).bind (·.dst) = some t
    · obtain ⟨h1, h2⟩ := hl j (List.mem_cons_self ..) hd
      rw [h1, h2]
      simp only [if_true]
      exact Act.put_get a b _ _ t hs h
    · have e : ∀ (c : Bool) (a : Act), (if c = true then a.put ((ops[j]?).bind (·.dst)) (x j) else a).tmps[t]? = a.tmps[t]? := fun c a => by
        cases c
        · simp
        · simpa using Act.put_get_ne a _ _ t hd
      rw [e, e]
      exact h

/-- One more is put. -/
theorem Reg.part_put (L : Nat → Bool) (x : Nat → Value) (i : Nat) (v : Value) (hi : L i = false) (hd : ∀ j, j ≠ i → (ops[j]?).bind (·.dst) = (ops[i]?).bind (·.dst) → (ops[i]?).bind (·.dst) = none) :
    ∀ (js : List Nat) (a : Act), js.Nodup → i ∈ js → Reg.part ops (fun j => L j || j == i) (fun j => if j = i then v else x j) js a = (Reg.part ops L x js a).put ((ops[i]?).bind (·.dst)) v := by
  have comm : ∀ (js : List Nat) (a : Act), i ∉ js → Reg.part ops (fun j => L j || j == i) (fun j => if j = i then v else x j) js (a.put ((ops[i]?).bind (·.dst)) v) = (Reg.part ops L x js a).put ((ops[i]?).bind (·.dst)) v := by
    intro js
    induction js with
    | nil => intro a _; rfl
    | cons j js ih =>
      intro a hn
      simp only [Reg.part, List.foldl_cons] at ih ⊢
      have hji : j ≠ i := fun e => hn (by rw [e]; exact List.mem_cons_self ..)
      have hn' : i ∉ js := fun h => hn (List.mem_cons_of_mem _ h)
      have e1 : (j == i) = false := by simpa using hji
      simp only [e1, Bool.or_false, if_neg hji]
      cases hL : L j
      · simp only [Bool.false_eq_true, if_false]; exact ih a hn'
      · simp only [if_true]
        rw [← ih _ hn']
        congr 1
        cases hdi : (ops[i]?).bind (·.dst) with
        | none => rfl
        | some d =>
          exact Act.put_comm _ _ _ (fun d' h' h'' => by
            injection h' with h'
            subst h'
            have := hd j hji (by rw [h'', hdi])
            rw [hdi] at this
            cases this)
  intro js
  induction js with
  | nil => intro a _ h; cases h
  | cons j js ih =>
    intro a hnd hmem
    obtain ⟨hn, hnd'⟩ := List.nodup_cons.1 hnd
    by_cases hji : j = i
    · subst hji
      have := comm js a hn
      simp only [Reg.part, List.foldl_cons] at this ⊢
      simp only [hi, beq_self_eq_true, Bool.or_true, if_true, Bool.false_eq_true, if_false]
      exact this
    · have hm : i ∈ js := by
        cases hmem with
        | head => exact absurd rfl hji
        | tail _ h => exact h
      have e1 : (j == i) = false := by simpa using hji
      have := fun a => ih a hnd' hm
      simp only [Reg.part, List.foldl_cons] at this ⊢
      simp only [e1, Bool.or_false, if_neg hji]
      exact this _

theorem Reg.part_congr (L : Nat → Bool) (x y : Nat → Value) : ∀ (js : List Nat) (a : Act), (∀ j ∈ js, x j = y j) → Reg.part ops L x js a = Reg.part ops L y js a := by
  intro js
  induction js with
  | nil => intro a _; rfl
  | cons j js ih =>
    intro a h
    simp only [Reg.part, List.foldl_cons] at ih ⊢
    rw [h j (List.mem_cons_self ..)]
    exact ih _ (fun k hk => h k (List.mem_cons_of_mem _ hk))
theorem Reg.part_list (L M : Nat → Bool) (x : Nat → Value) : ∀ (js : List Nat) (a : Act), (∀ j ∈ js, L j = M j) → Reg.part ops L x js a = Reg.part ops M x js a := by
  intro js
  induction js with
  | nil => intro a _; rfl
  | cons j js ih =>
    intro a h
    simp only [Reg.part, List.foldl_cons] at ih ⊢
    rw [h j (List.mem_cons_self ..)]
    exact ih _ (fun k hk => h k (List.mem_cons_of_mem _ hk))

/-- An operation that goes in one act goes in another one where its operands are the same; what it yields is put. -/
theorem Reg.wp_swap {o : Oper} {a b : Act} {w : World} {R : Value → World → Prop} (hs : Reg.select o.op = false) (hsz : a.tmps.size = b.tmps.size) (he : ∀ x ∈ o.op.operands, a.eval x = b.eval x)
    (h : Oper.wp P o a w (fun a' w' => ∃ v, a' = a.put o.dst v ∧ R v w') (fun _ _ _ => False)) :
    Oper.wp P o b w (fun b' w' => ∃ v, b' = b.put o.dst v ∧ R v w') Q := by
  have hsel : ∀ cs bl, o.op ≠ .select cs bl := fun cs bl e => by rw [e] at hs; simp [Reg.select] at hs
  have key : ∀ v v', a.put o.dst v = a.put o.dst v' → b.put o.dst v = b.put o.dst v' := fun v v' e => by
    cases hd : o.dst with
    | none => rfl
    | some d =>
      rw [hd] at e
      simp only [Act.put] at e ⊢
      by_cases hlt : d < a.tmps.size
      · have h1 := congrArg (fun z : Act => z.tmps[d]?) e
        simp [hlt] at h1
        rw [h1]
      · have hb : ¬ d < b.tmps.size := hsz ▸ hlt
        simp [Array.setIfInBounds, hb]
  unfold Oper.wp at *
  rw [execOp_congr o hsel he] at h
  generalize (execOp b.eval o).run P w = r at *
  cases r with
  | ok n w' =>
    cases n <;> simp only [Oper.upon] at h ⊢
    case value v => obtain ⟨v', e, hR⟩ := h; exact ⟨v', key _ _ e, hR⟩
    case skip => obtain ⟨v', e, hR⟩ := h; exact ⟨v', key _ _ e, hR⟩
    case defer d =>
      obtain ⟨v', e, _⟩ := h
      have h1 := congrArg (fun z : Act => z.defers.length) e
      simp [Act.put_def] at h1
    case enter f args =>
      refine Calls.mono h (fun e w'' he => ?_)
      cases e with
      | returned v => obtain ⟨v', e, hR⟩ := he; exact ⟨v', key _ _ e, hR⟩
      | panicked c => exact he.elim
      | outgrown => obtain ⟨_, _, hf⟩ := he; exact hf.elim
    case row r args => refine Rows.mono h (fun v w'' he => ?_); obtain ⟨v', e, hR⟩ := he; exact ⟨v', key _ _ e, hR⟩
  | halt x w' => cases x <;> simp only [Oper.upon] at h <;> exact h.elim

/-- Of the values only those are shown that stand ahead of operation j, and its own. -/
def Reg.shown (A : List (List Nat)) (j : Nat) (x : Nat → Value) : Nat → Value := fun k => bif k == j || (A.getD j []).contains k then x k else undef
/-- What is known of each operation of a list. -/
def Reg.Each (p : Nat → Prop) : List Nat → Prop
  | [] => True
  | j :: js => p j ∧ Reg.Each p js
theorem Reg.each_iff {p : Nat → Prop} : ∀ {js : List Nat}, Reg.Each p js ↔ ∀ j ∈ js, p j
  | [] => by simp [Reg.Each]
  | j :: js => by simp only [Reg.Each, List.forall_mem_cons, Reg.each_iff]

theorem Reg.shown_upd (A : List (List Nat)) (i j : Nat) (x : Nat → Value) (v : Value) (hj : j ≠ i) (hA : (A.getD j []).contains i = false) : Reg.shown A j (fun k => if k = i then v else x k) = Reg.shown A j x := by
  funext k
  unfold Reg.shown
  by_cases hk : k = i
  · subst hk
    have : (k == j) = false := by simpa using Ne.symm hj
    simp only [this, hA, Bool.or_self, cond_false]
  · simp only [if_neg hk]

/-- All operations that are ready are met, each with all that stand ahead of it; then all are listed. -/
theorem Reg.wpAny_inv (A : List (List Nat)) (hok : Reg.ok ops A = true) (I : (Nat → Bool) → Act → World → Prop)
    (hstep : ∀ (L : Nat → Bool) a w i o, ops[i]? = some o → L i = false → (∀ j ∈ A.getD i [], L j = true) → (∀ j, j < ops.size → L j = true → ∀ k ∈ A.getD j [], L k = true) → I L a w → wpOp P ops Q i (I (fun j => L j || j == i)) a w)
    (hend : ∀ (L : Nat → Bool) a w, (∀ j, j < ops.size → L j = true) → I L a w → Q .normal a w) :
    ∀ (fuel : Nat) (listed : Array Bool) (a : Act) (w : World), listed.size = ops.size → (listed.toList.filter (! ·)).length = fuel →
      (∀ j, j < ops.size → listed.getD j true = true → ∀ k ∈ A.getD j [], listed.getD k false = true) →
      I (fun j => listed.getD j true) a w → wpAny P .any ops Q fuel listed a w := by
  have hdone : ∀ (listed : Array Bool), listed.size = ops.size → Region.ready .any ops listed = [] → ∀ j, j < ops.size → listed.getD j true = true := by
    intro listed hsz hr j
    induction j using Nat.strongRecOn with
    | ind j ih =>
      intro hj
      cases hl : listed.getD j true with
      | true => rfl
      | false =>
        exfalso
        have : j ∈ Region.ready .any ops listed := by
          refine mem_ready.2 ⟨hl, ops[j], by simp [hj], fun e he hb => ?_⟩
          have hoka := Reg.ok_at hok (i := j) (o := ops[j]) (by simp [hj])
          simp only [Reg.okAt, Bool.and_eq_true, List.all_eq_true, decide_eq_true_eq] at hoka
          have hlt := hoka.1.1.1 e.on (by
            unfold Reg.deps
            exact List.mem_filterMap.2 ⟨e, by simpa using he, by simp [hb]⟩)
          have := ih e.on hlt (by omega)
          have hlt' : e.on < listed.size := by omega
          simpa [hlt'] using this
        rw [hr] at this
        cases this
  have hA : ∀ (listed : Array Bool), listed.size = ops.size → (∀ j, j < ops.size → listed.getD j true = true → ∀ k ∈ A.getD j [], listed.getD k false = true) → ∀ i o, ops[i]? = some o → i ∈ Region.ready .any ops listed → ∀ j ∈ A.getD i [], listed.getD j false = true := by
    intro listed hsz hcl i o ho hi j hj
    obtain ⟨_, o', ho', hall⟩ := mem_ready.1 hi
    rw [ho] at ho'
    injection ho' with ho'
    subst ho'
    have hoka := Reg.ok_at hok ho
    simp only [Reg.okAt, Bool.and_eq_true, List.all_eq_true] at hoka
    have h1 := hoka.1.1.2 j hj
    obtain ⟨k, hk, hkj⟩ := List.any_eq_true.1 h1
    have hkl : listed.getD k false = true := by
      unfold Reg.deps at hk
      obtain ⟨e, he, heq⟩ := List.mem_filterMap.1 hk
      split at heq
      · rename_i hb
        injection heq with heq
        subst heq
        exact hall e (by simpa using he) hb
      · cases heq
    simp only [Bool.or_eq_true, beq_iff_eq] at hkj
    rcases hkj with rfl | hkj
    · exact hkl
    · have hks : k < listed.size := by
        rcases Nat.lt_or_ge k listed.size with h | h
        · exact h
        · simp [Array.getElem?_eq_none h] at hkl
      exact hcl k (by omega) (by simpa [hks] using hkl) j (by simpa using hkj)
  intro fuel
  induction fuel with
  | zero =>
    intro listed a w hsz hf hcl hI
    have hall : ∀ j, j < ops.size → listed.getD j true = true := by
      intro j hj
      have h0 := List.filter_eq_nil_iff.1 (List.eq_nil_of_length_eq_zero hf)
      have hm : listed[j]'(by omega) ∈ listed.toList := by simp
      have := h0 _ hm
      have hj' : j < listed.size := by omega
      simpa [hj'] using this
    refine ⟨?_, hend _ a w hall hI⟩
    rw [List.eq_nil_iff_forall_not_mem]
    intro i hi
    obtain ⟨h0, o, ho, _⟩ := mem_ready.1 hi
    rw [hall i (Array.getElem?_eq_some_iff.1 ho).1] at h0
    cases h0
  | succ fuel ih =>
    intro listed a w hsz hf hcl hI
    refine ⟨fun hr => hend _ a w (hdone listed hsz hr) hI, fun i hi => ?_⟩
    obtain ⟨hli, o, ho, _⟩ := mem_ready.1 hi
    have his : i < ops.size := (Array.getElem?_eq_some_iff.1 ho).1
    have hil : i < listed.size := by omega
    have hAi := hA listed hsz hcl i o ho hi
    have hstep' := hstep (fun j => listed.getD j true) a w i o ho hli (fun j hj => by
      have h := hAi j hj
      have hjs : j < listed.size := by
        rcases Nat.lt_or_ge j listed.size with h' | h'
        · exact h'
        · simp [Array.getElem?_eq_none h'] at h
      simpa [hjs] using h) (fun j hj hlj k hk => by
      have h := hcl j hj hlj k hk
      have hks : k < listed.size := by
        rcases Nat.lt_or_ge k listed.size with h' | h'
        · exact h'
        · simp [Array.getElem?_eq_none h'] at h
      simpa [hks] using h) hI
    have hL : (fun j => listed.getD j true || j == i) = fun j => (listed.setIfInBounds i true).getD j true := by
      funext j
      by_cases hji : i = j
      · subst hji; simp [hil]
      · rw [getD_set_ne true hji]
        have : (j == i) = false := by simpa using Ne.symm hji
        rw [this, Bool.or_false]
    rw [hL] at hstep'
    refine wpOp_mono (fun a' w' h' => ih _ a' w' (by simpa using hsz) ?_ ?_ h') hstep'
    · have hl0 : listed[i] = false := by simpa [hil] using hli
      have e : (listed.setIfInBounds i true).toList = listed.toList.set i true := by simp
      rw [e]
      have hcount : ∀ (l : List Bool) (i : Nat) (h : i < l.length), l[i] = false → ((l.set i true).filter (! ·)).length + 1 = (l.filter (! ·)).length := by
        intro l
        induction l with
        | nil => intro i h; simp at h
        | cons b l ihl =>
          intro i h hb
          cases i with
          | zero => simp at hb; subst hb; simp
          | succ i =>
            have := ihl i (by simpa using h) (by simpa using hb)
            cases b <;> simp at this ⊢ <;> omega
      have := hcount listed.toList i (by simpa using hil) (by simpa using hl0)
      omega
    · intro j hj hlj k hk
      by_cases hji : i = j
      · subst hji
        exact getD_set_true (hAi k hk)
      · rw [getD_set_ne true hji] at hlj
        exact getD_set_true (hcl j hj hlj k hk)

/-- All of them, those whose values are known by these. -/
def Reg.fillV : List Oper → List (Option Value) → Nat → (Nat → Value) → Act → Act
  | [], _, _, _, a => a
  | o :: os, [], j, x, a => Reg.fillV os [] (j + 1) x (a.put o.dst (x j))
  | o :: os, none :: vs, j, x, a => Reg.fillV os vs (j + 1) x (a.put o.dst (x j))
  | o :: os, some v :: vs, j, x, a => Reg.fillV os vs (j + 1) x (a.put o.dst v)
def Reg.known (vals : List (Option Value)) (j : Nat) : Option Value := vals.getD j none
theorem Reg.fillV_eq (x : Nat → Value) : ∀ (os : List Oper) (vs : List (Option Value)) (j : Nat) (a : Act) (pre : List Oper), pre.length = j → (∀ k c, k < os.length → vs.getD k none = some c → x (j + k) = c) →
    Reg.fillV os vs j x a = Reg.part (pre ++ os).toArray (fun _ => true) x (List.range' j os.length) a := by
  intro os
  induction os with
  | nil => intro vs j a pre _ _; simp [Reg.fillV, Reg.part]
  | cons o os ih =>
    intro vs j a pre hp hx
    have hat : ((pre ++ o :: os).toArray[j]?).bind (·.dst) = o.dst := by
      have : (pre ++ o :: os).toArray[j]? = some o := by
        simp [hp]
      rw [this]; rfl
    have hgo : ∀ vs', (∀ k c, k < os.length → vs'.getD k none = some c → x (j + 1 + k) = c) → Reg.fillV os vs' (j + 1) x (a.put o.dst (x j)) = Reg.part (pre ++ o :: os).toArray (fun _ => true) x (List.range' j (o :: os).length) a := by
      intro vs' hv
      rw [ih vs' (j + 1) _ (pre ++ [o]) (by simp [hp]) hv]
      simp only [List.append_assoc, List.singleton_append, List.length_cons, List.range'_succ]
      simp only [Reg.part, List.foldl_cons, if_true, hat]
    cases vs with
    | nil => exact hgo [] (by simp)
    | cons v vs =>
      have htl : ∀ k c, k < os.length → vs.getD k none = some c → x (j + 1 + k) = c := fun k c hk hc => by
        have := hx (k + 1) c (by simpa using hk) (by simpa using hc)
        rwa [show j + 1 + k = j + (k + 1) by omega]
      cases v with
      | none => exact hgo vs htl
      | some v =>
        have h0 : x j = v := by simpa using hx 0 v (by simp) (by simp)
        have := hgo vs htl
        rw [h0] at this
        exact this
theorem Reg.fillV_fill (vals : List (Option Value)) (x : Nat → Value) (a : Act) (hx : ∀ j c, Reg.known vals j = some c → x j = c) : Reg.fillV ops.toList vals 0 x a = Reg.fill ops x a := by
  have := Reg.fillV_eq x ops.toList vals 0 a [] rfl (fun k c _ hc => by rw [Nat.zero_add]; exact hx k c hc)
  rw [this]
  simp [Reg.fill, List.range_eq_range']

/-- The posts that operation i may use: they stand ahead of it, and nothing that may be behind them has struck them. -/
def Reg.usesOk (ops : Array Oper) (A : List (List Nat)) (ws : List Nat) (kill uses : List (List Nat)) (loud fin killF noF ini : List Nat) : Bool :=
  (ini.all fun j => decide (ops.size ≤ j) && (A.getD j []).isEmpty) &&
  ((List.range ops.size).all fun i => if noF.contains i then !loud.contains i || killF.contains i || killF.any (fun k => (A.getD i []).contains k) else killF.all fun k => k == i || (decide (k < ops.size) && (A.getD k []).contains i)) &&
  ((List.range ops.size).all fun i => (uses.getD i []).all fun j => ((A.getD i []).contains j || ini.contains j) && ws.contains j && (List.range ops.size).all fun k => !(kill.getD k []).contains j || k == i || (A.getD k []).contains i) &&
  (fin.all fun j => (decide (j < ops.size) || ini.contains j) && ws.contains j && (List.range ops.size).all fun k => !(kill.getD k []).contains j) &&
  ((List.range ops.size).all fun i => (kill.getD i []).all fun j => (A.getD i []).contains j || ini.contains j)

/-- What is to be shown of operation i. -/
def Reg.Ob (P : Program) (A : List (List Nat)) (loud ws : List Nat) (uses : List (List Nat)) (killF noF : List Nat) (vals : List (Option Value)) (F : World → Prop) (W : Nat → (Nat → Value) → World → Prop) (E : Nat → World → World → Prop) (ops : Array Oper) (T : (Nat → Value) → Act) (i : Nat) (o : Oper) : Prop :=
  ∀ x w, (noF.contains i = false → F w) → Reg.Each (fun j => W j (Reg.shown A j x) w) (uses.getD i []) →
    ∀ K : Act → World → Prop, (∀ v w', (loud.contains i = true → killF.contains i = false → noF.contains i = false → F w') → (if loud.contains i then E i w w' else w' = w) → (∀ c, Reg.known vals i = some c → v = c) → (ws.contains i = true → W i (Reg.shown A i (fun k => if k = i then v else x k)) w') → K ((T x).put o.dst v) w') →
      (Region.wanted o (yielded ops (T x).tmps) = true → Oper.wp P o (T x) w K (fun _ _ _ => False)) ∧
      (Region.wanted o (yielded ops (T x).tmps) = false → (if loud.contains i then E i w w else True) ∧ (∀ c, Reg.known vals i = some c → undef = c) ∧ (ws.contains i = true → W i (Reg.shown A i (fun k => if k = i then undef else x k)) w))

/-- A region that draws its order. 'vals': the values of those operations whose values are known. W tells of those in ws what is known of their values, and of the world behind them; F of the world throughout. Those in 'loud' may change the world, as E says; all others leave it. kill i: of which operations what W tells may no longer hold behind i. uses i: of which operations what W tells is used at i; fin: at the end. -/
theorem wp_region_posts {id : Nat} {a : Act} {w : World} (A : List (List Nat)) (loud ws : List Nat) (kill uses : List (List Nat)) (fin killF noF ini : List Nat) (vals : List (Option Value)) (T : (Nat → Value) → Act) (F : World → Prop) (W : Nat → (Nat → Value) → World → Prop) (E : Nat → World → World → Prop)
    (hm : P.follows .mixedOrders = true) (hok : Reg.ok ops A = true) (huse : Reg.usesOk ops A ws kill uses loud fin killF noF ini = true)
    (hT : ∀ x, Reg.fillV ops.toList vals 0 x a = T x)
    (hF : F w.drew) (hini : Reg.Each (fun j => ∀ x, W j x w.drew) ini)
    (hrun : ∀ i o, ops[i]? = some o → Reg.Ob P A loud ws uses killF noF vals F W E ops T i o)
    (hpres : ∀ i ∈ loud, ∀ j ∈ ws, (j != i && !(A.getD j []).contains i && !(kill.getD i []).contains j) = true → ∀ x w w', (noF.contains i = false → F w) → E i w w' → W j x w → W j x w')
    (hend : ∀ x w, (killF = [] → F w) → Reg.Each (fun j => W j (Reg.shown A j x) w) fin → Q .normal (T x) w) :
    (Code.region id ops true).wp P Q a w := by
  refine wp_region_any hm ?_
  simp only [Reg.usesOk, Bool.and_eq_true, List.all_eq_true, List.mem_range] at huse
  obtain ⟨⟨⟨⟨hui, huF⟩, hu1⟩, hu2⟩, hkill⟩ := huse
  let I : (Nat → Bool) → Act → World → Prop := fun L a' w' => ((∀ k ∈ killF, L k = false) → F w') ∧ ∃ x, (∀ j c, Reg.known vals j = some c → x j = c) ∧ a' = Reg.part ops L x (List.range ops.size) a ∧ (∀ j, (j < ops.size ∧ L j = true) ∨ ini.contains j = true → ws.contains j = true → (∀ k, k < ops.size → (kill.getD k []).contains j = true → L k = false) → W j (Reg.shown A j x) w')
  refine Reg.wpAny_inv A hok I ?_ ?_ ops.size (Array.replicate ops.size false) a w.drew (by simp) (by simp) ?_ ?_
  · rintro L a' w' i o ho hLi hLA hclosed ⟨hF0, x, hN, rfl, hW⟩
    have hoka := Reg.ok_at hok ho
    simp only [Reg.okAt, Bool.and_eq_true, List.all_eq_true, List.mem_range] at hoka
    obtain ⟨⟨⟨ho1, ho2⟩, ho3⟩, ho4⟩ := hoka
    have his : i < ops.size := (Array.getElem?_eq_some_iff.1 ho).1
    have hdst : (ops[i]?).bind (·.dst) = o.dst := by rw [ho]; rfl
    have hF' : noF.contains i = false → F w' := fun hno => hF0 (fun k hk => by
      have hu := huF i his
      rw [hno] at hu
      simp only [Bool.false_eq_true, if_false, List.all_eq_true, Bool.or_eq_true, beq_iff_eq, Bool.and_eq_true, decide_eq_true_eq] at hu
      rcases hu k hk with h | ⟨h1, h2⟩
      · subst h; exact hLi
      · cases hLk : L k with
        | false => rfl
        | true =>
          have := hclosed k h1 hLk i (by simpa using h2)
          rw [hLi] at this
          cases this)
    have hAlt : ∀ j ∈ A.getD i [], j < ops.size := by
      intro j hj
      obtain ⟨k, hk, hkj⟩ := List.any_eq_true.1 (ho2 j hj)
      have : ∀ n i, i < n → ∀ o, ops[i]? = some o → ∀ j ∈ A.getD i [], j < i := by
        intro n
        induction n with
        | zero => intro i h; omega
        | succ n ih =>
          intro i hi o ho j hj
          have hoka := Reg.ok_at hok ho
          simp only [Reg.okAt, Bool.and_eq_true, List.all_eq_true] at hoka
          obtain ⟨k, hk, hkj⟩ := List.any_eq_true.1 (hoka.1.1.2 j hj)
          have hki := hoka.1.1.1 k hk
          simp only [decide_eq_true_eq] at hki
          simp only [Bool.or_eq_true, beq_iff_eq] at hkj
          rcases hkj with rfl | hkj
          · exact hki
          · have hk' : k < ops.size := by have := (Array.getElem?_eq_some_iff.1 ho).1; omega
            have := ih k (by omega) ops[k] (by simp [hk']) j (by simpa using hkj)
            omega
      have := this (i + 1) i (by omega) o ho j hj
      omega
    -- the slots that the operation looks at are as if all were put
    have hlook : ∀ t ∈ o.looksAt ops, (Reg.part ops L x (List.range ops.size) a).tmps[t]? = (Reg.fill ops x a).tmps[t]? := by
      intro t ht
      refine Reg.part_get L (fun _ => true) x t _ a a rfl rfl (fun j hj hd => ⟨?_, rfl⟩)
      have h3 := ho3 j (List.mem_range.1 hj)
      rw [hd] at h3
      simp only [Bool.and_eq_true, Bool.or_eq_true, Bool.not_eq_true', List.contains_eq_mem, decide_eq_true_eq, decide_eq_false_iff_not] at h3
      rcases h3.1 with h | h
      · exact absurd ht h
      · exact hLA j h
    have hev : ∀ y ∈ o.op.operands, (Reg.fill ops x a).eval y = (Reg.part ops L x (List.range ops.size) a).eval y := by
      intro y hy
      cases y with
      | tmp t =>
        have := hlook t (by
          unfold Oper.looksAt
          exact List.mem_append_left _ (List.mem_filterMap.2 ⟨.tmp t, by simpa using hy, rfl⟩))
        simp [Act.eval, this]
      | _ => rfl
    have hwant : Region.wanted o (yielded ops (Reg.fill ops x a).tmps) = Region.wanted o (yielded ops (Reg.part ops L x (List.range ops.size) a).tmps) := by
      unfold Region.wanted
      cases hg : o.guard with
      | none => rfl
      | some gw =>
        obtain ⟨g, want⟩ := gw
        have : yielded ops (Reg.fill ops x a).tmps g = yielded ops (Reg.part ops L x (List.range ops.size) a).tmps g := by
          unfold yielded
          cases ht : (ops[g]?).bind (·.dst) with
          | none => rfl
          | some t =>
            have := hlook t (by
              unfold Oper.looksAt
              exact List.mem_append_right _ (by simp [hg, ht]))
            simp [this]
        simp only [this]
    have hsz : (Reg.fill ops x a).tmps.size = (Reg.part ops L x (List.range ops.size) a).tmps.size := by
      rw [(Reg.part_same L x _ a a).1]
      exact (Reg.part_same (fun _ => true) x _ a a).1
    -- the value is put: what is known then
    have hafter : ∀ v w'', (loud.contains i = true → killF.contains i = false → noF.contains i = false → F w'') → (if loud.contains i then E i w' w'' else w'' = w') → (∀ c, Reg.known vals i = some c → v = c) → (ws.contains i = true → W i (Reg.shown A i (fun k => if k = i then v else x k)) w'') →
        I (fun j => L j || j == i) ((Reg.part ops L x (List.range ops.size) a).put o.dst v) w'' := by
      intro v w'' hF'' hE hVi hWi
      have hFn : (∀ k ∈ killF, (fun j => L j || j == i) k = false) → F w'' := by
        intro hk
        cases hl : loud.contains i with
        | false =>
          rw [hl] at hE
          simp only [Bool.false_eq_true, if_false] at hE
          rw [hE]
          exact hF0 (fun k hkk => by
            have := hk k hkk
            simp only [Bool.or_eq_false_iff] at this
            exact this.1)
        | true =>
          have hki : killF.contains i = false := by
            cases hc : killF.contains i with
            | false => rfl
            | true =>
              have := hk i (by simpa using hc)
              simp at this
          cases hno : noF.contains i with
          | false => exact hF'' hl hki hno
          | true =>
            exfalso
            have hu := huF i his
            rw [hno, hl, hki] at hu
            simp only [if_true, Bool.not_true, Bool.or_self, Bool.false_or, List.any_eq_true] at hu
            obtain ⟨k, hk1, hk2⟩ := hu
            have h1 := hk k hk1
            have h2 := hLA k (by simpa using hk2)
            simp [h2] at h1
      refine ⟨hFn, fun k => if k = i then v else x k, ?_, ?_, ?_⟩
      · intro j c hc
        by_cases hji : j = i
        · subst hji; simpa using hVi c hc
        · simpa [hji] using hN j c hc
      · rw [← hdst]
        refine (Reg.part_put L x i v hLi ?_ _ a List.nodup_range (List.mem_range.2 his)).symm
        intro j hji hdj
        rcases Nat.lt_or_ge j ops.size with hjs | hjs
        · have h3 := ho3 j hjs
          cases hdi : (ops[i]?).bind (·.dst) with
          | none => rfl
          | some t =>
            rw [hdj, hdi] at h3
            simp only [Bool.and_eq_true, Bool.or_eq_true, beq_iff_eq, hji, false_or] at h3
            rw [← hdst, hdi] at h3
            simp at h3
        · rw [← hdj]; simp [Array.getElem?_eq_none hjs]
      · intro j hj hjw hk
        by_cases hji : j = i
        · subst hji; exact hWi hjw
        · have hj' : (j < ops.size ∧ L j = true) ∨ ini.contains j = true := by
            have : (j == i) = false := by simpa using hji
            rcases hj with ⟨h1, h2⟩ | h
            · exact .inl ⟨h1, by simpa [this] using h2⟩
            · exact .inr h
          have hnot : (A.getD j []).contains i = false := by
            cases hc : (A.getD j []).contains i with
            | false => rfl
            | true =>
              rcases hj' with ⟨hj1, hLj'⟩ | h
              · have := hclosed j hj1 hLj' i (by simpa using hc)
                rw [hLi] at this
                cases this
              · have := (hui j (by simpa using h)).2
                rw [List.isEmpty_iff] at this
                rw [this] at hc
                simp at hc
          rw [Reg.shown_upd A i j x v hji hnot]
          have h0 := hW j hj' hjw (fun k hkk hc => by
            have := hk k hkk hc
            simp only [Bool.or_eq_false_iff] at this
            exact this.1)
          have hki : (kill.getD i []).contains j = false := by
            cases hc : (kill.getD i []).contains j with
            | false => rfl
            | true =>
              have := hk i his hc
              simp at this
          cases hl : loud.contains i with
          | false => rw [hl] at hE; simp only [Bool.false_eq_true, if_false] at hE; rw [hE]; exact h0
          | true => rw [hl] at hE; simp only [if_true] at hE; exact hpres i (by simpa using hl) j (by simpa using hjw) (by rw [hnot, hki]; simpa using hji) _ w' w'' hF' hE h0
    have hTx : T x = Reg.fill ops x a := by rw [← hT x]; exact Reg.fillV_fill vals x a hN
    have hr := hrun i o ho x w' hF' (Reg.each_iff.2 fun j hj => by
      have h := hu1 i his j hj
      obtain ⟨⟨hj1, hj2⟩, hj3⟩ := h
      have hj1 : (j < ops.size ∧ L j = true) ∨ ini.contains j = true := by
        rw [Bool.or_eq_true] at hj1
        rcases hj1 with h | h
        · have h : j ∈ A.getD i [] := by simpa using h
          exact .inl ⟨hAlt j h, hLA j h⟩
        · exact .inr h
      refine hW j hj1 hj2 (fun k hk hc => ?_)
      have hj4 := hj3 k hk
      simp only [Bool.or_eq_true, Bool.not_eq_true'] at hj4
      rcases hj4 with (h | h) | h
      · rw [hc] at h; cases h
      · rw [beq_iff_eq] at h; subst h; exact hLi
      · cases hLk : L k with
        | false => rfl
        | true =>
          have := hclosed k hk hLk i (by simpa using h)
          rw [hLi] at this
          cases this)
    rw [hTx] at hr
    unfold wpOp
    simp only [ho]
    rw [hwant] at hr
    split
    · rename_i hw
      refine .inl (Oper.wp_mono ?_ (Reg.wp_swap (a := Reg.fill ops x a) (R := fun v w'' => (loud.contains i = true → killF.contains i = false → noF.contains i = false → F w'') ∧ (if loud.contains i then E i w' w'' else w'' = w') ∧ (∀ c, Reg.known vals i = some c → v = c) ∧ (ws.contains i = true → W i (Reg.shown A i (fun k => if k = i then v else x k)) w'')) (by simpa using ho4) hsz hev ((hr _ (fun v w'' h1 h2 h3 h4 => ⟨v, rfl, h1, h2, h3, h4⟩)).1 hw)))
      rintro b w'' ⟨v, rfl, h1, h2, h3, h4⟩
      exact hafter v w'' h1 h2 h3 h4
    · rename_i hw
      obtain ⟨h2, h3, h4⟩ := (hr (fun _ _ => True) (fun _ _ _ _ _ _ => trivial)).2 (by simpa using hw)
      refine hafter undef w' (fun _ _ hno => hF' hno) ?_ h3 h4
      cases hl : loud.contains i with
      | false => simp
      | true => rw [hl] at h2; simpa using h2
  · rintro L a' w' hall ⟨hF', x, hN, rfl, hW⟩
    have e : Reg.part ops L x (List.range ops.size) a = Reg.fill ops x a := Reg.part_list _ _ _ _ _ (fun j hj => hall j (List.mem_range.1 hj))
    rw [e]
    have hTx : T x = Reg.fill ops x a := by rw [← hT x]; exact Reg.fillV_fill vals x a hN
    rw [← hTx]
    refine hend x w' (fun h => hF' (by rw [h]; simp)) (Reg.each_iff.2 fun j hj => ?_)
    have h := hu2 j hj
    obtain ⟨⟨hj1, hj2⟩, hj3⟩ := h
    have hj1 : (j < ops.size ∧ L j = true) ∨ ini.contains j = true := by
      rw [Bool.or_eq_true] at hj1
      rcases hj1 with h | h
      · have h : j < ops.size := by simpa using h
        exact .inl ⟨h, hall j h⟩
      · exact .inr h
    exact hW j hj1 hj2 (fun k hk hc => by
      have := hj3 k hk
      rw [hc] at this
      cases this)
  · intro j hj h
    simp [hj] at h
  · refine ⟨fun _ => hF, fun j => (Reg.known vals j).getD undef, fun j c hc => by simp [hc], ?_, ?_⟩
    · have : ∀ (js : List Nat), (∀ j ∈ js, j < ops.size) → Reg.part ops (fun j => (Array.replicate ops.size false).getD j true) (fun j => (Reg.known vals j).getD undef) js a = a := by
        intro js
        induction js with
        | nil => intro _; rfl
        | cons j js ih =>
          intro h
          have hj := h j (List.mem_cons_self ..)
          have := ih (fun k hk => h k (List.mem_cons_of_mem _ hk))
          simp only [Reg.part, List.foldl_cons] at this ⊢
          have e : (Array.replicate ops.size false).getD j true = false := by simp [hj]
          rw [e]
          simpa using this
      exact (this _ (fun j hj => List.mem_range.1 hj)).symm
    · intro j hj hjw hk
      rcases hj with ⟨hj, h⟩ | h
      · simp [hj] at h
      · exact Reg.each_iff.1 hini j (by simpa using h) _

/-- What is to be shown of each operation, one behind the other. -/
def Reg.EachOp (p : Nat → Oper → Prop) : List Oper → Nat → Prop
  | [], _ => True
  | o :: os, k => p k o ∧ Reg.EachOp p os (k + 1)
theorem Reg.eachOp {p : Nat → Oper → Prop} : ∀ {os : List Oper} {k : Nat}, Reg.EachOp p os k → ∀ i o, os[i]? = some o → p (k + i) o
  | [], _, _, i, o, h => by simp at h
  | o' :: os, k, h, 0, o, ho => by simp at ho; subst ho; exact h.1
  | o' :: os, k, h, i + 1, o, ho => by
    have := Reg.eachOp h.2 i o (by simpa using ho)
    rwa [show k + (i + 1) = k + 1 + i by omega]
theorem Reg.all_ops {p : Nat → Oper → Prop} (h : Reg.EachOp p ops.toList 0) : ∀ i o, ops[i]? = some o → p i o := fun i o ho => by
  have := Reg.eachOp h i o (by simpa using ho)
  rwa [Nat.zero_add] at this

section
variable {A : List (List Nat)} {loud ws : List Nat} {uses : List (List Nat)} {killF noF : List Nat} {vals : List (Option Value)} {F : World → Prop} {W : Nat → (Nat → Value) → World → Prop} {E : Nat → World → World → Prop} {T : (Nat → Value) → Act} {i : Nat} {o : Oper}
/-- An operation that yields a value, whatever the world that meets F. -/
theorem Reg.ob_pure {c : Value} (hg : ∀ x, Region.wanted o (yielded ops (T x).tmps) = true) (hv : Reg.known vals i = some c) (hl : loud.contains i = false) (hw : ws.contains i = false) (hno : noF.contains i = false)
    (h : ∀ x w, F w → (execOp (T x).eval o).run P w = .ok (.value c) w) : Reg.Ob P A loud ws uses killF noF vals F W E ops T i o := by
  intro x w hF _ K hK
  refine ⟨fun _ => ?_, fun hwant => by rw [hg] at hwant; cases hwant⟩
  unfold Oper.wp
  rw [h x w (hF hno)]
  simp only [Oper.upon]
  refine hK c w (fun _ _ hno => hF hno) ?_ ?_ ?_
  · rw [hl]; simp
  · intro c' hc'; rw [hv] at hc'; injection hc'
  · intro h; rw [hw] at h; cases h
/-- An operation that yields a value, whatever the world. -/
theorem Reg.ob_bare {c : Value} (hg : ∀ x, Region.wanted o (yielded ops (T x).tmps) = true) (hv : Reg.known vals i = some c) (hl : loud.contains i = false) (hw : ws.contains i = false)
    (h : ∀ x w, (execOp (T x).eval o).run P w = .ok (.value c) w) : Reg.Ob P A loud ws uses killF noF vals F W E ops T i o := by
  intro x w hF _ K hK
  refine ⟨fun _ => ?_, fun hwant => by rw [hg] at hwant; cases hwant⟩
  unfold Oper.wp
  rw [h x w]
  simp only [Oper.upon]
  refine hK c w (fun h => by rw [hl] at h; cases h) ?_ ?_ ?_
  · rw [hl]; simp
  · intro c' hc'; rw [hv] at hc'; injection hc'
  · intro h; rw [hw] at h; cases h
/-- An operation that is met by a contract, or otherwise: its value is known. -/
theorem Reg.ob_known {c : Value} (hg : ∀ x, Region.wanted o (yielded ops (T x).tmps) = true) (hv : Reg.known vals i = some c) (hw : ws.contains i = false)
    (h : ∀ x w, (noF.contains i = false → F w) → Reg.Each (fun j => W j (Reg.shown A j x) w) (uses.getD i []) → ∀ K : Act → World → Prop, (∀ w', (loud.contains i = true → killF.contains i = false → noF.contains i = false → F w') → (if loud.contains i then E i w w' else w' = w) → K ((T x).put o.dst c) w') → Oper.wp P o (T x) w K (fun _ _ _ => False)) : Reg.Ob P A loud ws uses killF noF vals F W E ops T i o := by
  intro x w hF hU K hK
  refine ⟨fun _ => h x w hF hU K (fun w' h1 h2 => hK c w' h1 h2 (fun c' hc' => by rw [hv] at hc'; injection hc') (fun h => by rw [hw] at h; cases h)), fun hwant => by rw [hg] at hwant; cases hwant⟩
/-- An operation whose guard says no. -/
theorem Reg.ob_skip (hg : ∀ x, Region.wanted o (yielded ops (T x).tmps) = false) (hv : Reg.known vals i = some undef) (hl : loud.contains i = false) (hw : ws.contains i = false) : Reg.Ob P A loud ws uses killF noF vals F W E ops T i o := by
  intro x w hF hU K hK
  refine ⟨(fun hwant => by rw [hg] at hwant; cases hwant), fun _ => ⟨by rw [hl]; simp, (fun c' hc' => by rw [hv] at hc'; injection hc'), (fun h => by rw [hw] at h; cases h)⟩⟩
/-- An operation of which W tells. -/
theorem Reg.ob_some (hg : ∀ x, Region.wanted o (yielded ops (T x).tmps) = true) (hv : Reg.known vals i = none)
    (h : ∀ x w, (noF.contains i = false → F w) → Reg.Each (fun j => W j (Reg.shown A j x) w) (uses.getD i []) → ∀ K : Act → World → Prop, (∀ v w', (loud.contains i = true → killF.contains i = false → noF.contains i = false → F w') → (if loud.contains i then E i w w' else w' = w) → W i (Reg.shown A i (fun k => if k = i then v else x k)) w' → K ((T x).put o.dst v) w') → Oper.wp P o (T x) w K (fun _ _ _ => False)) : Reg.Ob P A loud ws uses killF noF vals F W E ops T i o := by
  intro x w hF hU K hK
  refine ⟨fun _ => h x w hF hU K (fun v w' h1 h2 h3 => hK v w' h1 h2 (fun c' hc' => by rw [hv] at hc'; cases hc') (fun _ => h3)), fun hwant => by rw [hg] at hwant; cases hwant⟩
end
end
end Go.Proofs.Ytelfeedaadkhnaa

/- A region that does not draw, operation by operation, as Reg has it of one that draws. Conditions: as it says. -/
set_option linter.unusedVariables false
namespace Go.Proofs.Ytelfeedaadkhnaa
open Go
section
variable {P : Program} {ops : Array Oper} {Q : Exit → Act → World → Prop}
/-- As wp_region_posts, of any order. -/
theorem any_posts {a : Act} {w : World} (A : List (List Nat)) (loud ws : List Nat) (kill uses : List (List Nat)) (fin killF noF ini : List Nat) (vals : List (Option Value)) (T : (Nat → Value) → Act) (F : World → Prop) (W : Nat → (Nat → Value) → World → Prop) (E : Nat → World → World → Prop)
    (hok : Reg.ok ops A = true) (huse : Reg.usesOk ops A ws kill uses loud fin killF noF ini = true)
    (hT : ∀ x, Reg.fillV ops.toList vals 0 x a = T x)
    (hF : F w) (hini : Reg.Each (fun j => ∀ x, W j x w) ini)
    (hrun : ∀ i o, ops[i]? = some o → Reg.Ob P A loud ws uses killF noF vals F W E ops T i o)
    (hpres : ∀ i ∈ loud, ∀ j ∈ ws, (j != i && !(A.getD j []).contains i && !(kill.getD i []).contains j) = true → ∀ x w w', (noF.contains i = false → F w) → E i w w' → W j x w → W j x w')
    (hend : ∀ x w, (killF = [] → F w) → Reg.Each (fun j => W j (Reg.shown A j x) w) fin → Q .normal (T x) w) :
    wpAny P .any ops Q ops.size (Array.replicate ops.size false) a w := by
  simp only [Reg.usesOk, Bool.and_eq_true, List.all_eq_true, List.mem_range] at huse
  obtain ⟨⟨⟨⟨hui, huF⟩, hu1⟩, hu2⟩, hkill⟩ := huse
  let I : (Nat → Bool) → Act → World → Prop := fun L a' w' => ((∀ k ∈ killF, L k = false) → F w') ∧ ∃ x, (∀ j c, Reg.known vals j = some c → x j = c) ∧ a' = Reg.part ops L x (List.range ops.size) a ∧ (∀ j, (j < ops.size ∧ L j = true) ∨ ini.contains j = true → ws.contains j = true → (∀ k, k < ops.size → (kill.getD k []).contains j = true → L k = false) → W j (Reg.shown A j x) w')
  refine Reg.wpAny_inv A hok I ?_ ?_ ops.size (Array.replicate ops.size false) a w (by simp) (by simp) ?_ ?_
  · rintro L a' w' i o ho hLi hLA hclosed ⟨hF0, x, hN, rfl, hW⟩
    have hoka := Reg.ok_at hok ho
    simp only [Reg.okAt, Bool.and_eq_true, List.all_eq_true, List.mem_range] at hoka
    obtain ⟨⟨⟨ho1, ho2⟩, ho3⟩, ho4⟩ := hoka
    have his : i < ops.size := (Array.getElem?_eq_some_iff.1 ho).1
    have hdst : (ops[i]?).bind (·.dst) = o.dst := by rw [ho]; rfl
    have hF' : noF.contains i = false → F w' := fun hno => hF0 (fun k hk => by
      have hu := huF i his
      rw [hno] at hu
      simp only [Bool.false_eq_true, if_false, List.all_eq_true, Bool.or_eq_true, beq_iff_eq, Bool.and_eq_true, decide_eq_true_eq] at hu
      rcases hu k hk with h | ⟨h1, h2⟩
      · subst h; exact hLi
      · cases hLk : L k with
        | false => rfl
        | true =>
          have := hclosed k h1 hLk i (by simpa using h2)
          rw [hLi] at this
          cases this)
    have hAlt : ∀ j ∈ A.getD i [], j < ops.size := by
      intro j hj
      obtain ⟨k, hk, hkj⟩ := List.any_eq_true.1 (ho2 j hj)
      have : ∀ n i, i < n → ∀ o, ops[i]? = some o → ∀ j ∈ A.getD i [], j < i := by
        intro n
        induction n with
        | zero => intro i h; omega
        | succ n ih =>
          intro i hi o ho j hj
          have hoka := Reg.ok_at hok ho
          simp only [Reg.okAt, Bool.and_eq_true, List.all_eq_true] at hoka
          obtain ⟨k, hk, hkj⟩ := List.any_eq_true.1 (hoka.1.1.2 j hj)
          have hki := hoka.1.1.1 k hk
          simp only [decide_eq_true_eq] at hki
          simp only [Bool.or_eq_true, beq_iff_eq] at hkj
          rcases hkj with rfl | hkj
          · exact hki
          · have hk' : k < ops.size := by have := (Array.getElem?_eq_some_iff.1 ho).1; omega
            have := ih k (by omega) ops[k] (by simp [hk']) j (by simpa using hkj)
            omega
      have := this (i + 1) i (by omega) o ho j hj
      omega
    -- the slots that the operation looks at are as if all were put
    have hlook : ∀ t ∈ o.looksAt ops, (Reg.part ops L x (List.range ops.size) a).tmps[t]? = (Reg.fill ops x a).tmps[t]? := by
      intro t ht
      refine Reg.part_get L (fun _ => true) x t _ a a rfl rfl (fun j hj hd => ⟨?_, rfl⟩)
      have h3 := ho3 j (List.mem_range.1 hj)
      rw [hd] at h3
      simp only [Bool.and_eq_true, Bool.or_eq_true, Bool.not_eq_true', List.contains_eq_mem, decide_eq_true_eq, decide_eq_false_iff_not] at h3
      rcases h3.1 with h | h
      · exact absurd ht h
      · exact hLA j h
    have hev : ∀ y ∈ o.op.operands, (Reg.fill ops x a).eval y = (Reg.part ops L x (List.range ops.size) a).eval y := by
      intro y hy
      cases y with
      | tmp t =>
        have := hlook t (by
          unfold Oper.looksAt
          exact List.mem_append_left _ (List.mem_filterMap.2 ⟨.tmp t, by simpa using hy, rfl⟩))
        simp [Act.eval, this]
      | _ => rfl
    have hwant : Region.wanted o (yielded ops (Reg.fill ops x a).tmps) = Region.wanted o (yielded ops (Reg.part ops L x (List.range ops.size) a).tmps) := by
      unfold Region.wanted
      cases hg : o.guard with
      | none => rfl
      | some gw =>
        obtain ⟨g, want⟩ := gw
        have : yielded ops (Reg.fill ops x a).tmps g = yielded ops (Reg.part ops L x (List.range ops.size) a).tmps g := by
          unfold yielded
          cases ht : (ops[g]?).bind (·.dst) with
          | none => rfl
          | some t =>
            have := hlook t (by
              unfold Oper.looksAt
              exact List.mem_append_right _ (by simp [hg, ht]))
            simp [this]
        simp only [this]
    have hsz : (Reg.fill ops x a).tmps.size = (Reg.part ops L x (List.range ops.size) a).tmps.size := by
      rw [(Reg.part_same L x _ a a).1]
      exact (Reg.part_same (fun _ => true) x _ a a).1
    -- the value is put: what is known then
    have hafter : ∀ v w'', (loud.contains i = true → killF.contains i = false → noF.contains i = false → F w'') → (if loud.contains i then E i w' w'' else w'' = w') → (∀ c, Reg.known vals i = some c → v = c) → (ws.contains i = true → W i (Reg.shown A i (fun k => if k = i then v else x k)) w'') →
        I (fun j => L j || j == i) ((Reg.part ops L x (List.range ops.size) a).put o.dst v) w'' := by
      intro v w'' hF'' hE hVi hWi
      have hFn : (∀ k ∈ killF, (fun j => L j || j == i) k = false) → F w'' := by
        intro hk
        cases hl : loud.contains i with
        | false =>
          rw [hl] at hE
          simp only [Bool.false_eq_true, if_false] at hE
          rw [hE]
          exact hF0 (fun k hkk => by
            have := hk k hkk
            simp only [Bool.or_eq_false_iff] at this
            exact this.1)
        | true =>
          have hki : killF.contains i = false := by
            cases hc : killF.contains i with
            | false => rfl
            | true =>
              have := hk i (by simpa using hc)
              simp at this
          cases hno : noF.contains i with
          | false => exact hF'' hl hki hno
          | true =>
            exfalso
            have hu := huF i his
            rw [hno, hl, hki] at hu
            simp only [if_true, Bool.not_true, Bool.or_self, Bool.false_or, List.any_eq_true] at hu
            obtain ⟨k, hk1, hk2⟩ := hu
            have h1 := hk k hk1
            have h2 := hLA k (by simpa using hk2)
            simp [h2] at h1
      refine ⟨hFn, fun k => if k = i then v else x k, ?_, ?_, ?_⟩
      · intro j c hc
        by_cases hji : j = i
        · subst hji; simpa using hVi c hc
        · simpa [hji] using hN j c hc
      · rw [← hdst]
        refine (Reg.part_put L x i v hLi ?_ _ a List.nodup_range (List.mem_range.2 his)).symm
        intro j hji hdj
        rcases Nat.lt_or_ge j ops.size with hjs | hjs
        · have h3 := ho3 j hjs
          cases hdi : (ops[i]?).bind (·.dst) with
          | none => rfl
          | some t =>
            rw [hdj, hdi] at h3
            simp only [Bool.and_eq_true, Bool.or_eq_true, beq_iff_eq, hji, false_or] at h3
            rw [← hdst, hdi] at h3
            simp at h3
        · rw [← hdj]; simp [Array.getElem?_eq_none hjs]
      · intro j hj hjw hk
        by_cases hji : j = i
        · subst hji; exact hWi hjw
        · have hj' : (j < ops.size ∧ L j = true) ∨ ini.contains j = true := by
            have : (j == i) = false := by simpa using hji
            rcases hj with ⟨h1, h2⟩ | h
            · exact .inl ⟨h1, by simpa [this] using h2⟩
            · exact .inr h
          have hnot : (A.getD j []).contains i = false := by
            cases hc : (A.getD j []).contains i with
            | false => rfl
            | true =>
              rcases hj' with ⟨hj1, hLj'⟩ | h
              · have := hclosed j hj1 hLj' i (by simpa using hc)
                rw [hLi] at this
                cases this
              · have := (hui j (by simpa using h)).2
                rw [List.isEmpty_iff] at this
                rw [this] at hc
                simp at hc
          rw [Reg.shown_upd A i j x v hji hnot]
          have h0 := hW j hj' hjw (fun k hkk hc => by
            have := hk k hkk hc
            simp only [Bool.or_eq_false_iff] at this
            exact this.1)
          have hki : (kill.getD i []).contains j = false := by
            cases hc : (kill.getD i []).contains j with
            | false => rfl
            | true =>
              have := hk i his hc
              simp at this
          cases hl : loud.contains i with
          | false => rw [hl] at hE; simp only [Bool.false_eq_true, if_false] at hE; rw [hE]; exact h0
          | true => rw [hl] at hE; simp only [if_true] at hE; exact hpres i (by simpa using hl) j (by simpa using hjw) (by rw [hnot, hki]; simpa using hji) _ w' w'' hF' hE h0
    have hTx : T x = Reg.fill ops x a := by rw [← hT x]; exact Reg.fillV_fill vals x a hN
    have hr := hrun i o ho x w' hF' (Reg.each_iff.2 fun j hj => by
      have h := hu1 i his j hj
      obtain ⟨⟨hj1, hj2⟩, hj3⟩ := h
      have hj1 : (j < ops.size ∧ L j = true) ∨ ini.contains j = true := by
        rw [Bool.or_eq_true] at hj1
        rcases hj1 with h | h
        · have h : j ∈ A.getD i [] := by simpa using h
          exact .inl ⟨hAlt j h, hLA j h⟩
        · exact .inr h
      refine hW j hj1 hj2 (fun k hk hc => ?_)
      have hj4 := hj3 k hk
      simp only [Bool.or_eq_true, Bool.not_eq_true'] at hj4
      rcases hj4 with (h | h) | h
      · rw [hc] at h; cases h
      · rw [beq_iff_eq] at h; subst h; exact hLi
      · cases hLk : L k with
        | false => rfl
        | true =>
          have := hclosed k hk hLk i (by simpa using h)
          rw [hLi] at this
          cases this)
    rw [hTx] at hr
    unfold wpOp
    simp only [ho]
    rw [hwant] at hr
    split
    · rename_i hw
      refine .inl (Oper.wp_mono ?_ (Reg.wp_swap (a := Reg.fill ops x a) (R := fun v w'' => (loud.contains i = true → killF.contains i = false → noF.contains i = false → F w'') ∧ (if loud.contains i then E i w' w'' else w'' = w') ∧ (∀ c, Reg.known vals i = some c → v = c) ∧ (ws.contains i = true → W i (Reg.shown A i (fun k => if k = i then v else x k)) w'')) (by simpa using ho4) hsz hev ((hr _ (fun v w'' h1 h2 h3 h4 => ⟨v, rfl, h1, h2, h3, h4⟩)).1 hw)))
      rintro b w'' ⟨v, rfl, h1, h2, h3, h4⟩
      exact hafter v w'' h1 h2 h3 h4
    · rename_i hw
      obtain ⟨h2, h3, h4⟩ := (hr (fun _ _ => True) (fun _ _ _ _ _ _ => trivial)).2 (by simpa using hw)
      refine hafter undef w' (fun _ _ hno => hF' hno) ?_ h3 h4
      cases hl : loud.contains i with
      | false => simp
      | true => rw [hl] at h2; simpa using h2
  · rintro L a' w' hall ⟨hF', x, hN, rfl, hW⟩
    have e : Reg.part ops L x (List.range ops.size) a = Reg.fill ops x a := Reg.part_list _ _ _ _ _ (fun j hj => hall j (List.mem_range.1 hj))
    rw [e]
    have hTx : T x = Reg.fill ops x a := by rw [← hT x]; exact Reg.fillV_fill vals x a hN
    rw [← hTx]
    refine hend x w' (fun h => hF' (by rw [h]; simp)) (Reg.each_iff.2 fun j hj => ?_)
    have h := hu2 j hj
    obtain ⟨⟨hj1, hj2⟩, hj3⟩ := h
    have hj1 : (j < ops.size ∧ L j = true) ∨ ini.contains j = true := by
      rw [Bool.or_eq_true] at hj1
      rcases hj1 with h | h
      · have h : j < ops.size := by simpa using h
        exact .inl ⟨h, hall j h⟩
      · exact .inr h
    exact hW j hj1 hj2 (fun k hk hc => by
      have := hj3 k hk
      rw [hc] at this
      cases this)
  · intro j hj h
    simp [hj] at h
  · refine ⟨fun _ => hF, fun j => (Reg.known vals j).getD undef, fun j c hc => by simp [hc], ?_, ?_⟩
    · have : ∀ (js : List Nat), (∀ j ∈ js, j < ops.size) → Reg.part ops (fun j => (Array.replicate ops.size false).getD j true) (fun j => (Reg.known vals j).getD undef) js a = a := by
        intro js
        induction js with
        | nil => intro _; rfl
        | cons j js ih =>
          intro h
          have hj := h j (List.mem_cons_self ..)
          have := ih (fun k hk => h k (List.mem_cons_of_mem _ hk))
          simp only [Reg.part, List.foldl_cons] at this ⊢
          have e : (Array.replicate ops.size false).getD j true = false := by simp [hj]
          rw [e]
          simpa using this
      exact (this _ (fun j hj => List.mem_range.1 hj)).symm
    · intro j hj hjw hk
      rcases hj with ⟨hj, h⟩ | h
      · simp [hj] at h
      · exact Reg.each_iff.1 hini j (by simpa using h) _

/-- The same, of a region that does not draw. -/
theorem wp_region_text {id : Nat} {a : Act} {w : World} (A : List (List Nat)) (loud ws : List Nat) (kill uses : List (List Nat)) (fin killF noF ini : List Nat) (vals : List (Option Value)) (T : (Nat → Value) → Act) (F : World → Prop) (W : Nat → (Nat → Value) → World → Prop) (E : Nat → World → World → Prop)
    (hl : Region.linearise .any ops 0 = List.range ops.size) (hok : Reg.ok ops A = true) (huse : Reg.usesOk ops A ws kill uses loud fin killF noF ini = true)
    (hT : ∀ x, Reg.fillV ops.toList vals 0 x a = T x)
    (hF : F w) (hini : Reg.Each (fun j => ∀ x, W j x w) ini)
    (hrun : ∀ i o, ops[i]? = some o → Reg.Ob P A loud ws uses killF noF vals F W E ops T i o)
    (hpres : ∀ i ∈ loud, ∀ j ∈ ws, (j != i && !(A.getD j []).contains i && !(kill.getD i []).contains j) = true → ∀ x w w', (noF.contains i = false → F w) → E i w w' → W j x w → W j x w')
    (hend : ∀ x w, (killF = [] → F w) → Reg.Each (fun j => W j (Reg.shown A j x) w) fin → Q .normal (T x) w) :
    (Code.region id ops false).wp P Q a w :=
  wp_region (by
    have h := wpAny_sound ops.size 0 _ a w (any_posts A loud ws kill uses fin killF noF ini vals T F W E hok huse hT hF hini hrun hpres hend)
    rw [show Region.linearise.go .any ops ops.size 0 (Array.replicate ops.size false) [] = List.range ops.size from hl] at h
    exact h)
end
end Go.Proofs.Ytelfeedaadkhnaa

/- A region of a function, found by its number: regions are shown as theorems of their own. Conditions: none. -/
set_option linter.unusedVariables false
namespace Go.Proofs.Ytelfeedaadkhnaa
open Go
def codeRegion (n : Nat) : Code → Option Code
  | .region k ops d => if k = n then some (.region k ops d) else none
  | .loop c => codeRegion n c
  | .seq a b => match codeRegion n a with
    | some c => some c
    | none => codeRegion n b
  | .block _ c => codeRegion n c
  | .scope c => codeRegion n c
  | .rangeFunc _ _ a b => match codeRegion n a with
    | some c => some c
    | none => codeRegion n b
  | .cond _ a b => match codeRegion n a with
    | some c => some c
    | none => codeRegion n b
  | _ => none
end Go.Proofs.Ytelfeedaadkhnaa

/- easelkit's Pick. Conditions: as it says. -/
set_option linter.unusedVariables false
namespace Go.Proofs.Ytelfeedaadkhnaa
open Go.RowKit

theorem pick_eq (i n : Int) (hi : -9223372036854775808 ≤ i ∧ i ≤ 9223372036854775807) (hn : 0 < n) (hn2 : n ≤ 4611686018427387904) : (wrap64 (i.tmod n + n)).tmod n = i % n := by
  have h1 : i.tmod n < n := Int.tmod_lt_of_pos i hn
  have h2 : -n < i.tmod n := by
    rcases Int.le_total 0 i with h0 | h0
    · have := Int.tmod_nonneg n h0
      omega
    · have h4 := Int.tmod_lt_of_pos (-i) hn
      rw [Int.neg_tmod] at h4
      omega
  rw [IntWalk.wrap64_in _ (by omega)]
  rw [Int.tmod_eq_emod_of_nonneg (by omega)]
  have h3 : i.tmod n % n = i % n := by
    have := Int.mul_tdiv_add_tmod i n
    conv => rhs; rw [← this]
    simp
  simp [h3]

set_option maxRecDepth 100000 in
set_option maxHeartbeats 400000 in
theorem pick_is (i n : Int) (w : World) (hi : -9223372036854775808 ≤ i ∧ i ≤ 9223372036854775807) (hn : 0 < n) (hn2 : n ≤ 4611686018427387904) :
    Calls Try.prog 13 #[.int .i64 i, .int .i64 n] w fun e w' => e = .returned (.int .i64 (i % n)) ∧ w = w' := by
  rw [← pick_eq i n hi hn hn2]
  clear hi hn2
  go_enter Try.func13, Try.ntmps13
  go_wp2
  go_ret
  exact ⟨rfl, rfl⟩
end Go.Proofs.Ytelfeedaadkhnaa
