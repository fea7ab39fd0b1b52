/- Merged of Mem Row Cut Step Str Bt Few App RefA Reg RegB RegT RegL CodeIf U64 Spo SameB SameR ConvA Law LawN LawR. Conditions: as each says. -/
import Derived.WalkKit
import Derived.WalkSpells
import Derived.WalkLawsBesides
import Derived.Deep.AppendLies
import Derived.Deep.Draws
import Derived.Lib.Hide
import Derived.Test.YtdcclighccejhaaRows
import Derived.Deep.QuietTactic
import Derived.BigQuiet
import Derived.BigRegion
import Derived.StillTailTactics
import Derived.Laws.CopyOwn
import Derived.Laws.Tables
import Derived.Laws.AppendOwn
import Derived.Laws.OwnMore
import Derived.Laws.CopyRow
import Derived.Orders
import Derived.KernelRfl
import Derived.Deep.RegionWith
import Derived.Control
import Derived.RangeFuncBox
import Derived.Laws.BytesArg
import Derived.Laws.BytesString
import Derived.ProofKit
import Derived.OpenShut
import Derived.ChangeOld
import Derived.Lib.SmallJoins
import Derived.Deep.Slices
import Derived.Deep.Fields
import Derived.ChangeSame
/- Words for memory, used by the walks over package bits: what a call may change (Only), a block known whole (Is), a slice of numbers that is read (Rd), a row of bytes that is owned (Own). Conditions: none. -/
set_option linter.unusedVariables false
namespace Go.Proofs.Ytdcclighccejhaa
open Go.RowKit

/-- w' is w but for the blocks that S tells, and for new ones. -/
structure Only (S : Nat → Prop) (w w' : World) : Prop where
  os : w'.os = w.os
  tape : w'.tape = w.tape
  output : w'.output = w.output
  size : w.heap.size ≤ w'.heap.size
  same : ∀ k, k < w.heap.size → ¬ S k → w'.heap[k]? = w.heap[k]?

section
variable {S T : Nat → Prop} {w w1 w2 : World}
theorem Only.refl (S : Nat → Prop) (w : World) : Only S w w := ⟨rfl, rfl, rfl, Nat.le_refl _, fun _ _ _ => rfl⟩
theorem Only.trans (h : Only S w w1) (k : Only T w1 w2) (hs : ∀ i, i < w.heap.size → T i → S i) : Only S w w2 :=
  ⟨k.os.trans h.os, k.tape.trans h.tape, k.output.trans h.output, Nat.le_trans h.size k.size,
    fun i hi hn => (k.same i (Nat.lt_of_lt_of_le hi h.size) (fun ht => hn (hs i hi ht))).trans (h.same i hi hn)⟩
theorem Only.mono (h : Only S w w1) (hs : ∀ i, i < w.heap.size → S i → T i) : Only T w w1 :=
  ⟨h.os, h.tape, h.output, h.size, fun i hi hn => h.same i hi (fun x => hn (hs i hi x))⟩
theorem Only.drew (h : Only S w w1) : Only S w w1.drew := ⟨h.os, h.tape, h.output, h.size, h.same⟩
theorem Only.drewN (h : Only S w w1) (n : Nat) : Only S w (w1.drewN n) := ⟨h.os, h.tape, h.output, h.size, h.same⟩
theorem Only.alloc (h : Only S w w1) (o : Obj) : Only S w (w1.alloc o) :=
  ⟨h.os, h.tape, h.output, by have := h.size; simp; omega, fun i hi hn => (Below.heap_alloc w1 o i (Nat.lt_of_lt_of_le hi h.size)).trans (h.same i hi hn)⟩
theorem Only.set (h : Only S w w1) {p : Addr} (hp : p.block < w.heap.size → S p.block) (u : Value) : Only S w (w1.setCell p u) :=
  ⟨h.os, h.tape, h.output, by have := h.size; simpa using this, fun i hi hn => (Below.heap_setCell w1 p u i (fun e => hn (by subst e; exact hp hi))).trans (h.same i hi hn)⟩
theorem Only.grown {row : Option Nat} (h : Only S w w1) (hg : w1.grownBy w2 row) (hr : ∀ i, row = some i → i < w.heap.size → S i) : Only S w w2 :=
  ⟨hg.os.trans h.os, hg.tape.trans h.tape, hg.output.trans h.output, Nat.le_trans h.size hg.size,
    fun i hi hn => (hg.block i (Nat.lt_of_lt_of_le hi h.size) (fun e => hn (hr i e.symm hi))).trans (h.same i hi hn)⟩
theorem Only.below (h : Only S w w1) {B : Nat} (hs : ∀ i, S i → B ≤ i) (hB : B ≤ w.heap.size) : Below B w w1 :=
  ⟨h.os, h.tape, h.output, h.size, fun i hi => h.same i (by omega) (fun x => by have := hs i x; omega)⟩
theorem Only.cell (h : Only S w w1) {p : Addr} (hp : p.block < w.heap.size) (hn : ¬ S p.block) : w1.cell? p = w.cell? p := World.cell?_of_block (h.same _ hp hn)
theorem Only.frozen (h : Only S w w1) {p : Addr} (hp : p.block < w.heap.size) (hn : ¬ S p.block) : w1.frozen? p = w.frozen? p := World.frozen?_of_block (h.same _ hp hn)
end

/-- Block b is just the cells cs, of type t, none frozen. -/
def Is (w : World) (b : Nat) (t : TypeId) (cs : Array Value) : Prop := w.heap[b]? = some (.cells cs t (0, 0))

section
variable {w w1 : World} {b : Nat} {t : TypeId} {cs : Array Value}
theorem lt_of_heap {o : Obj} (h : w.heap[b]? = some o) : b < w.heap.size := (Array.getElem?_eq_some_iff.1 h).1
theorem Is.lt (h : Is w b t cs) : b < w.heap.size := lt_of_heap h
theorem Is.cell (h : Is w b t cs) (i : Nat) : w.cell? ⟨b, i, none⟩ = cs[i]? := cell_of_row w b i cs t (0, 0) h
theorem Is.free (h : Is w b t cs) (i : Nat) : w.frozen? ⟨b, i, none⟩ = false := by
  have e : w.heap[b]? = some (.cells cs t (0, 0)) := h
  simp [World.frozen?, e]
theorem Is.made (w : World) (t : TypeId) (cs : Array Value) : Is (w.alloc (.cells cs t)) w.heap.size t cs := heap_alloc_new w _
theorem Is.put (h : Is w b t cs) (i : Nat) (u : Value) : Is (w.setCell ⟨b, i, none⟩ u) b t (cs.setIfInBounds i u) := by
  have e : w.heap[b]? = some (.cells cs t (0, 0)) := h
  show (w.setCell ⟨b, i, none⟩ u).heap[b]? = _
  simp [World.setCell, Array.getElem?_modify, e]
theorem Is.alloc (h : Is w b t cs) (o : Obj) : Is (w.alloc o) b t cs := (Below.heap_alloc w o b h.lt).trans h
theorem Is.far (h : Is w b t cs) {p : Addr} (hp : b ≠ p.block) (u : Value) : Is (w.setCell p u) b t cs := (Below.heap_setCell w p u b hp).trans h
theorem Is.only {S : Nat → Prop} (h : Is w b t cs) (ho : Only S w w1) (hn : ¬ S b) : Is w1 b t cs := (ho.same b h.lt hn).trans h
theorem Is.apart {c : Nat} {u : TypeId} {ds : Array Value} (h : Is w b t cs) (k : Is w c u ds) (hne : t ≠ u) : b ≠ c := by
  intro e
  subst e
  have h' : w.heap[b]? = some (.cells cs t (0, 0)) := h
  have k' : w.heap[b]? = some (.cells ds u (0, 0)) := k
  rw [h'] at k'
  simp only [Option.some.injEq, Obj.cells.injEq] at k'
  exact hne k'.2.1
end

/-- A slice of numbers of kind k that reads as zs, wherever it lies. -/
def Rd (k : IntKind) (w : World) (v : Value) (zs : List Int) : Prop :=
  ∃ A c, v = .slice A zs.length c ∧ zs.length ≤ c ∧ (0 < zs.length → ∃ b o, A = some ⟨b, o, none⟩ ∧ ∀ j (h : j < zs.length), w.cell? ⟨b, o + j, none⟩ = some (.int k zs[j]))

theorem Rd.nil (k : IntKind) (w : World) : Rd k w (.slice none 0 0) [] := ⟨none, 0, rfl, by simp, fun h => by simp at h⟩
theorem Rd.empty (k : IntKind) (w : World) (A : Option Addr) (c : Nat) : Rd k w (.slice A 0 c) [] := ⟨A, c, rfl, by simp, fun h => by simp at h⟩
theorem Rd.keep {k : IntKind} {w w1 : World} {v : Value} {zs : List Int} (h : Rd k w v zs) (hk : ∀ b o, v.ownBlock = some b → w1.cell? ⟨b, o, none⟩ = w.cell? ⟨b, o, none⟩) : Rd k w1 v zs := by
  obtain ⟨A, c, rfl, hl, hc⟩ := h
  refine ⟨A, c, rfl, hl, fun hp => ?_⟩
  obtain ⟨b, o, rfl, hcell⟩ := hc hp
  exact ⟨b, o, rfl, fun j hj => (hk b (o + j) rfl).trans (hcell j hj)⟩
theorem Rd.lt {k : IntKind} {w : World} {v : Value} {zs : List Int} (h : Rd k w v zs) (hp : 0 < zs.length) : ∃ b, v.ownBlock = some b ∧ b < w.heap.size := by
  obtain ⟨A, c, rfl, hl, hc⟩ := h
  obtain ⟨b, o, rfl, hcell⟩ := hc hp
  exact ⟨b, rfl, World.block_lt_of_cell? w ⟨b, o + 0, none⟩ (hcell 0 hp)⟩
theorem Rd.only {k : IntKind} {w w1 : World} {v : Value} {zs : List Int} {S : Nat → Prop} (h : Rd k w v zs) (ho : Only S w w1) (hn : ∀ b, v.ownBlock = some b → ¬ S b) : Rd k w1 v zs := by
  obtain ⟨A, c, rfl, hl, hc⟩ := h
  refine ⟨A, c, rfl, hl, fun hp => ?_⟩
  obtain ⟨b, o, rfl, hcell⟩ := hc hp
  exact ⟨b, o, rfl, fun j hj => (ho.cell (p := ⟨b, o + j, none⟩) (World.block_lt_of_cell? w ⟨b, o + j, none⟩ (hcell j hj)) (hn b rfl)).trans (hcell j hj)⟩

theorem add_plain (g o j : Nat) : (⟨g, o, none⟩ : Addr).add j = ⟨g, o + j, none⟩ := by
  unfold Addr.add
  by_cases h : j = 0
  · subst h; simp
  · simp [h]
/-- Bytes as cells. -/
def cellsOf (bs : List Nat) : List Value := bs.map fun (x : Nat) => Value.int .u8 (x : Int)
theorem length_cellsOf (bs : List Nat) : (cellsOf bs).length = bs.length := by simp [cellsOf]
theorem cellsOf_get (bs : List Nat) (j : Nat) (h : j < bs.length) : (cellsOf bs)[j]? = some (.int .u8 (bs[j] : Int)) := by simp [cellsOf, h]
theorem cellsOf_one (bs : List Nat) : ∀ u ∈ cellsOf bs, u.oneCell' = true := by
  intro u hu
  simp only [cellsOf, List.mem_map] at hu
  obtain ⟨x, _, rfl⟩ := hu
  rfl
theorem cellsOf_append (a b : List Nat) : cellsOf (a ++ b) = cellsOf a ++ cellsOf b := by simp [cellsOf]
theorem cellsOf_set (bs : List Nat) (j x : Nat) : cellsOf (bs.set j x) = (cellsOf bs).set j (.int .u8 (x : Int)) := by simp [cellsOf, List.map_set]
end Go.Proofs.Ytdcclighccejhaa

/- Rows of bytes: a copy of one (bytes.Clone), a row that is owned, a row that is read. Conditions: as each says. -/
set_option linter.unusedVariables false
namespace Go.Proofs.Ytdcclighccejhaa
open Go.RowKit

/-- A pointer to the head of block b. -/
abbrev ptr (b : Nat) : Value := .pointer (some ⟨b, 0, none⟩)
theorem int_congr {k : IntKind} {a b : Int} (h : a = b) : Value.int k a = .int k b := by rw [h]
theorem Try.sizeU8 : (Try.prog.info? 5).map (·.size) = some 1 := by kernel_rfl

set_option maxRecDepth 100000 in
set_option maxHeartbeats 400000 in
theorem clone_nil (w : World) : Calls Try.prog 47 #[.slice none 0 0] w fun e w' => e = .returned (.slice none 0 0) ∧ w = w' := by
  have hq := fun (w : World) => Lib.run_eql_slice_nil (P := Try.prog) w 40 5 none 0 0 0 0 Try.underlying40
  simp at hq
  go_enter Try.func47, Try.ntmps47
  go_wp2
  go_ret
  exact ⟨rfl, rfl⟩

theorem Try.infoU8 : (Try.prog.info? 5).map (fun i => (i.zero, i.size, i.bytes)) = some (some (.int .u8 0), 1, 1) := by kernel_rfl

/-- What a call answers that hands out a row of bytes of its own. -/
def OwnRow (B : Nat) (news : List Value) (w : World) (e : Ending) (w' : World) : Prop := ∃ v, e = .returned v ∧ w'.ownsRow B 5 1 v news.length news ∧ Only (fun _ => False) w w' ∧ (∀ k, v.ownBlock = some k → w.heap.size ≤ k)

set_option maxRecDepth 100000 in
set_option maxHeartbeats 400000 in
theorem clone_is (a : Addr) (n c : Nat) (w : World) (B : Nat) (news : List Value) (hB : B ≤ w.heap.size) (hl : news.length = n) (hc : ∀ j u, news[j]? = some u → w.cell? (a.add j) = some u) (h1 : ∀ u ∈ news, u.oneCell' = true) (hn : n ≤ 140737488355328) :
    Calls Try.prog 47 #[.slice (some a) n c] w (OwnRow B news w) := by
  have hq := fun (w : World) => Lib.run_eql_slice_nil (P := Try.prog) w 40 5 (some a) n c 0 0 Try.underlying40
  simp at hq
  obtain ⟨i0, hi, hz0, hz1, hz2⟩ := info_parts Try.infoU8
  have Hl := Lib.hid hl
  have Hc := Lib.hid hc
  have H1 := Lib.hid h1
  have Hz := Lib.hid (show ∀ j u, news[j]? = some u → (w.alloc (.cells #[] 5)).cell? (a.add j) = some u from fun j u hu => Lib.cell?_alloc_some _ (hc j u hu))
  have Hm : n ≤ maxLen := by unfold maxLen; omega
  clear hl hc h1
  go_enter Try.func47, Try.ntmps47
  go_wp2_with (at_builtin; refine wpList_append_own _ rfl _ _ 40 rfl w.heap.size 5 i0 (.int .u8 0) 1 1 Try.underlying40 hi hz0 hz1 hz2 rfl (by decide) _ 0 [] rfl (World.ownsRow_lit w #[] 0 (Nat.le_refl _) (by decide) rfl) a n c news rfl (by rw [Hl.out, Nat.mul_one]) Hz.out H1.out (by omega) (by omega) (by simp) ?_)
  intro v' w1 hown hg _
  go_wp2
  go_ret
  rw [← Hl.out] at hown
  refine ⟨_, rfl, ?_, ?_, fun k hk => (hown.lt k hk).1⟩
  · obtain ⟨q1, q2⟩ := hown
    refine ⟨q1, ?_⟩
    rcases q2 with q2 | ⟨g, cap, cur, r1, r2, r3⟩
    · exact .inl q2
    · exact .inr ⟨g, cap, cur, r1, by omega, r3⟩
  · exact ((Only.refl _ w).alloc _).grown hg (fun i hi hlt => by simp [Value.ownBlock] at hi; omega)


/-- Bytes in new memory, of B on. -/
theorem OwnRow.cells {B : Nat} {news : List Value} {w w' : World} {e : Ending} (h : OwnRow B news w e w') : ∃ v, e = .returned v ∧ w'.ownsRow B 5 1 v news.length news ∧ Only (fun _ => False) w w' ∧ (∀ k, v.ownBlock = some k → w.heap.size ≤ k) := h

theorem own_slice {w : World} {B n : Nat} {t : TypeId} {v : Value} {xs : List Value} (h : w.ownsRow B t 1 v n xs) : ∃ A c, v = .slice A n c ∧ n ≤ c := by
  rcases h.2 with ⟨rfl, rfl⟩ | ⟨g, cap, cur, rfl, _, _, hc, _⟩
  · exact ⟨none, 0, rfl, Nat.le_refl _⟩
  · exact ⟨_, cap, rfl, hc⟩

/-- Nothing, or bytes that are there: a slice of which a copy can be made. -/
def Src (w : World) (v : Value) (bs : List Nat) : Prop :=
  (v = .slice none 0 0 ∧ bs = []) ∨ ∃ a c, v = .slice (some a) bs.length c ∧ bs.length ≤ c ∧ ∀ j u, (cellsOf bs)[j]? = some u → w.cell? (a.add j) = some u

theorem Src.of_own {w : World} {B : Nat} {v : Value} {bs : List Nat} (h : w.ownsRow B 5 1 v bs.length (cellsOf bs)) : Src w v bs := by
  rcases h.2 with ⟨rfl, h0⟩ | ⟨g, cap, cur, rfl, hb, hg, hc, _⟩
  · exact .inl ⟨rfl, List.eq_nil_of_length_eq_zero h0⟩
  · exact .inr ⟨_, cap, rfl, hc, h.cells (g := g) rfl⟩

theorem clone_src (v : Value) (bs : List Nat) (w : World) (B : Nat) (hB : B ≤ w.heap.size) (hs : Src w v bs) (hn : bs.length ≤ 140737488355328) :
    Calls Try.prog 47 #[v] w (OwnRow B (cellsOf bs) w) := by
  rcases hs with ⟨rfl, rfl⟩ | ⟨a, c, rfl, _, hc⟩
  · refine (clone_nil w).mono ?_
    rintro e w' ⟨rfl, rfl⟩
    exact ⟨_, rfl, World.ownsRow_nil _ _ _ _, Only.refl _ _, by simp [Value.ownBlock]⟩
  · exact clone_is a bs.length c w B (cellsOf bs) hB (length_cellsOf bs) hc (cellsOf_one bs) hn

theorem Src.at_ {w : World} {v : Value} {bs : List Nat} (h : Src w v bs) (hp : 0 < bs.length) : ∃ g o c, v = .slice (some ⟨g, o, none⟩) bs.length c ∧ ∀ j (hj : j < bs.length), w.cell? ⟨g, o + j, none⟩ = some (.int .u8 (bs[j] : Int)) := by
  rcases h with ⟨_, rfl⟩ | ⟨a, c, rfl, _, hc⟩
  · simp at hp
  · obtain ⟨g, o, spot⟩ := a
    have h0 := hc 0 _ (cellsOf_get bs 0 hp)
    have hspot : spot = none := by simpa [Addr.add] using World.cell?_spot h0
    subst hspot
    refine ⟨g, o, c, rfl, fun j hj => ?_⟩
    have := hc j _ (cellsOf_get bs j hj)
    rwa [add_plain] at this
theorem Src.slice {w : World} {v : Value} {bs : List Nat} (h : Src w v bs) : ∃ A c, v = .slice A bs.length c := by
  rcases h with ⟨rfl, rfl⟩ | ⟨a, c, rfl, _⟩
  · exact ⟨none, 0, rfl⟩
  · exact ⟨_, c, rfl⟩
theorem Src.drewN {w : World} {v : Value} {bs : List Nat} (h : Src w v bs) (n : Nat) : Src (w.drewN n) v bs := h
theorem Src.only {w w1 : World} {v : Value} {bs : List Nat} {S : Nat → Prop} (h : Src w v bs) (ho : Only S w w1) (hn : ∀ k, v.ownBlock = some k → ¬ S k) : Src w1 v bs := by
  rcases h with h | ⟨a, c, rfl, hl, hc⟩
  · exact .inl h
  · refine .inr ⟨a, c, rfl, hl, fun j u hu => ?_⟩
    have h1 := hc j u hu
    have hb : (a.add j).block = a.block := by unfold Addr.add; split <;> rfl
    exact (ho.cell (World.block_lt_of_cell? w _ h1) (by rw [hb]; exact hn a.block rfl)).trans h1


/-- append of bytes, be they nil, to a row that is owned: the law at the operation. -/
theorem wp_append_src {o : Oper} {a : Act} {K : Act → World → Prop} {Q : Exit → Act → World → Prop} (w : World) (s x : Operand)
    (ho : o.op = .call { callee := .builtin .append, args := #[s, x], argTypes := #[40, 40] })
    (B : Nat) (v : Value) (bs : List Nat) (hs : a.eval s = v) (hown : w.ownsRow B 5 1 v bs.length (cellsOf bs)) (vx : Value) (news : List Nat) (hx : a.eval x = vx) (hsrc : Src w vx news)
    (hl : bs.length + news.length ≤ 140737488355328) (hB : B ≤ w.heap.size)
    (h : ∀ v' w', w'.ownsRow B 5 1 v' (bs.length + news.length) (cellsOf bs ++ cellsOf news) → w.grownBy w' v.ownBlock → K (a.put o.dst v') w') :
    Oper.wp Try.prog o a w K Q := by
  obtain ⟨i0, hi, hz0, hz1, hz2⟩ := info_parts Try.infoU8
  rcases hsrc with ⟨rfl, rfl⟩ | ⟨ad, c, rfl, _, hc⟩
  · have hrun := run_append_owned_none (P := Try.prog) w B 40 o.type 5 i0 1 Try.underlying40 hi v bs.length (cellsOf bs) hown
    unfold Oper.wp
    simp [execOp, ho, resolve, invoke, builtin, hs, hx, hrun, Result.andThen]
    exact h v w (by simpa [cellsOf] using hown) (World.grownBy.refl _ _)
  · exact wp_append_own w s x 40 ho B 5 i0 (.int .u8 0) 1 1 Try.underlying40 hi hz0 hz1 hz2 rfl (by decide) v bs.length (cellsOf bs) hs hown ad news.length c (cellsOf news) hx (by rw [length_cellsOf, Nat.mul_one]) hc (cellsOf_one news) (by unfold maxLen; omega) (by omega) hB (fun v' w' h1 h2 _ => h v' w' h1 h2)

theorem wpList_append_src {ops : Array Oper} {rest : List Oper} {o : Oper} {a : Act} {Q : Exit → Act → World → Prop} (w : World) (hgd : o.guard = none) (s x : Operand)
    (ho : o.op = .call { callee := .builtin .append, args := #[s, x], argTypes := #[40, 40] })
    (B : Nat) (v : Value) (bs : List Nat) (hs : a.eval s = v) (hown : w.ownsRow B 5 1 v bs.length (cellsOf bs)) (vx : Value) (news : List Nat) (hx : a.eval x = vx) (hsrc : Src w vx news)
    (hl : bs.length + news.length ≤ 140737488355328) (hB : B ≤ w.heap.size)
    (h : ∀ v' w', w'.ownsRow B 5 1 v' (bs.length + news.length) (cellsOf bs ++ cellsOf news) → w.grownBy w' v.ownBlock → wpList Try.prog ops Q rest (a.put o.dst v') w') :
    wpList Try.prog ops Q (o :: rest) a w :=
  wpList_plain hgd fun _ hK => wp_append_src w s x ho B v bs hs hown vx news hx hsrc hl hB fun v' w' h1 h2 => hK _ _ (h v' w' h1 h2)

theorem step_append_src {ops : Array Oper} {o : Oper} {a : Act} {K : Act → World → Prop} {Q : Exit → Act → World → Prop} {E : Prop} (w : World) (hgd : o.guard = none) (s x : Operand)
    (ho : o.op = .call { callee := .builtin .append, args := #[s, x], argTypes := #[40, 40] })
    (B : Nat) (v : Value) (bs : List Nat) (hs : a.eval s = v) (hown : w.ownsRow B 5 1 v bs.length (cellsOf bs)) (vx : Value) (news : List Nat) (hx : a.eval x = vx) (hsrc : Src w vx news)
    (hl : bs.length + news.length ≤ 140737488355328) (hB : B ≤ w.heap.size)
    (h : ∀ v' w', w'.ownsRow B 5 1 v' (bs.length + news.length) (cellsOf bs ++ cellsOf news) → w.grownBy w' v.ownBlock → K (a.put o.dst v') w') :
    if Region.wanted o (yielded ops a.tmps) = true then Oper.wp Try.prog o a w K Q else E := by
  have hw : Region.wanted o (yielded ops a.tmps) = true := by simp [Region.wanted, hgd]
  rw [if_pos hw]
  exact wp_append_src w s x ho B v bs hs hown vx news hx hsrc hl hB h

theorem madeU8 (n : Nat) : (madeCells #[Value.int .u8 0] n).toList = cellsOf (List.replicate n 0) := by
  rw [toList_madeCells_one]
  simp [cellsOf]
def nats (xs : List Nat) : List Int := xs.map fun (x : Nat) => (x : Int)
theorem nats_length (xs : List Nat) : (nats xs).length = xs.length := by simp [nats]
end Go.Proofs.Ytdcclighccejhaa

/- Pieces of rows of bytes. Conditions: as each says. -/
set_option linter.unusedVariables false
namespace Go.Proofs.Ytdcclighccejhaa
open Go.RowKit

theorem Src.cap {w : World} {v : Value} {bs : List Nat} (h : Src w v bs) (hp : 0 < bs.length) : ∃ g o c, v = .slice (some ⟨g, o, none⟩) bs.length c ∧ bs.length ≤ c ∧ ∀ j (hj : j < bs.length), w.cell? ⟨g, o + j, none⟩ = some (.int .u8 (bs[j] : Int)) := by
  obtain ⟨g, o, c, rfl, hc⟩ := h.at_ hp
  refine ⟨g, o, c, rfl, ?_, hc⟩
  rcases h with ⟨e, _⟩ | ⟨a, c', e, h2, _⟩
  · simp at e
  · injection e with _ _ e3
    omega
theorem src_of {w : World} {g o c n : Nat} {xs : List Nat} (hn : xs.length = n) (hc : xs.length ≤ c) (h : ∀ j (hj : j < xs.length), w.cell? ⟨g, o + j, none⟩ = some (.int .u8 (xs[j] : Int))) : Src w (.slice (some ⟨g, o, none⟩) n c) xs := by
  subst hn
  refine .inr ⟨_, c, rfl, hc, fun j u hu => ?_⟩
  have hj : j < xs.length := by
    have := (List.getElem?_eq_some_iff.1 hu).1
    rwa [length_cellsOf] at this
  rw [add_plain, h j hj, ← hu, cellsOf_get xs j hj]
theorem src_nil {w : World} {A : Option Addr} {n c : Nat} {xs : List Nat} (hA : A.isSome) (hn : n = 0) (hx : xs = []) : Src w (.slice A n c) xs := by
  subst hn hx
  obtain ⟨a, rfl⟩ := Option.isSome_iff_exists.1 hA
  exact .inr ⟨a, c, rfl, by simp, fun j u hu => by simp [cellsOf] at hu⟩
/-- A piece of a row that is there. -/
theorem src_cut {w : World} {g o c d n : Nat} {bs : List Nat} (l m : Nat) (h : ∀ j (hj : j < bs.length), w.cell? ⟨g, o + j, none⟩ = some (.int .u8 (bs[j] : Int))) (hm : l + m ≤ bs.length) (hn : n = m) (hc : m ≤ d) : Src w (.slice (some ⟨g, o + l, none⟩) n d) ((bs.drop l).take m) := by
  have hlen : ((bs.drop l).take m).length = m := by rw [List.length_take, List.length_drop]; omega
  refine src_of (by omega) (by omega) fun j hj => ?_
  have hj' : l + j < bs.length := by omega
  rw [Nat.add_assoc, h (l + j) hj']
  simp

theorem Src.cells_at {w : World} {g o n c : Nat} {bs : List Nat} (h : Src w (.slice (some ⟨g, o, none⟩) n c) bs) : ∀ j (hj : j < bs.length), w.cell? ⟨g, o + j, none⟩ = some (.int .u8 (bs[j] : Int)) := by
  intro j hj
  obtain ⟨g', o', c', e, hc⟩ := h.at_ (by omega)
  injection e with e1 e2 e3
  injection e1 with e1
  injection e1 with e1 e4
  subst e1 e4
  exact hc j hj
theorem Src.later {w w1 : World} {v : Value} {bs : List Nat} {S : Nat → Prop} (h : Src w v bs) (ho : Only S w w1) (hn : ∀ k, k < w.heap.size → ¬ S k) : Src w1 v bs := by
  rcases h with h | ⟨a, c, rfl, hl, hc⟩
  · exact .inl h
  · refine .inr ⟨a, c, rfl, hl, fun j u hu => ?_⟩
    have h1 := hc j u hu
    have hlt := World.block_lt_of_cell? w _ h1
    exact (ho.cell hlt (hn _ hlt)).trans h1

theorem src_drop {w : World} {g o d n : Nat} {bs : List Nat} (l : Nat) (h : ∀ j (hj : j < bs.length), w.cell? ⟨g, o + j, none⟩ = some (.int .u8 (bs[j] : Int))) (hl : l ≤ bs.length) (hn : n = bs.length - l) (hc : bs.length - l ≤ d) : Src w (.slice (some ⟨g, o + l, none⟩) n d) (bs.drop l) := by
  have := src_cut (c := 0) l (bs.length - l) h (by omega) hn hc
  rwa [List.take_of_length_le (by simp)] at this
theorem src_take {w : World} {g o n c : Nat} {bs : List Nat} (h : Src w (.slice (some ⟨g, o, none⟩) n c) bs) (m : Nat) (hm : m ≤ bs.length) : Src w (.slice (some ⟨g, o, none⟩) m c) (bs.take m) := by
  have hc : bs.length ≤ c := by
    rcases h with ⟨e, _⟩ | ⟨a, c', e, h2, _⟩
    · simp at e
    · injection e with _ _ e3
      omega
  refine src_of (by rw [List.length_take]; omega) (by rw [List.length_take]; omega) fun j hj => ?_
  rw [List.length_take] at hj
  rw [h.cells_at j (by omega)]
  simp
theorem row_apart {w : World} {ob B n : Nat} {t u : TypeId} {cs : Array Value} {v : Value} {xs : List Value} (hI : Is w ob u cs) (hW : w.ownsRow B t 1 v n xs) (hne : t ≠ u) : v.ownBlock ≠ some ob := by
  intro hk
  rcases hW.2 with ⟨rfl, _⟩ | ⟨g, cap, cur, rfl, _, q2, _⟩
  · simp [Value.ownBlock] at hk
  · have : g = ob := by simpa [Value.ownBlock] using hk
    subst this
    exact Is.apart (t := t) (u := u) q2 hI hne rfl
theorem own_only {w w1 : World} {B n : Nat} {t : TypeId} {v : Value} {xs : List Value} (h : w.ownsRow B t 1 v n xs) {S : Nat → Prop} (ho : Only S w w1) (hs : ∀ k, v.ownBlock = some k → ¬ S k) : w1.ownsRow B t 1 v n xs := by
  refine ⟨h.1, ?_⟩
  rcases h.2 with q | ⟨g, cap, cur, r1, r2, r3, r4⟩
  · exact .inl q
  · exact .inr ⟨g, cap, cur, r1, r2, (ho.same g (lt_of_heap r3) (hs g (by rw [r1]; rfl))).trans r3, r4⟩
end Go.Proofs.Ytdcclighccejhaa

/- Steps of a walk by laws: whole structs, under guards too. Conditions: as each says. -/
set_option linter.unusedVariables false
namespace Go.Proofs.Ytdcclighccejhaa
open Go Go.RowKit

section
variable {P : Program} {ops : Array Oper} {rest : List Oper} {o : Oper} {a : Act} {w : World} {Q : Exit → Act → World → Prop}
/-- An operation whose guard says yes. -/
theorem wpList_want (hw : Region.wanted o (yielded ops a.tmps) = true) (h : ∀ K : Act → World → Prop, (∀ a w, wpList P ops Q rest a w → K a w) → o.wp P a w K Q) : wpList P ops Q (o :: rest) a w :=
  wpList_step fun K hK => by simp only [hw, if_true]; exact h K hK
/-- A whole struct is loaded. -/
theorem wpList_load_want (hw : Region.wanted o (yielded ops a.tmps) = true) (ty : TypeId) (x : Operand) (ho : o.op = .load ty x)
    (g : Nat) (hx : a.eval x = .pointer (some ⟨g, 0, none⟩)) (t : TypeId) (cs : Array Value) (d : TypeDesc) (hg : Is w g t cs)
    (hu : P.underlying ty = some d) (hd : (match d with | .struct _ | .array _ _ => true | _ => false) = true) (hi : (P.info? ty).map (·.size) = some cs.size)
    (h : wpList P ops Q rest (a.put o.dst (.agg cs)) w) : wpList P ops Q (o :: rest) a w :=
  wpList_want hw fun _ hK => wp_load_row ty x ho g hx t cs (0, 0) d hg hu hd hi (hK _ _ h)
end
theorem Only.setRow {S : Nat → Prop} {w w1 : World} (h : Only S w w1) {g : Nat} (hg : g < w.heap.size → S g) (cs : Array Value) : Only S w (w1.setRow g cs) :=
  ⟨h.os, h.tape, h.output, by have := h.size; simpa using this, fun i hi hn => (setRow_other w1 g i cs (fun e => hn (by subst e; exact hg hi))).trans (h.same i hi hn)⟩
theorem Is.setRow {w : World} {g : Nat} {t : TypeId} {old : Array Value} (h : Is w g t old) (cs : Array Value) : Is (w.setRow g cs) g t cs := setRow_heap w g old cs t (0, 0) h
/-- A whole struct is stored: what is known of the world behind it. -/
theorem wpList_store_is {P : Program} {ops : Array Oper} {rest : List Oper} {o : Oper} {a : Act} {w : World} {Q : Exit → Act → World → Prop} (hgd : o.guard = none) (ty : TypeId) (x y : Operand) (ho : o.op = .store ty x y)
    (g : Nat) (cells : Array Value) (hx : a.eval x = .pointer (some ⟨g, 0, none⟩)) (hy : a.eval y = .agg cells)
    (t : TypeId) (old : Array Value) (hg : Is w g t old) (hi : (P.info? ty).map (·.size) = some cells.size)
    (hold : old.size = cells.size) (h1 : cells.all (·.oneCell') = true)
    (h : ∀ w', Is w' g t cells → Only (· = g) w w' → wpList P ops Q rest (a.put o.dst undef) w') : wpList P ops Q (o :: rest) a w :=
  wpList_store_row hgd ty x y ho g cells hx hy t old hg hi hold h1 (h _ (hg.setRow cells) (Only.setRow (S := fun k => k = g) (Only.refl _ w) (fun _ => rfl) cells))
end Go.Proofs.Ytdcclighccejhaa

/- Rows of structs: a row that is owned, whose elements are lists of cells; rows of bytes side by side. Conditions: as each says. -/
set_option linter.unusedVariables false
namespace Go.Proofs.Ytdcclighccejhaa
open Go Go.RowKit

theorem flat_length {sz : Nat} : ∀ (xss : List (List Value)), (∀ xs ∈ xss, xs.length = sz) → xss.flatten.length = xss.length * sz
  | [], _ => by simp
  | xs :: xss, h => by
    have e := h xs (by simp)
    have ih := flat_length xss (fun y hy => h y (by simp [hy]))
    rw [List.flatten_cons, List.length_append, ih, e, List.length_cons, Nat.succ_mul]
    omega
theorem flat_get {sz : Nat} : ∀ (xss : List (List Value)), (∀ xs ∈ xss, xs.length = sz) → ∀ (i j : Nat) (xs : List Value), xss[i]? = some xs → j < sz → xss.flatten[i * sz + j]? = xs[j]?
  | [], _, i, j, xs, hi, _ => by simp at hi
  | ys :: xss, h, 0, j, xs, hi, hj => by
    have e := h ys (by simp)
    simp at hi
    subst hi
    rw [List.flatten_cons, List.getElem?_append_left (by omega), Nat.zero_mul, Nat.zero_add]
  | ys :: xss, h, i + 1, j, xs, hi, hj => by
    have e := h ys (by simp)
    have ih := flat_get xss (fun y hy => h y (by simp [hy])) i j xs (by simpa using hi) hj
    rw [List.flatten_cons, List.getElem?_append_right (by rw [e, Nat.succ_mul]; omega), e, ← ih]
    congr 1
    rw [Nat.succ_mul]
    omega

/-- A row of structs that is owned. -/
def OwnS (w : World) (B : Nat) (T : TypeId) (sz : Nat) (v : Value) (xss : List (List Value)) : Prop :=
  w.ownsRow B T sz v xss.length xss.flatten ∧ ∀ xs ∈ xss, xs.length = sz
section
variable {w w1 : World} {B : Nat} {T : TypeId} {sz : Nat} {v : Value} {xss : List (List Value)}
theorem OwnS.nil (w : World) (B : Nat) (T : TypeId) (sz : Nat) : OwnS w B T sz (.slice none 0 0) [] := ⟨World.ownsRow_nil w B T sz, by simp⟩
theorem owned_only {n : Nat} {xs : List Value} (h : w.ownsRow B T sz v n xs) {S : Nat → Prop} (ho : Only S w w1) (hs : ∀ k, v.ownBlock = some k → ¬ S k) : w1.ownsRow B T sz v n xs := by
  refine ⟨h.1, ?_⟩
  rcases h.2 with q | ⟨g, cap, cur, r1, r2, r3, r4⟩
  · exact .inl q
  · exact .inr ⟨g, cap, cur, r1, r2, (ho.same g (lt_of_heap r3) (hs g (by rw [r1]; rfl))).trans r3, r4⟩
theorem owned_low {n : Nat} {xs : List Value} (h : w.ownsRow B T sz v n xs) {B' : Nat} (hB : B' ≤ B) : w.ownsRow B' T sz v n xs := by
  refine ⟨h.1, ?_⟩
  rcases h.2 with q | ⟨g, cap, cur, r1, r2, r3⟩
  · exact .inl q
  · exact .inr ⟨g, cap, cur, r1, Nat.le_trans hB r2, r3⟩
theorem owned_apart {n m sz' B' : Nat} {xs ys : List Value} {U : TypeId} {u : Value} (h : w.ownsRow B T sz v n xs) (k : w.ownsRow B' U sz' u m ys) (hne : T ≠ U) : ∀ b, v.ownBlock = some b → u.ownBlock ≠ some b := by
  intro b hb hu
  rcases h.2 with ⟨rfl, _⟩ | ⟨g, cap, cur, rfl, _, q, _⟩
  · simp [Value.ownBlock] at hb
  · rcases k.2 with ⟨rfl, _⟩ | ⟨g', cap', cur', rfl, _, q', _⟩
    · simp [Value.ownBlock] at hu
    · have e1 : g = b := by simpa [Value.ownBlock] using hb
      have e2 : g' = b := by simpa [Value.ownBlock] using hu
      subst e1 e2
      exact Is.apart (t := T) (u := U) q q' hne rfl
theorem owned_off {n : Nat} {xs : List Value} {U : TypeId} {ob : Nat} {cs : Array Value} (h : w.ownsRow B T sz v n xs) (hI : Is w ob U cs) (hne : T ≠ U) : v.ownBlock ≠ some ob := by
  intro hb
  rcases h.2 with ⟨rfl, _⟩ | ⟨g, cap, cur, rfl, _, q, _⟩
  · simp [Value.ownBlock] at hb
  · have e1 : g = ob := by simpa [Value.ownBlock] using hb
    subst e1
    exact Is.apart (t := T) (u := U) q hI hne rfl
theorem OwnS.only (h : OwnS w B T sz v xss) {S : Nat → Prop} (ho : Only S w w1) (hs : ∀ k, v.ownBlock = some k → ¬ S k) : OwnS w1 B T sz v xss := ⟨owned_only h.1 ho hs, h.2⟩
theorem OwnS.slice (h : OwnS w B T sz v xss) : ∃ A c, v = .slice A xss.length c ∧ xss.length ≤ c := by
  rcases h.1.2 with ⟨rfl, h0⟩ | ⟨g, cap, cur, rfl, _, _, hc, _⟩
  · exact ⟨none, 0, by rw [h0], by omega⟩
  · exact ⟨_, cap, rfl, hc⟩
theorem OwnS.lt (h : OwnS w B T sz v xss) : ∀ k, v.ownBlock = some k → B ≤ k ∧ k < w.heap.size := h.1.lt
/-- An element's cells, where they lie. -/
theorem OwnS.at_ (h : OwnS w B T sz v xss) (hp : 0 < xss.length) : ∃ g c, v = .slice (some ⟨g, 0, none⟩) xss.length c ∧ xss.length ≤ c ∧ g < w.heap.size ∧ B ≤ g ∧
    ∀ i j xs, xss[i]? = some xs → j < sz → w.cell? ⟨g, i * sz + j, none⟩ = xs[j]? := by
  rcases h.1.2 with ⟨_, h0⟩ | ⟨g, cap, cur, rfl, hb, hg, hc, _, hcs, ht⟩
  · omega
  · refine ⟨g, cap, rfl, hc, lt_of_heap hg, hb, fun i j xs hi hj => ?_⟩
    have hf := flat_get xss h.2 i j xs hi hj
    have hx := h.2 xs (List.mem_of_getElem? hi)
    have hil : i < xss.length := (List.getElem?_eq_some_iff.1 hi).1
    have hlt : i * sz + j < xss.length * sz := by
      have : (i + 1) * sz ≤ xss.length * sz := Nat.mul_le_mul_right _ hil
      rw [Nat.succ_mul] at this
      omega
    rw [cell_of_row w g (i * sz + j) cur T (0, 0) hg, ← hf, ← ht, List.getElem?_take_of_lt hlt]
    simp
end

/-- Of a struct's type what append wants. -/
structure Sty (t T : TypeId) (sz bytes : Nat) : Prop where
  und : Try.prog.underlying t = some (.slice T)
  info : ∃ i z, Try.prog.info? T = some i ∧ i.zero = some z ∧ i.size = sz ∧ i.bytes = bytes ∧ z.cells.size = sz
  pos : 0 < sz
theorem append_run {o : Oper} {a : Act} {K : Act → World → Prop} {Q : Exit → Act → World → Prop} (w : World) (s x : Operand) {t T : TypeId} {sz bytes : Nat} (st : Sty t T sz bytes)
    (ho : o.op = .call { callee := .builtin .append, args := #[s, x], argTypes := #[t, t] })
    (B : Nat) (v : Value) (xss : List (List Value)) (hs : a.eval s = v) (hown : OwnS w B T sz v xss) (g : Nat) (xs : List Value) (hx : a.eval x = .slice (some ⟨g, 0, none⟩) 1 1) (hsrc : Is w g T xs.toArray)
    (hxl : xs.length = sz) (h1 : ∀ u ∈ xs, u.oneCell' = true)
    (hl : xss.length ≤ 100000) (hby : bytes ≤ 100000) (hB : B ≤ w.heap.size)
    (h : ∀ v' w', OwnS w' B T sz v' (xss ++ [xs]) → Only (fun k => v.ownBlock = some k) w w' → K (a.put o.dst v') w') :
    Oper.wp Try.prog o a w K Q := by
  obtain ⟨i0, z, hi, hz0, hz1, hz2, hz3⟩ := st.info
  have hb1 : (xss.length + 1) * bytes ≤ 100001 * 100000 := Nat.mul_le_mul (by omega) hby
  refine wp_append_own w s x t ho B T i0 z sz bytes st.und hi hz0 hz1 hz2 hz3 st.pos v xss.length xss.flatten hs hown.1 ⟨g, 0, none⟩ 1 1 xs hx (by rw [hxl, Nat.one_mul]) (fun j u hu => ?_) h1 (by unfold maxLen; omega) (by omega) hB (fun v' w' h1 h2 _ => h v' w' ⟨?_, ?_⟩ ?_)
  · rw [add_plain, hsrc.cell]
    simpa using hu
  · rw [List.length_append, List.flatten_append]
    simpa using h1
  · intro ys hy
    rcases List.mem_append.1 hy with hy | hy
    · exact hown.2 ys hy
    · rw [List.mem_singleton.1 hy]; exact hxl
  · exact (Only.refl _ w).grown h2 (fun i hi _ => hi)
theorem step_append_struct {ops : Array Oper} {o : Oper} {a : Act} {K : Act → World → Prop} {Q : Exit → Act → World → Prop} {E : Prop} (w : World) (hgd : o.guard = none) (s x : Operand) {t T : TypeId} {sz bytes : Nat} (st : Sty t T sz bytes)
    (ho : o.op = .call { callee := .builtin .append, args := #[s, x], argTypes := #[t, t] })
    (B : Nat) (v : Value) (xss : List (List Value)) (hs : a.eval s = v) (hown : OwnS w B T sz v xss) (g : Nat) (xs : List Value) (hx : a.eval x = .slice (some ⟨g, 0, none⟩) 1 1) (hsrc : Is w g T xs.toArray)
    (hxl : xs.length = sz) (h1 : ∀ u ∈ xs, u.oneCell' = true)
    (hl : xss.length ≤ 100000) (hby : bytes ≤ 100000) (hB : B ≤ w.heap.size)
    (h : ∀ v' w', OwnS w' B T sz v' (xss ++ [xs]) → Only (fun k => v.ownBlock = some k) w w' → K (a.put o.dst v') w') :
    if Region.wanted o (yielded ops a.tmps) = true then Oper.wp Try.prog o a w K Q else E := by
  have hw : Region.wanted o (yielded ops a.tmps) = true := by simp [Region.wanted, hgd]
  rw [if_pos hw]
  exact append_run w s x st ho B v xss hs hown g xs hx hsrc hxl h1 hl hby hB h
theorem wpList_append_struct {ops : Array Oper} {rest : List Oper} {o : Oper} {a : Act} {Q : Exit → Act → World → Prop} (w : World) (hgd : o.guard = none) (s x : Operand) {t T : TypeId} {sz bytes : Nat} (st : Sty t T sz bytes)
    (ho : o.op = .call { callee := .builtin .append, args := #[s, x], argTypes := #[t, t] })
    (B : Nat) (v : Value) (xss : List (List Value)) (hs : a.eval s = v) (hown : OwnS w B T sz v xss) (g : Nat) (xs : List Value) (hx : a.eval x = .slice (some ⟨g, 0, none⟩) 1 1) (hsrc : Is w g T xs.toArray)
    (hxl : xs.length = sz) (h1 : ∀ u ∈ xs, u.oneCell' = true)
    (hl : xss.length ≤ 100000) (hby : bytes ≤ 100000) (hB : B ≤ w.heap.size)
    (h : ∀ v' w', OwnS w' B T sz v' (xss ++ [xs]) → Only (fun k => v.ownBlock = some k) w w' → wpList Try.prog ops Q rest (a.put o.dst v') w') :
    wpList Try.prog ops Q (o :: rest) a w :=
  wpList_plain hgd fun _ hK => append_run w s x st ho B v xss hs hown g xs hx hsrc hxl h1 hl hby hB fun v' w' h1 h2 => hK _ _ (h v' w' h1 h2)

/-- Rows of bytes side by side, each owned, no two in one place. -/
structure Bods (w : World) (B : Nat) (vs : List Value) (bss : List (List Nat)) : Prop where
  len : vs.length = bss.length
  own : ∀ (i : Nat) (v : Value) (bs : List Nat), vs[i]? = some v → bss[i]? = some bs → w.ownsRow B 5 1 v bs.length (cellsOf bs)
  apart : ∀ (i j : Nat) (a b : Value), i < j → vs[i]? = some a → vs[j]? = some b → ∀ k, a.ownBlock = some k → b.ownBlock ≠ some k
section
variable {w w1 : World} {B : Nat} {vs : List Value} {bss : List (List Nat)}
theorem Bods.nil (w : World) (B : Nat) : Bods w B [] [] := ⟨rfl, fun i v bs h => by simp at h, fun i j a b _ h => by simp at h⟩
theorem Bods.only (h : Bods w B vs bss) {S : Nat → Prop} (ho : Only S w w1) (hs : ∀ u ∈ vs, ∀ k, u.ownBlock = some k → ¬ S k) : Bods w1 B vs bss :=
  ⟨h.len, fun i v bs hv hb => own_only (h.own i v bs hv hb) ho (hs v (List.mem_of_getElem? hv)), h.apart⟩
theorem Bods.pure (h : Bods w B vs bss) (ho : Only (fun _ => False) w w1) : Bods w1 B vs bss := h.only ho (by simp)
/-- What a row of another type changes. -/
theorem Bods.far (h : Bods w B vs bss) {B' sz n : Nat} {T : TypeId} {v : Value} {xs : List Value} (hr : w.ownsRow B' T sz v n xs) (hne : T ≠ 5) (ho : Only (fun k => v.ownBlock = some k) w w1) : Bods w1 B vs bss :=
  h.only ho (fun u hu k hk hv => by
    obtain ⟨i, hi⟩ := List.getElem?_of_mem hu
    have hl := h.len
    have hib : i < bss.length := by rw [← hl]; exact (List.getElem?_eq_some_iff.1 hi).1
    exact owned_apart hr (h.own i u _ hi (List.getElem?_eq_getElem hib)) hne k hv hk)
theorem Bods.snoc (h : Bods w B vs bss) {u : Value} {bs : List Nat} (hB : B ≤ w.heap.size) (ho : Only (fun _ => False) w w1) (hu : w1.ownsRow w.heap.size 5 1 u bs.length (cellsOf bs)) : Bods w1 B (vs ++ [u]) (bss ++ [bs]) := by
  refine ⟨by simp [h.len], fun i v bs' hv hb => ?_, fun i j a b hij ha hb k hk hkb => ?_⟩
  · by_cases hi : i < vs.length
    · rw [List.getElem?_append_left hi] at hv
      rw [List.getElem?_append_left (by rw [← h.len]; exact hi)] at hb
      exact own_only (h.own i v bs' hv hb) ho (by simp)
    · rw [List.getElem?_append_right (by omega)] at hv
      rw [List.getElem?_append_right (by rw [← h.len]; omega)] at hb
      rw [← h.len] at hb
      have h0 : i - vs.length = 0 := by
        rcases Nat.eq_zero_or_pos (i - vs.length) with e | e
        · exact e
        · rw [List.getElem?_eq_none (by simp; omega)] at hv; cases hv
      rw [h0] at hv hb
      simp at hv hb
      subst hv hb
      exact owned_low hu hB
  · by_cases hj : j < vs.length
    · rw [List.getElem?_append_left hj] at hb
      rw [List.getElem?_append_left (by omega)] at ha
      exact h.apart i j a b hij ha hb k hk hkb
    · rw [List.getElem?_append_right (by omega)] at hb
      have h0 : j - vs.length = 0 := by
        rcases Nat.eq_zero_or_pos (j - vs.length) with e | e
        · exact e
        · rw [List.getElem?_eq_none (by simp; omega)] at hb; cases hb
      rw [h0] at hb
      simp at hb
      subst hb
      have hi : i < vs.length := by omega
      rw [List.getElem?_append_left hi] at ha
      have h1 := ((h.own i a _ ha (List.getElem?_eq_getElem (by rw [← h.len]; exact hi))).lt k hk).2
      have h2 := (hu.lt k hkb).1
      omega
theorem Bods.src (h : Bods w B vs bss) {i : Nat} {v : Value} {bs : List Nat} (hv : vs[i]? = some v) (hb : bss[i]? = some bs) : Src w v bs := Src.of_own (h.own i v bs hv hb)
end
end Go.Proofs.Ytdcclighccejhaa

/- Bytes of a row, plainly. Conditions: none. -/
set_option linter.unusedVariables false
namespace Go.Proofs.Ytdcclighccejhaa

def hasb (x m : Nat) : Bool := x / m % 2 == 1
/-- Byte i, or 0. -/
def bt (bs : List Nat) (i : Nat) : Nat := bs.getD i 0
theorem bt_get {bs : List Nat} {i : Nat} (h : i < bs.length) : bt bs i = bs[i] := by simp [bt, h]
theorem bt_lt {bs : List Nat} (hb : ∀ x ∈ bs, x < 256) (i : Nat) : bt bs i < 256 := by
  by_cases h : i < bs.length
  · rw [bt_get h]; exact hb _ (List.getElem_mem h)
  · simp only [bt, List.getD_eq_getElem?_getD]
    rw [List.getElem?_eq_none (by omega)]
    decide
end Go.Proofs.Ytdcclighccejhaa

/- Small words: worlds in a row, literals of bytes, a number of bytes. (DInj and VpR hold some of these, too: do not import both.) Conditions: as each says. -/
set_option linter.unusedVariables false
namespace Go.Proofs.Ytdcclighccejhaa
open Go.RowKit

theorem only_more {w w1 w2 : World} (h : Only (fun _ => False) w w1) (ho : Only (fun _ => False) w1 w2) : Only (fun _ => False) w w2 := h.trans ho (fun _ _ e => e)
theorem only_stored {w w1 : World} {o : Obj} (h : Only (fun k => k = w.heap.size) (w.alloc o) w1) : Only (fun _ => False) w w1 :=
  ((Only.refl _ w).alloc o).trans h (fun i hi e => by omega)
/-- Of bytes that a literal laid just now. -/
theorem src_lit (w : World) (bs : List Nat) : Src (w.alloc (.cells (cellsOf bs).toArray 5)) (.slice (some ⟨w.heap.size, 0, none⟩) bs.length bs.length) bs := by
  refine .inr ⟨_, bs.length, rfl, Nat.le_refl _, fun j u hu => ?_⟩
  rw [add_plain, Nat.zero_add]
  have := (Is.made w 5 (cellsOf bs).toArray).cell j
  rw [this]
  simpa using hu
theorem Src.of_only {w w1 : World} {v : Value} {bs : List Nat} (h : Src w v bs) (ho : Only (fun _ => False) w w1) : Src w1 v bs := h.only ho (by simp)
theorem bt_drop (bs : List Nat) (k i : Nat) : bt (bs.drop k) i = bt bs (k + i) := by simp [bt, List.getD_eq_getElem?_getD]
theorem bt_take {bs : List Nat} {k i : Nat} (h : i < k) : bt (bs.take k) i = bt bs i := by simp [bt, List.getD_eq_getElem?_getD, h]

/-- The number of bytes, the greatest first. -/
def vu (bs : List Nat) : Nat := bs.foldl (fun n x => n * 256 + x) 0
theorem vu_snoc (bs : List Nat) (x : Nat) : vu (bs ++ [x]) = vu bs * 256 + x := by simp [vu]
theorem vu_lt : ∀ (n : Nat) (bs : List Nat), bs.length = n → (∀ x ∈ bs, x < 256) → vu bs < 256 ^ n
  | 0, bs, h, _ => by rw [List.eq_nil_of_length_eq_zero h]; decide
  | n + 1, bs, h, hb => by
    have hne : bs ≠ [] := fun e => by rw [e] at h; cases h
    rw [← List.dropLast_concat_getLast hne] at hb ⊢
    rw [vu_snoc, Nat.pow_succ]
    have h1 := vu_lt n bs.dropLast (by rw [List.length_dropLast, h]; rfl) (fun x hx => hb x (by simp [hx]))
    have h2 := hb (bs.getLast hne) (by simp)
    omega
theorem vu2 (bs : List Nat) (h : bs.length = 2) : vu bs = bt bs 0 * 256 + bt bs 1 := by
  match bs, h with
  | [x, y], _ => simp [vu, bt]
theorem run_load_at {P : Program} {o : Oper} {ρ : Operand → Value} {w : World} (ty : TypeId) (x : Operand) (ho : o.op = .load ty x) (g : Nat) (hx : ρ x = .pointer (some ⟨g, 0, none⟩)) (t : TypeId) (cs : Array Value) (d : TypeDesc) (hg : Is w g t cs)
    (hu : P.underlying ty = some d) (hd : (match d with | .struct _ | .array _ _ => true | _ => false) = true) (hi : (P.info? ty).map (·.size) = some cs.size) : (execOp ρ o).run P w = .ok (.value (.agg cs)) w := by
  unfold execOp
  simp only [ho, hx, Instr.loadAt, Instr.sureAddr, Sem.run_bind, Sem.run_pure, Result.andThen_ok, run_loadVar_row w g t ty cs (0, 0) d hg hu hd hi]
/-- Rows that are the same are told so. -/
theorem only_drewN (w : World) (n : Nat) : Only (fun _ => False) w (w.drewN n) := (Only.refl _ w).drewN n
end Go.Proofs.Ytdcclighccejhaa

/- append of noughts (of a made row), and of a string, to a row of bytes that is owned. Conditions: as each says. -/
set_option linter.unusedVariables false
namespace Go.Proofs.Ytdcclighccejhaa
open Go Go.RowKit

theorem zeros_list (m : Nat) : (Builtin.zeroCells #[Value.int .u8 0] m).toList = cellsOf (List.replicate m 0) := by
  simp [Builtin.zeroCells, cellsOf]
  rw [show (fun i : Nat => [Value.int IntKind.u8 0][i % 1]?.getD default) = fun _ => Value.int .u8 0 from by funext i; simp [Nat.mod_one]]
  rw [List.map_const']
  simp
theorem zeros_size (m : Nat) : (Builtin.zeroCells #[Value.int .u8 0] m).size = m := by simp [Builtin.zeroCells]
/-- What is behind an append that grew. -/
theorem grown_row (w : World) (B : Nat) (bs news : List Nat) (old : Nat) (hB : B ≤ w.heap.size) (hl : bs.length + news.length ≤ 1000000000) (row : Option Nat) :
    (w.drew.alloc (.cells ((cellsOf bs).toArray ++ (cellsOf news).toArray ++ Builtin.zeroCells #[Value.int .u8 0] (grownCap w (bs.length + news.length) old 5 - (bs.length + news.length))) 5)).ownsRow B 5 1
        (.slice (some ⟨w.heap.size, 0, none⟩) (bs.length + news.length) (grownCap w (bs.length + news.length) old 5)) (bs.length + news.length) (cellsOf (bs ++ news)) ∧
      w.grownBy (w.drew.alloc (.cells ((cellsOf bs).toArray ++ (cellsOf news).toArray ++ Builtin.zeroCells #[Value.int .u8 0] (grownCap w (bs.length + news.length) old 5 - (bs.length + news.length))) 5)) row := by
  have hge := grownCap_ge w (bs.length + news.length) old 5
  have hcm : grownCap w (bs.length + news.length) old 5 ≤ maxLen := grownCap_le_maxLen w (bs.length + news.length) old 5 (by unfold maxLen; omega)
  refine ⟨⟨by rw [length_cellsOf, List.length_append, Nat.mul_one], .inr ⟨w.heap.size, _, _, rfl, hB, heap_alloc_new w.drew _, hge, hcm, ?_, ?_⟩⟩, ⟨rfl, rfl, rfl, by simp, fun k hk _ => Below.heap_alloc w.drew _ k hk⟩⟩
  · simp only [Array.size_append, List.size_toArray, zeros_size, length_cellsOf]
    omega
  · simp only [Array.toList_append, List.append_assoc]
    rw [← List.append_assoc, ← cellsOf_append]
    have : (bs.length + news.length) * 1 = (cellsOf (bs ++ news)).length := by rw [length_cellsOf, List.length_append, Nat.mul_one]
    rw [this]
    exact List.take_left
theorem room_row (w : World) (B : Nat) (bs news : List Nat) (g cap : Nat) (cur : Array Value) (hbg : B ≤ g) (hg : w.heap[g]? = some (.cells cur 5 (0, 0))) (hcm : cap ≤ maxLen) (hcs : cur.size = cap * 1) (htake : cur.toList.take (bs.length * 1) = cellsOf bs) (hroom : bs.length + news.length ≤ cap) :
    (w.setRow g (cur.toList.take bs.length ++ cellsOf news ++ cur.toList.drop (bs.length + (cellsOf news).length)).toArray).ownsRow B 5 1 (.slice (some ⟨g, 0, none⟩) (bs.length + news.length) cap) (bs.length + news.length) (cellsOf (bs ++ news)) ∧
      w.grownBy (w.setRow g (cur.toList.take bs.length ++ cellsOf news ++ cur.toList.drop (bs.length + (cellsOf news).length)).toArray) (some g) := by
  rw [Nat.mul_one] at htake hcs
  refine ⟨⟨by rw [length_cellsOf, List.length_append, Nat.mul_one], .inr ⟨g, cap, _, rfl, hbg, setRow_heap w g cur _ _ _ hg, hroom, hcm, ?_, ?_⟩⟩, ⟨rfl, rfl, rfl, by simp, fun k _ hk => setRow_other w g k _ (fun e => hk (by rw [e]))⟩⟩
  · simp only [List.size_toArray, List.length_append, List.length_take, List.length_drop, Array.length_toList, length_cellsOf]
    omega
  · rw [htake, ← cellsOf_append]
    have : (bs.length + news.length) * 1 = (cellsOf (bs ++ news)).length := by rw [length_cellsOf, List.length_append, Nat.mul_one]
    rw [this]
    exact List.take_left

theorem arr3 (a b : List Value) (z : Array Value) : a.toArray ++ (b.toArray ++ z) = (a ++ b).toArray ++ z := by
  apply Array.ext'
  simp
/-- Noughts, as many as a number tells. -/
theorem run_append_noughts (w : World) (B : Nat) (tx ty : TypeId) (kd : IntKind) (htx : Try.prog.underlying tx = some (.int kd)) (v : Value) (bs : List Nat) (hown : w.ownsRow B 5 1 v bs.length (cellsOf bs)) (m : Nat) (hl : bs.length + m ≤ 1000000000) (hB : B ≤ w.heap.size) :
    ∃ v' w', (Builtin.append_ #[40, tx] ty #[v, .int kd m]).run Try.prog w = .ok v' w' ∧ w'.ownsRow B 5 1 v' (bs.length + m) (cellsOf (bs ++ List.replicate m 0)) ∧ w.grownBy w' v.ownBlock := by
  obtain ⟨i, hi, hz, hsize, hby⟩ := info_parts Try.infoU8
  have ht := Try.underlying40
  have wm : IntKind.i64.wrap (m : Int) = (m : Int) := IntWalk.i64_in _ (by omega)
  have n1 : ¬ (m : Int) < 0 := by omega
  have n2 : ¬ ((281474976710656 : Int) < (m : Int)) := by omega
  have hm' : (List.replicate m 0).length = m := by simp
  have hz' := zeros_list m
  have hvc : (Value.int IntKind.u8 0).cells = #[Value.int .u8 0] := rfl
  have n3 : ¬ ((9223372036854775807 : Int) < (m : Int)) := by omega
  have hzc : Builtin.zeroCells #[Value.int .u8 0] m = (cellsOf (List.replicate m 0)).toArray := by rw [← hz']
  rcases hown.2 with ⟨rfl, h0⟩ | ⟨g, cap, cur, rfl, hbg, hg, hnc, hcm, hcs, htake⟩
  · have hb : bs = [] := List.eq_nil_of_length_eq_zero h0
    subst hb
    by_cases hm : m = 0
    · subst hm
      refine ⟨.slice none 0 0, w, ?_, by simpa [cellsOf] using World.ownsRow_nil w B 5 1, World.grownBy.refl _ _⟩
      simp [Builtin.append_, run_underlying ht, run_underlying htx, sizeOf, typeInfo, hi, hby, asInt, asIntOf, show IntKind.i64.wrap 0 = 0 from rfl]
    · have hgr := grown_row w B [] (List.replicate m 0) 0 hB (by simp; omega) (Value.ownBlock (.slice none 0 0))
      rw [hm'] at hgr
      simp only [List.length_nil, Nat.zero_add] at hgr
      refine ⟨_, _, ?_, by simpa using hgr.1, hgr.2⟩
      have h48' : ¬ (281474976710656 < Builtin.nextslicecap m 0) := by rw [nextslicecap_zero (by omega)]; omega
      simp [Builtin.append_, run_underlying ht, run_underlying htx, sizeOf, typeInfo, zeroValue, hi, hz, hsize, hby, asInt, asIntOf, wm, n1, n2, hm, h48', Question.forced, run_firstCells_none, newRow, grownCap, hvc, hzc, n3]
      rfl
  · by_cases hroom : bs.length + m ≤ cap
    · have hr := room_row w B bs (List.replicate m 0) g cap cur hbg hg hcm hcs htake (by rw [hm']; exact hroom)
      rw [hm'] at hr
      refine ⟨_, _, ?_, hr.1, hr.2⟩
      have hst := run_storeCells_at Try.prog g bs.length 5 (cellsOf (List.replicate m 0)) 0 cur w hg (by rw [length_cellsOf, hm', hcs]; omega) (cellsOf_one _)
      simp only [Nat.add_zero] at hst
      simp [Builtin.append_, run_underlying ht, run_underlying htx, sizeOf, typeInfo, zeroValue, hi, hz, hsize, hby, asInt, asIntOf, wm, n1, n2, hroom, hvc, hzc, Addr.add_lit]
      by_cases hm : m = 0
      · subst hm
        simp only [List.replicate_zero, cellsOf, List.map_nil] at hst ⊢
        rw [if_pos trivial, hst]
        simp
      · rw [if_neg hm, hst]
        simp
    · have holds : ∀ j u, (cellsOf bs)[j]? = some u → w.cell? ((⟨g, 0, none⟩ : Addr).add j) = some u := hown.cells (g := g) rfl
      have hfo := run_firstCells_some (P := Try.prog) w.drew 1 bs.length ⟨g, 0, none⟩ bs.length cap (cellsOf bs) (by rw [length_cellsOf, Nat.mul_one]) (by simpa using holds)
      have h48' : ¬ (281474976710656 < Builtin.nextslicecap (bs.length + m) cap) := by
        have := growslice_fits (need := bs.length + m) (old := cap) (bytes := 1) (by omega) (by omega)
        omega
      have h63' : ¬ (9223372036854775807 < ((bs.length : Int) + (m : Int))) := by omega
      have hgr := grown_row w B bs (List.replicate m 0) cap hB (by rw [hm']; exact hl) (Value.ownBlock (.slice (some ⟨g, 0, none⟩) bs.length cap))
      rw [hm'] at hgr
      refine ⟨_, _, ?_, hgr.1, hgr.2⟩
      have hm0 : ¬ m = 0 := fun h => hroom (by omega)
      simp [Builtin.append_, run_underlying ht, run_underlying htx, sizeOf, typeInfo, zeroValue, hi, hz, hsize, hby, asInt, asIntOf, wm, n1, n2, hroom, h48', h63', hm0, Question.forced, hfo, newRow, grownCap, hvc, hzc]
      rw [arr3]

/-- The bytes of a string. -/
def strB (x : ByteArray) : List Nat := x.data.toList.map UInt8.toNat
theorem strB_len (x : ByteArray) : (strB x).length = x.size := by simp [strB]
theorem strB_cells (x : ByteArray) : x.data.map (fun b : UInt8 => Value.int .u8 (b.toNat : Int)) = (cellsOf (strB x)).toArray := by
  apply Array.ext'
  simp [strB, cellsOf]
theorem strB_cut (x : ByteArray) : (Array.map (fun b : UInt8 => Value.int IntKind.u8 (b.toNat : Int)) x.data).extract 0 x.size = Array.map (fun b : UInt8 => Value.int IntKind.u8 (b.toNat : Int)) x.data := by
  have hs : x.size = (Array.map (fun b : UInt8 => Value.int IntKind.u8 (b.toNat : Int)) x.data).size := by rw [Array.size_map]; rfl
  rw [hs, Array.extract_size]
theorem run_append_text (w : World) (B : Nat) (tx ty : TypeId) (htx : Try.prog.underlying tx = some .string) (v : Value) (bs : List Nat) (hown : w.ownsRow B 5 1 v bs.length (cellsOf bs)) (x : ByteArray) (hl : bs.length + x.size ≤ 1000000000) (hB : B ≤ w.heap.size) :
    ∃ v' w', (Builtin.append_ #[40, tx] ty #[v, .string x]).run Try.prog w = .ok v' w' ∧ w'.ownsRow B 5 1 v' (bs.length + x.size) (cellsOf (bs ++ strB x)) ∧ w.grownBy w' v.ownBlock := by
  obtain ⟨i, hi, hz, hsize, hby⟩ := info_parts Try.infoU8
  have ht := Try.underlying40
  have hvc : (Value.int IntKind.u8 0).cells = #[Value.int .u8 0] := rfl
  have hm' := strB_len x
  have hzc := strB_cells x
  rcases hown.2 with ⟨rfl, h0⟩ | ⟨g, cap, cur, rfl, hbg, hg, hnc, hcm, hcs, htake⟩
  · have hb : bs = [] := List.eq_nil_of_length_eq_zero h0
    subst hb
    by_cases hm : x.size = 0
    · have hsb : strB x = [] := List.eq_nil_of_length_eq_zero (by rw [hm', hm])
      refine ⟨.slice none 0 0, w, ?_, by rw [hsb, hm]; simpa [cellsOf] using World.ownsRow_nil w B 5 1, World.grownBy.refl _ _⟩
      simp [Builtin.append_, run_underlying ht, run_underlying htx, sizeOf, typeInfo, hi, hby, Builtin.lenOf, Builtin.firstCells, hm]
    · have hgr := grown_row w B [] (strB x) 0 hB (by rw [hm']; exact hl) (Value.ownBlock (.slice none 0 0))
      rw [hm'] at hgr
      simp only [List.length_nil, Nat.zero_add] at hgr
      refine ⟨_, _, ?_, by simpa using hgr.1, hgr.2⟩
      have hnil : cellsOf [] = [] := rfl
      rw [run_append_nil_string (P := Try.prog) w 40 tx ty 5 i (.int .u8 0) ht htx hi hz x (by omega) (by simp only [List.length_nil] at hl; omega) (by rw [hby]; simp only [List.length_nil] at hl; omega), hzc, hvc, hnil]
      simp
  · by_cases hroom : bs.length + x.size ≤ cap
    · have hr := room_row w B bs (strB x) g cap cur hbg hg hcm hcs htake (by rw [hm']; exact hroom)
      rw [hm'] at hr
      refine ⟨_, _, ?_, hr.1, hr.2⟩
      have hst := run_storeCells_at Try.prog g bs.length 5 (cellsOf (strB x)) 0 cur w hg (by rw [length_cellsOf, hm', hcs]; omega) (cellsOf_one _)
      simp only [Nat.add_zero] at hst
      have htk : List.take x.size (cellsOf (strB x)) = cellsOf (strB x) := List.take_of_length_le (by rw [length_cellsOf, hm']; exact Nat.le_refl _)
      simp [Builtin.append_, run_underlying ht, run_underlying htx, sizeOf, typeInfo, zeroValue, hi, hz, hsize, hby, Builtin.lenOf, Builtin.firstCells, hroom, hzc, Addr.add_lit, htk, hst]
    · have holds : ∀ j u, (cellsOf bs)[j]? = some u → w.cell? ((⟨g, 0, none⟩ : Addr).add j) = some u := hown.cells (g := g) rfl
      have hfo := run_firstCells_some (P := Try.prog) w.drew 1 bs.length ⟨g, 0, none⟩ bs.length cap (cellsOf bs) (by rw [length_cellsOf, Nat.mul_one]) (by simpa using holds)
      have h48' : ¬ (281474976710656 < Builtin.nextslicecap (bs.length + x.size) cap) := by
        have := growslice_fits (need := bs.length + x.size) (old := cap) (bytes := 1) (by omega) (by omega)
        omega
      have h63' : ¬ (9223372036854775807 < ((bs.length : Int) + (x.size : Int))) := by omega
      have hgr := grown_row w B bs (strB x) cap hB (by rw [hm']; exact hl) (Value.ownBlock (.slice (some ⟨g, 0, none⟩) bs.length cap))
      rw [hm'] at hgr
      refine ⟨_, _, ?_, hgr.1, hgr.2⟩
      have htk : List.take x.size (cellsOf (strB x)) = cellsOf (strB x) := List.take_of_length_le (by rw [length_cellsOf, hm']; exact Nat.le_refl _)
      simp only [Builtin.firstCells, Nat.mul_one] at hfo
      simp [Builtin.append_, run_underlying ht, run_underlying htx, sizeOf, typeInfo, zeroValue, hi, hz, hsize, hby, Builtin.lenOf, hroom, h48', h63', Question.forced, hfo, Builtin.firstCells, newRow, grownCap, hvc, hzc, htk]
      rw [arr3]

theorem src_is {w : World} {g n c : Nat} {t : TypeId} {ys : List Nat} (h : Is w g t (cellsOf ys).toArray) (hn : ys.length = n) (hc : n ≤ c) : Src w (.slice (some ⟨g, 0, none⟩) n c) ys := by
  subst hn
  refine .inr ⟨_, c, rfl, hc, fun j u hu => ?_⟩
  rw [add_plain, Nat.zero_add, h.cell j]
  simpa using hu
/-- A row of bytes in the making, in new memory of w0. -/
structure Acc (w0 : World) (v : Value) (out : List Nat) (w : World) : Prop where
  own : w.ownsRow w0.heap.size 5 1 v out.length (cellsOf out)
  pure : Only (fun _ => False) w0 w
theorem Acc.slice {w0 w : World} {v : Value} {out : List Nat} (h : Acc w0 v out w) : ∃ A c, v = .slice A out.length c := by
  obtain ⟨A, c, h, _⟩ := own_slice h.own
  exact ⟨A, c, h⟩
theorem Acc.go {w0 w w1 : World} {v : Value} {out : List Nat} (h : Acc w0 v out w) (ho : Only (fun _ => False) w w1) : Acc w0 v out w1 := ⟨own_only h.own ho (by simp), only_more h.pure ho⟩
theorem Acc.grown {w0 w w1 : World} {v v1 : Value} {out out1 : List Nat} (h : Acc w0 v out w) (hown : w1.ownsRow w0.heap.size 5 1 v1 out1.length (cellsOf out1)) (hg : w.grownBy w1 v.ownBlock) : Acc w0 v1 out1 w1 :=
  ⟨hown, h.pure.trans ((Only.refl (fun k => v.ownBlock = some k) w).grown hg (fun i hi _ => hi)) (fun i hi e => by have := (h.own.lt i e).1; omega)⟩
section
variable {ops : Array Oper} {rest : List Oper} {o : Oper} {a : Act} {K : Act → World → Prop} {Q : Exit → Act → World → Prop} {w0 w : World} {v : Value} {out : List Nat}
theorem grown_step {w w' : World} {v : Value} (h : w.grownBy w' v.ownBlock) : Only (fun k => v.ownBlock = some k) w w' := (Only.refl _ w).grown h (fun i hi _ => hi)
theorem acc_src (s x : Operand) (ho : o.op = .call { callee := .builtin .append, args := #[s, x], argTypes := #[40, 40] })
    (hacc : Acc w0 v out w) (hs : a.eval s = v) (vx : Value) (news : List Nat) (hx : a.eval x = vx) (hsrc : Src w vx news) (hl : out.length + news.length ≤ 1000000000)
    (h : ∀ v' w', Acc w0 v' (out ++ news) w' → Only (fun k => v.ownBlock = some k) w w' → K (a.put o.dst v') w') : Oper.wp Try.prog o a w K Q :=
  wp_append_src w s x ho w0.heap.size v out hs hacc.own vx news hx hsrc (by omega) hacc.pure.size (fun v' w' h1 h2 => h v' w' (hacc.grown (by rw [List.length_append, cellsOf_append]; exact h1) h2) (grown_step h2))
theorem acc_noughts (s x : Operand) (tx : TypeId) (kd : IntKind) (htx : Try.prog.underlying tx = some (.int kd)) (ho : o.op = .call { callee := .builtin .append, args := #[s, x], argTypes := #[40, tx] })
    (hacc : Acc w0 v out w) (hs : a.eval s = v) (m : Nat) (hx : a.eval x = .int kd m) (hl : out.length + m ≤ 1000000000)
    (h : ∀ v' w', Acc w0 v' (out ++ List.replicate m 0) w' → Only (fun k => v.ownBlock = some k) w w' → K (a.put o.dst v') w') : Oper.wp Try.prog o a w K Q := by
  obtain ⟨v', w', hr, h1, h2⟩ := run_append_noughts w w0.heap.size tx o.type kd htx v out hacc.own m hl hacc.pure.size
  unfold Oper.wp execOp
  simp only [ho, resolve, invoke, builtin, Sem.run_bind, Sem.run_pure, Result.andThen_ok, List.map_toArray, List.map_cons, List.map_nil, hs, hx, hr]
  exact h v' w' (hacc.grown (by rw [List.length_append, List.length_replicate]; exact h1) h2) (grown_step h2)
theorem acc_text (s x : Operand) (tx : TypeId) (htx : Try.prog.underlying tx = some .string) (ho : o.op = .call { callee := .builtin .append, args := #[s, x], argTypes := #[40, tx] })
    (hacc : Acc w0 v out w) (hs : a.eval s = v) (t : ByteArray) (hx : a.eval x = .string t) (hl : out.length + t.size ≤ 1000000000)
    (h : ∀ v' w', Acc w0 v' (out ++ strB t) w' → Only (fun k => v.ownBlock = some k) w w' → K (a.put o.dst v') w') : Oper.wp Try.prog o a w K Q := by
  obtain ⟨v', w', hr, h1, h2⟩ := run_append_text w w0.heap.size tx o.type htx v out hacc.own t hl hacc.pure.size
  unfold Oper.wp execOp
  simp only [ho, resolve, invoke, builtin, Sem.run_bind, Sem.run_pure, Result.andThen_ok, List.map_toArray, List.map_cons, List.map_nil, hs, hx, hr]
  exact h v' w' (hacc.grown (by rw [List.length_append, strB_len]; exact h1) h2) (grown_step h2)
theorem acc_lit (s x : Operand) (ho : o.op = .call { callee := .builtin .append, args := #[s, x], argTypes := #[40, 40] })
    (hacc : Acc w0 v out w) (hs : a.eval s = v) (ys : List Nat) (hx : a.eval x = .slice (some ⟨w.heap.size, 0, none⟩) ys.length ys.length) (hl : out.length + ys.length ≤ 1000000000)
    (h : ∀ v' w', Acc w0 v' (out ++ ys) w' → Only (fun k => v.ownBlock = some k) w w' → K (a.put o.dst v') w') : Oper.wp Try.prog o a (w.alloc (.cells (cellsOf ys).toArray 5)) K Q :=
  acc_src s x ho (hacc.go ((Only.refl _ w).alloc _)) hs _ ys hx (src_lit w ys) hl (fun v' w' h1 h2 => h v' w' h1 (((Only.refl _ w).alloc _).trans h2 (fun _ _ e => e)))
theorem wpList_acc_src (hgd : o.guard = none) (s x : Operand) (ho : o.op = .call { callee := .builtin .append, args := #[s, x], argTypes := #[40, 40] })
    (hacc : Acc w0 v out w) (hs : a.eval s = v) (vx : Value) (news : List Nat) (hx : a.eval x = vx) (hsrc : Src w vx news) (hl : out.length + news.length ≤ 1000000000)
    (h : ∀ v' w', Acc w0 v' (out ++ news) w' → Only (fun k => v.ownBlock = some k) w w' → wpList Try.prog ops Q rest (a.put o.dst v') w') : wpList Try.prog ops Q (o :: rest) a w :=
  wpList_plain hgd fun _ hK => acc_src s x ho hacc hs vx news hx hsrc hl fun v' w' h1 h2 => hK _ _ (h v' w' h1 h2)
theorem wpList_acc_noughts (hgd : o.guard = none) (s x : Operand) (tx : TypeId) (kd : IntKind) (htx : Try.prog.underlying tx = some (.int kd)) (ho : o.op = .call { callee := .builtin .append, args := #[s, x], argTypes := #[40, tx] })
    (hacc : Acc w0 v out w) (hs : a.eval s = v) (m : Nat) (hx : a.eval x = .int kd m) (hl : out.length + m ≤ 1000000000)
    (h : ∀ v' w', Acc w0 v' (out ++ List.replicate m 0) w' → Only (fun k => v.ownBlock = some k) w w' → wpList Try.prog ops Q rest (a.put o.dst v') w') : wpList Try.prog ops Q (o :: rest) a w :=
  wpList_plain hgd fun _ hK => acc_noughts s x tx kd htx ho hacc hs m hx hl fun v' w' h1 h2 => hK _ _ (h v' w' h1 h2)
theorem wpList_acc_text (hgd : o.guard = none) (s x : Operand) (tx : TypeId) (htx : Try.prog.underlying tx = some .string) (ho : o.op = .call { callee := .builtin .append, args := #[s, x], argTypes := #[40, tx] })
    (hacc : Acc w0 v out w) (hs : a.eval s = v) (t : ByteArray) (hx : a.eval x = .string t) (hl : out.length + t.size ≤ 1000000000)
    (h : ∀ v' w', Acc w0 v' (out ++ strB t) w' → Only (fun k => v.ownBlock = some k) w w' → wpList Try.prog ops Q rest (a.put o.dst v') w') : wpList Try.prog ops Q (o :: rest) a w :=
  wpList_plain hgd fun _ hK => acc_text s x tx htx ho hacc hs t hx hl fun v' w' h1 h2 => hK _ _ (h v' w' h1 h2)
theorem wpList_acc_lit (hgd : o.guard = none) (s x : Operand) (ho : o.op = .call { callee := .builtin .append, args := #[s, x], argTypes := #[40, 40] })
    (hacc : Acc w0 v out w) (hs : a.eval s = v) (ys : List Nat) (hx : a.eval x = .slice (some ⟨w.heap.size, 0, none⟩) ys.length ys.length) (hl : out.length + ys.length ≤ 1000000000)
    (h : ∀ v' w', Acc w0 v' (out ++ ys) w' → Only (fun k => v.ownBlock = some k) w w' → wpList Try.prog ops Q rest (a.put o.dst v') w') : wpList Try.prog ops Q (o :: rest) a (w.alloc (.cells (cellsOf ys).toArray 5)) :=
  wpList_plain hgd fun _ hK => acc_lit s x ho hacc hs ys hx hl fun v' w' h1 h2 => hK _ _ (h v' w' h1 h2)
end
end Go.Proofs.Ytdcclighccejhaa

/- The reference of layer 1, and what statements share: copies, digits of bytes, numbers of digits. What each call answers. Conditions: as each says. -/
set_option linter.unusedVariables false
namespace Go.Proofs.Ytdcclighccejhaa
open Go.RowKit

/-- A byte is appended to a row that is owned: the law at the operation. -/
theorem append_lit {ops : Array Oper} {rest : List Oper} {o : Oper} {a : Act} {Q : Exit → Act → World → Prop} (wr : World) (hgd : o.guard = none) (s x : Operand)
    (ho : o.op = .call { callee := .builtin .append, args := #[s, x], argTypes := #[40, 40] })
    (B : Nat) (ds : List Nat) (v : Value) (hs : a.eval s = v) (hown : wr.ownsRow B 5 1 v ds.length (cellsOf ds)) (Y : Int) (y : Nat) (hY : Y = (y : Int))
    (hx : a.eval x = .slice (some ⟨wr.heap.size, 0, none⟩) 1 1) (hl : ds.length ≤ 70368744177664) (hB : B ≤ wr.heap.size)
    (h : ∀ v' w', w'.ownsRow B 5 1 v' (ds ++ [y]).length (cellsOf (ds ++ [y])) → Only (fun k => v.ownBlock = some k) wr w' → wpList Try.prog ops Q rest (a.put o.dst v') w') :
    wpList Try.prog ops Q (o :: rest) a (wr.alloc (.cells #[.int .u8 Y] 5)) := by
  subst hY
  obtain ⟨i0, hi, hz0, hz1, hz2⟩ := info_parts Try.infoU8
  refine wpList_append_own _ hgd s x 40 ho B 5 i0 (.int .u8 0) 1 1 Try.underlying40 hi hz0 hz1 hz2 rfl (by decide) v ds.length (cellsOf ds) hs (hown.alloc _) ⟨wr.heap.size, 0, none⟩ 1 1 [.int .u8 (y : Int)] hx rfl (cell_one_new _ _ _) (by simp [Value.oneCell']) (by unfold maxLen; omega) (by omega) (by simp; omega) ?_
  intro v' w' hown' hg _
  refine h v' w' ?_ (((Only.refl _ wr).alloc _).grown hg (fun i hi _ => hi))
  rw [List.length_append, cellsOf_append]
  exact hown'

/-- A row of new memory: what is done to it touches nothing that was there. -/
theorem only_row {w w1 w2 : World} {v : Value} {B n : Nat} {t : TypeId} {xs : List Value} (h : Only (fun _ => False) w w1) (hown : w1.ownsRow B t 1 v n xs) (hB : w.heap.size ≤ B) (ho : Only (fun k => v.ownBlock = some k) w1 w2) : Only (fun _ => False) w w2 :=
  h.trans ho (fun i hi e => by have := (hown.lt i e).1; omega)

set_option maxRecDepth 100000 in
set_option maxHeartbeats 400000 in
theorem kitown_is (v : Value) (bs : List Nat) (w : World) (B : Nat) (hB : B ≤ w.heap.size) (hs : Src w v bs) (hn : bs.length ≤ 140737488355328) :
    Calls Try.prog 37 #[v] w (OwnRow B (cellsOf bs) w) := by
  obtain ⟨i0, hi, hz0, hz1, hz2⟩ := info_parts Try.infoU8
  rcases hs with ⟨rfl, rfl⟩ | ⟨a, c, rfl, _, hc⟩
  · have happ : ∀ w : World, (Builtin.append_ #[40, 40] 40 #[.slice none 0 0, .slice none 0 0]).run Try.prog w = .ok (.slice none 0 0) w := fun w => run_append_owned_none (P := Try.prog) w 0 40 40 5 i0 1 Try.underlying40 hi _ 0 [] (World.ownsRow_nil w 0 5 1)
    go_enter Try.func37, Try.ntmps37
    go_wp2
    go_ret
    exact ⟨_, rfl, World.ownsRow_nil _ _ _ _, Only.refl _ _, by simp [Value.ownBlock]⟩
  · have Hc := Lib.hid hc
    clear hc
    generalize hbl : bs.length = n at *
    have HBL := Lib.hid hbl
    clear hbl
    go_enter Try.func37, Try.ntmps37
    go_wp2_with (at_builtin; refine wpList_append_own _ rfl _ _ 40 rfl w.heap.size 5 i0 (.int .u8 0) 1 1 Try.underlying40 hi hz0 hz1 hz2 rfl (by decide) _ 0 [] rfl (World.ownsRow_nil w w.heap.size 5 1) a n c (cellsOf bs) rfl (by rw [length_cellsOf, HBL.out, Nat.mul_one]) Hc.out (cellsOf_one bs) (by unfold maxLen; omega) (by omega) (Nat.le_refl _) ?_)
    intro v' w1 hown hg _
    go_wp2
    go_ret
    rw [← HBL.out, ← length_cellsOf] at hown
    refine ⟨_, rfl, ?_, ?_, fun k hk => (hown.lt k hk).1⟩
    · obtain ⟨q1, q2⟩ := hown
      refine ⟨q1, ?_⟩
      rcases q2 with q2 | ⟨g, cap, cur, r1, r2, r3⟩
      · exact .inl q2
      · exact .inr ⟨g, cap, cur, r1, by omega, r3⟩
    · exact (Only.refl _ w).grown hg (fun i hi hlt => by simp [Value.ownBlock] at hi)

set_option maxRecDepth 100000 in
set_option maxHeartbeats 400000 in
theorem spoil_is (v : Value) (n B : Nat) (xs : List Value) (w : World) (h : w.ownsRow B 5 1 v n xs) (hn : n ≤ 140737488355328) :
    Calls Try.prog 38 #[v] w fun e w' => e = .returned (.tuple #[]) ∧ Only (fun k => v.ownBlock = some k) w w' := by
  rcases Nat.eq_zero_or_pos n with rfl | hpos
  · obtain ⟨A, c, rfl, _⟩ := own_slice h
    clear h
    go_enter Try.func38, Try.ntmps38
    go_wp2
    go_loopw [2] (fun i wr => i = .int .i64 0 ∧ w = wr) (fun _ _ => 0)
    case atStart => exact ⟨rfl, rfl⟩
    case round =>
      obtain ⟨rfl, rfl⟩ := hrel
      go_wp2
      go_end0
      exact ⟨rfl, Only.refl _ _⟩
  · obtain ⟨g, cap, rfl, hb, hlt⟩ := h.form hpos
    have HH := Lib.hid h
    clear h
    go_enter Try.func38, Try.ntmps38
    go_wp2
    go_loopw [2] (fun i wr => ∃ (k : Nat) (ys : List Value), k ≤ n ∧ i = .int .i64 k ∧ wr.ownsRow B 5 1 (.slice (some ⟨g, 0, none⟩) n cap) n ys ∧ Only (fun k => k = g) w wr) (fun i _ => n - (intOf i).toNat)
    case atStart => exact ⟨0, xs, by omega, rfl, HH.out, Only.refl _ _⟩
    case round =>
      obtain ⟨k, ys, hk, rfl, hown, ho⟩ := hrel
      have HW := Lib.hid hown
      have HO := Lib.hid ho
      by_cases hkn : k < n
      · have hl := hown.1
        have qc : wr.cell? ⟨g, k, none⟩ = some ys[k] := by
          rw [hown.cellAt k (by omega)]
          exact List.getElem?_eq_getElem (by omega)
        have qf := hown.frozenAt k
        generalize ys[k] = y at *
        clear hown ho hl
        go_wp2
        go_roundw
        case rel =>
          refine ⟨k + 1, _, by omega, by go_num, (HW.out.stored k _).1, HO.out.set (fun _ => rfl) _⟩
        case measure => simp [intOf]; omega
      · clear hown ho
        go_wp2
        go_end0
        exact ⟨rfl, HO.out.mono (fun i _ e => by subst e; rfl)⟩
end Go.Proofs.Ytdcclighccejhaa

/- A region that draws its order, operation by operation: each once, whatever the order. Conditions: as it says. -/
set_option linter.unusedVariables false
namespace Go.Proofs.Ytdcclighccejhaa
open Go

/-- The operations that an operation's own edges name. -/
def Reg.deps (o : Oper) : List Nat := o.after.toList.filterMap fun e => if Region.binds .any e then some e.on else none
/-- All that stand ahead of each operation. -/
def Reg.aheads : List Oper → List (List Nat) → List (List Nat)
  | [], acc => acc
  | o :: os, acc => Reg.aheads os (acc ++ [(Reg.deps o ++ (Reg.deps o).flatMap fun k => acc.getD k []).eraseDups])
def Reg.ahead (ops : Array Oper) : List (List Nat) := Reg.aheads ops.toList []
def Reg.select : Op → Bool
  | .select .. => true
  | _ => false
/-- What of a region is looked through by reckoning. -/
def Reg.okAt (ops : Array Oper) (A : List (List Nat)) (i : Nat) (o : Oper) : Bool :=
  (Reg.deps o).all (fun k => decide (k < i)) &&
  (A.getD i []).all (fun j => (Reg.deps o).any fun k => k == j || (A.getD k []).contains j) &&
  (List.range ops.size).all (fun j => match (ops[j]?).bind (·.dst) with
    | none => true
    | some t => (!(o.looksAt ops).contains t || (A.getD i []).contains j) && (j == i || o.dst != some t)) &&
  !Reg.select o.op
def Reg.ok (ops : Array Oper) (A : List (List Nat)) : Bool :=
  (List.range ops.size).all fun i => match ops[i]? with
    | none => true
    | some o => Reg.okAt ops A i o

section
variable {P : Program} {ops : Array Oper} {Q : Exit → Act → World → Prop}

theorem Reg.ok_at {A : List (List Nat)} (h : Reg.ok ops A = true) {i : Nat} {o : Oper} (ho : ops[i]? = some o) : Reg.okAt ops A i o = true := by
  have hi : i < ops.size := (Array.getElem?_eq_some_iff.1 ho).1
  simp only [Reg.ok, List.all_eq_true, List.mem_range] at h
  have := h i hi
  rw [ho] at this
  exact this

/-- Some of the operations' values are put into their slots. -/
def Reg.part (ops : Array Oper) (L : Nat → Bool) (x : Nat → Value) (js : List Nat) (a : Act) : Act :=
  js.foldl (fun a j => if L j then a.put ((ops[j]?).bind (·.dst)) (x j) else a) a
/-- All of them. -/
def Reg.fill (ops : Array Oper) (x : Nat → Value) (a : Act) : Act := Reg.part ops (fun _ => true) x (List.range ops.size) a

theorem Act.put_size (a : Act) (d : Option Tmp) (v : Value) : (a.put d v).tmps.size = a.tmps.size := by cases d <;> simp [Act.put]
theorem Act.put_def (a : Act) (d : Option Tmp) (v : Value) : (a.put d v).defers = a.defers := by cases d <;> rfl
theorem Act.put_get (a b : Act) (d : Option Tmp) (v : Value) (t : Nat) (hs : a.tmps.size = b.tmps.size) (h : a.tmps[t]? = b.tmps[t]?) : (a.put d v).tmps[t]? = (b.put d v).tmps[t]? := by
  cases d with
  | none => exact h
  | some d => simp only [Act.put, Array.getElem?_setIfInBounds, hs, h]
theorem Act.put_get_ne (a : Act) (d : Option Tmp) (v : Value) (t : Nat) (h : d ≠ some t) : (a.put d v).tmps[t]? = a.tmps[t]? := by
  cases d with
  | none => rfl
  | some d => simp only [Act.put]; rw [Array.getElem?_setIfInBounds_ne (fun e => h (by rw [e]))]

theorem Reg.part_same (L : Nat → Bool) (x : Nat → Value) : ∀ (js : List Nat) (a b : Act), (Reg.part ops L x js a).tmps.size = a.tmps.size ∧ (Reg.part ops L x js a).defers = a.defers := by
  intro js
  induction js with
  | nil => intro a b; exact ⟨rfl, rfl⟩
  | cons j js ih =>
    intro a b
    simp only [Reg.part, List.foldl_cons] at ih ⊢
    obtain ⟨h1, h2⟩ := ih (if L j = true then a.put ((ops[j]?).bind (·.dst)) (x j) else a) a
    rw [h1, h2]
    split
    · exact ⟨Act.put_size .., Act.put_def ..⟩
    · exact ⟨rfl, rfl⟩

/-- A slot that no unlisted operation writes is the same, if all are put. -/
theorem Reg.part_get (L M : Nat → Bool) (x : Nat → Value) (t : Nat) : ∀ (js : List Nat) (a b : Act), a.tmps.size = b.tmps.size → a.tmps[t]? = b.tmps[t]? →
    (∀ j ∈ js, (ops[j]?).bind (·.dst) = some t → L j = true ∧ M j = true) → (Reg.part ops L x js a).tmps[t]? = (Reg.part ops M x js b).tmps[t]? := by
  intro js
  induction js with
  | nil => intro a b _ h _; exact h
  | cons j js ih =>
    intro a b hs h hl
    simp only [Reg.part, List.foldl_cons] at ih ⊢
    have hsz : ∀ (c : Bool) (a : Act), (if c = true then a.put ((ops[j]?).bind (·.dst)) (x j) else a).tmps.size = a.tmps.size := fun c a => by
      cases c <;> simp [Act.put_size]
    refine ih _ _ (by rw [hsz, hsz]; exact hs) ?_ (fun k hk => hl k (List.mem_cons_of_mem _ hk))
    by_cases hd : (ops[j]?).bind (·.dst) = some t
    · obtain ⟨h1, h2⟩ := hl j (List.mem_cons_self ..) hd
      rw [h1, h2]
      simp only [if_true]
      exact Act.put_get a b _ _ t hs h
    · have e : ∀ (c : Bool) (a : Act), (if c = true then a.put ((ops[j]?).bind (·.dst)) (x j) else a).tmps[t]? = a.tmps[t]? := fun c a => by
        cases c
        · simp
        · simpa using Act.put_get_ne a _ _ t hd
      rw [e, e]
      exact h

/-- One more is put. -/
theorem Reg.part_put (L : Nat → Bool) (x : Nat → Value) (i : Nat) (v : Value) (hi : L i = false) (hd : ∀ j, j ≠ i → (ops[j]?).bind (·.dst) = (ops[i]?).bind (·.dst) → (ops[i]?).bind (·.dst) = none) :
    ∀ (js : List Nat) (a : Act), js.Nodup → i ∈ js → Reg.part ops (fun j => L j || j == i) (fun j => if j = i then v else x j) js a = (Reg.part ops L x js a).put ((ops[i]?).bind (·.dst)) v := by
  have comm : ∀ (js : List Nat) (a : Act), i ∉ js → Reg.part ops (fun j => L j || j == i) (fun j => if j = i then v else x j) js (a.put ((ops[i]?).bind (·.dst)) v) = (Reg.part ops L x js a).put ((ops[i]?).bind (·.dst)) v := by
    intro js
    induction js with
    | nil => intro a _; rfl
    | cons j js ih =>
      intro a hn
      simp only [Reg.part, List.foldl_cons] at ih ⊢
      have hji : j ≠ i := fun e => hn (by rw [e]; exact List.mem_cons_self ..)
      have hn' : i ∉ js := fun h => hn (List.mem_cons_of_mem _ h)
      have e1 : (j == i) = false := by simpa using hji
      simp only [e1, Bool.or_false, if_neg hji]
      cases hL : L j
      · simp only [Bool.false_eq_true, if_false]; exact ih a hn'
      · simp only [if_true]
        rw [← ih _ hn']
        congr 1
        cases hdi : (ops[i]?).bind (·.dst) with
        | none => rfl
        | some d =>
          exact Act.put_comm _ _ _ (fun d' h' h'' => by
            injection h' with h'
            subst h'
            have := hd j hji (by rw [h'', hdi])
            rw [hdi] at this
            cases this)
  intro js
  induction js with
  | nil => intro a _ h; cases h
  | cons j js ih =>
    intro a hnd hmem
    obtain ⟨hn, hnd'⟩ := List.nodup_cons.1 hnd
    by_cases hji : j = i
    · subst hji
      have := comm js a hn
      simp only [Reg.part, List.foldl_cons] at this ⊢
      simp only [hi, beq_self_eq_true, Bool.or_true, if_true, Bool.false_eq_true, if_false]
      exact this
    · have hm : i ∈ js := by
        cases hmem with
        | head => exact absurd rfl hji
        | tail _ h => exact h
      have e1 : (j == i) = false := by simpa using hji
      have := fun a => ih a hnd' hm
      simp only [Reg.part, List.foldl_cons] at this ⊢
      simp only [e1, Bool.or_false, if_neg hji]
      exact this _

theorem Reg.part_congr (L : Nat → Bool) (x y : Nat → Value) : ∀ (js : List Nat) (a : Act), (∀ j ∈ js, x j = y j) → Reg.part ops L x js a = Reg.part ops L y js a := by
  intro js
  induction js with
  | nil => intro a _; rfl
  | cons j js ih =>
    intro a h
    simp only [Reg.part, List.foldl_cons] at ih ⊢
    rw [h j (List.mem_cons_self ..)]
    exact ih _ (fun k hk => h k (List.mem_cons_of_mem _ hk))
theorem Reg.part_list (L M : Nat → Bool) (x : Nat → Value) : ∀ (js : List Nat) (a : Act), (∀ j ∈ js, L j = M j) → Reg.part ops L x js a = Reg.part ops M x js a := by
  intro js
  induction js with
  | nil => intro a _; rfl
  | cons j js ih =>
    intro a h
    simp only [Reg.part, List.foldl_cons] at ih ⊢
    rw [h j (List.mem_cons_self ..)]
    exact ih _ (fun k hk => h k (List.mem_cons_of_mem _ hk))

/-- An operation that goes in one act goes in another one where its operands are the same; what it yields is put. -/
theorem Reg.wp_swap {o : Oper} {a b : Act} {w : World} {R : Value → World → Prop} (hs : Reg.select o.op = false) (hsz : a.tmps.size = b.tmps.size) (he : ∀ x ∈ o.op.operands, a.eval x = b.eval x)
    (h : Oper.wp P o a w (fun a' w' => ∃ v, a' = a.put o.dst v ∧ R v w') (fun _ _ _ => False)) :
    Oper.wp P o b w (fun b' w' => ∃ v, b' = b.put o.dst v ∧ R v w') Q := by
  have hsel : ∀ cs bl, o.op ≠ .select cs bl := fun cs bl e => by rw [e] at hs; simp [Reg.select] at hs
  have key : ∀ v v', a.put o.dst v = a.put o.dst v' → b.put o.dst v = b.put o.dst v' := fun v v' e => by
    cases hd : o.dst with
    | none => rfl
    | some d =>
      rw [hd] at e
      simp only [Act.put] at e ⊢
      by_cases hlt : d < a.tmps.size
      · have h1 := congrArg (fun z : Act => z.tmps[d]?) e
        simp [hlt] at h1
        rw [h1]
      · have hb : ¬ d < b.tmps.size := hsz ▸ hlt
        simp [Array.setIfInBounds, hb]
  unfold Oper.wp at *
  rw [execOp_congr o hsel he] at h
  generalize (execOp b.eval o).run P w = r at *
  cases r with
  | ok n w' =>
    cases n <;> simp only [Oper.upon] at h ⊢
    case value v => obtain ⟨v', e, hR⟩ := h; exact ⟨v', key _ _ e, hR⟩
    case skip => obtain ⟨v', e, hR⟩ := h; exact ⟨v', key _ _ e, hR⟩
    case defer d =>
      obtain ⟨v', e, _⟩ := h
      have h1 := congrArg (fun z : Act => z.defers.length) e
      simp [Act.put_def] at h1
    case enter f args =>
      refine Calls.mono h (fun e w'' he => ?_)
      cases e with
      | returned v => obtain ⟨v', e, hR⟩ := he; exact ⟨v', key _ _ e, hR⟩
      | panicked c => exact he.elim
      | outgrown => obtain ⟨_, _, hf⟩ := he; exact hf.elim
    case row r args => refine Rows.mono h (fun v w'' he => ?_); obtain ⟨v', e, hR⟩ := he; exact ⟨v', key _ _ e, hR⟩
  | halt x w' => cases x <;> simp only [Oper.upon] at h <;> exact h.elim

/-- Of the values only those are shown that stand ahead of operation j, and its own. -/
def Reg.shown (A : List (List Nat)) (j : Nat) (x : Nat → Value) : Nat → Value := fun k => bif k == j || (A.getD j []).contains k then x k else undef
/-- What is known of each operation of a list. -/
def Reg.Each (p : Nat → Prop) : List Nat → Prop
  | [] => True
  | j :: js => p j ∧ Reg.Each p js
theorem Reg.each_iff {p : Nat → Prop} : ∀ {js : List Nat}, Reg.Each p js ↔ ∀ j ∈ js, p j
  | [] => by simp [Reg.Each]
  | j :: js => by simp only [Reg.Each, List.forall_mem_cons, Reg.each_iff]

theorem Reg.shown_upd (A : List (List Nat)) (i j : Nat) (x : Nat → Value) (v : Value) (hj : j ≠ i) (hA : (A.getD j []).contains i = false) : Reg.shown A j (fun k => if k = i then v else x k) = Reg.shown A j x := by
  funext k
  unfold Reg.shown
  by_cases hk : k = i
  · subst hk
    have : (k == j) = false := by simpa using Ne.symm hj
    simp only [this, hA, Bool.or_self, cond_false]
  · simp only [if_neg hk]

/-- All operations that are ready are met, each with all that stand ahead of it; then all are listed. -/
theorem Reg.wpAny_inv (A : List (List Nat)) (hok : Reg.ok ops A = true) (I : (Nat → Bool) → Act → World → Prop)
    (hstep : ∀ (L : Nat → Bool) a w i o, ops[i]? = some o → L i = false → (∀ j ∈ A.getD i [], L j = true) → (∀ j, j < ops.size → L j = true → ∀ k ∈ A.getD j [], L k = true) → I L a w → wpOp P ops Q i (I (fun j => L j || j == i)) a w)
    (hend : ∀ (L : Nat → Bool) a w, (∀ j, j < ops.size → L j = true) → I L a w → Q .normal a w) :
    ∀ (fuel : Nat) (listed : Array Bool) (a : Act) (w : World), listed.size = ops.size → (listed.toList.filter (! ·)).length = fuel →
      (∀ j, j < ops.size → listed.getD j true = true → ∀ k ∈ A.getD j [], listed.getD k false = true) →
      I (fun j => listed.getD j true) a w → wpAny P .any ops Q fuel listed a w := by
  have hdone : ∀ (listed : Array Bool), listed.size = ops.size → Region.ready .any ops listed = [] → ∀ j, j < ops.size → listed.getD j true = true := by
    intro listed hsz hr j
    induction j using Nat.strongRecOn with
    | ind j ih =>
      intro hj
      cases hl : listed.getD j true with
      | true => rfl
      | false =>
        exfalso
        have : j ∈ Region.ready .any ops listed := by
          refine mem_ready.2 ⟨hl, ops[j], by simp [hj], fun e he hb => ?_⟩
          have hoka := Reg.ok_at hok (i := j) (o := ops[j]) (by simp [hj])
          simp only [Reg.okAt, Bool.and_eq_true, List.all_eq_true, decide_eq_true_eq] at hoka
          have hlt := hoka.1.1.1 e.on (by
            unfold Reg.deps
            exact List.mem_filterMap.2 ⟨e, by simpa using he, by simp [hb]⟩)
          have := ih e.on hlt (by omega)
          have hlt' : e.on < listed.size := by omega
          simpa [hlt'] using this
        rw [hr] at this
        cases this
  have hA : ∀ (listed : Array Bool), listed.size = ops.size → (∀ j, j < ops.size → listed.getD j true = true → ∀ k ∈ A.getD j [], listed.getD k false = true) → ∀ i o, ops[i]? = some o → i ∈ Region.ready .any ops listed → ∀ j ∈ A.getD i [], listed.getD j false = true := by
    intro listed hsz hcl i o ho hi j hj
    obtain ⟨_, o', ho', hall⟩ := mem_ready.1 hi
    rw [ho] at ho'
    injection ho' with ho'
    subst ho'
    have hoka := Reg.ok_at hok ho
    simp only [Reg.okAt, Bool.and_eq_true, List.all_eq_true] at hoka
    have h1 := hoka.1.1.2 j hj
    obtain ⟨k, hk, hkj⟩ := List.any_eq_true.1 h1
    have hkl : listed.getD k false = true := by
      unfold Reg.deps at hk
      obtain ⟨e, he, heq⟩ := List.mem_filterMap.1 hk
      split at heq
      · rename_i hb
        injection heq with heq
        subst heq
        exact hall e (by simpa using he) hb
      · cases heq
    simp only [Bool.or_eq_true, beq_iff_eq] at hkj
    rcases hkj with rfl | hkj
    · exact hkl
    · have hks : k < listed.size := by
        rcases Nat.lt_or_ge k listed.size with h | h
        · exact h
        · simp [Array.getElem?_eq_none h] at hkl
      exact hcl k (by omega) (by simpa [hks] using hkl) j (by simpa using hkj)
  intro fuel
  induction fuel with
  | zero =>
    intro listed a w hsz hf hcl hI
    have hall : ∀ j, j < ops.size → listed.getD j true = true := by
      intro j hj
      have h0 := List.filter_eq_nil_iff.1 (List.eq_nil_of_length_eq_zero hf)
      have hm : listed[j]'(by omega) ∈ listed.toList := by simp
      have := h0 _ hm
      have hj' : j < listed.size := by omega
      simpa [hj'] using this
    refine ⟨?_, hend _ a w hall hI⟩
    rw [List.eq_nil_iff_forall_not_mem]
    intro i hi
    obtain ⟨h0, o, ho, _⟩ := mem_ready.1 hi
    rw [hall i (Array.getElem?_eq_some_iff.1 ho).1] at h0
    cases h0
  | succ fuel ih =>
    intro listed a w hsz hf hcl hI
    refine ⟨fun hr => hend _ a w (hdone listed hsz hr) hI, fun i hi => ?_⟩
    obtain ⟨hli, o, ho, _⟩ := mem_ready.1 hi
    have his : i < ops.size := (Array.getElem?_eq_some_iff.1 ho).1
    have hil : i < listed.size := by omega
    have hAi := hA listed hsz hcl i o ho hi
    have hstep' := hstep (fun j => listed.getD j true) a w i o ho hli (fun j hj => by
      have h := hAi j hj
      have hjs : j < listed.size := by
        rcases Nat.lt_or_ge j listed.size with h' | h'
        · exact h'
        · simp [Array.getElem?_eq_none h'] at h
      simpa [hjs] using h) (fun j hj hlj k hk => by
      have h := hcl j hj hlj k hk
      have hks : k < listed.size := by
        rcases Nat.lt_or_ge k listed.size with h' | h'
        · exact h'
        · simp [Array.getElem?_eq_none h'] at h
      simpa [hks] using h) hI
    have hL : (fun j => listed.getD j true || j == i) = fun j => (listed.setIfInBounds i true).getD j true := by
      funext j
      by_cases hji : i = j
      · subst hji; simp [hil]
      · rw [getD_set_ne true hji]
        have : (j == i) = false := by simpa using Ne.symm hji
        rw [this, Bool.or_false]
    rw [hL] at hstep'
    refine wpOp_mono (fun a' w' h' => ih _ a' w' (by simpa using hsz) ?_ ?_ h') hstep'
    · have hl0 : listed[i] = false := by simpa [hil] using hli
      have e : (listed.setIfInBounds i true).toList = listed.toList.set i true := by simp
      rw [e]
      have hcount : ∀ (l : List Bool) (i : Nat) (h : i < l.length), l[i] = false → ((l.set i true).filter (! ·)).length + 1 = (l.filter (! ·)).length := by
        intro l
        induction l with
        | nil => intro i h; simp at h
        | cons b l ihl =>
          intro i h hb
          cases i with
          | zero => simp at hb; subst hb; simp
          | succ i =>
            have := ihl i (by simpa using h) (by simpa using hb)
            cases b <;> simp at this ⊢ <;> omega
      have := hcount listed.toList i (by simpa using hil) (by simpa using hl0)
      omega
    · intro j hj hlj k hk
      by_cases hji : i = j
      · subst hji
        exact getD_set_true (hAi k hk)
      · rw [getD_set_ne true hji] at hlj
        exact getD_set_true (hcl j hj hlj k hk)

/-- All of them, those whose values are known by these. -/
def Reg.fillV : List Oper → List (Option Value) → Nat → (Nat → Value) → Act → Act
  | [], _, _, _, a => a
  | o :: os, [], j, x, a => Reg.fillV os [] (j + 1) x (a.put o.dst (x j))
  | o :: os, none :: vs, j, x, a => Reg.fillV os vs (j + 1) x (a.put o.dst (x j))
  | o :: os, some v :: vs, j, x, a => Reg.fillV os vs (j + 1) x (a.put o.dst v)
def Reg.known (vals : List (Option Value)) (j : Nat) : Option Value := vals.getD j none
theorem Reg.fillV_eq (x : Nat → Value) : ∀ (os : List Oper) (vs : List (Option Value)) (j : Nat) (a : Act) (pre : List Oper), pre.length = j → (∀ k c, k < os.length → vs.getD k none = some c → x (j + k) = c) →
    Reg.fillV os vs j x a = Reg.part (pre ++ os).toArray (fun _ => true) x (List.range' j os.length) a := by
  intro os
  induction os with
  | nil => intro vs j a pre _ _; simp [Reg.fillV, Reg.part]
  | cons o os ih =>
    intro vs j a pre hp hx
    have hat : ((pre ++ o :: os).toArray[j]?).bind (·.dst) = o.dst := by
      have : (pre ++ o :: os).toArray[j]? = some o := by
        simp [hp]
      rw [this]; rfl
    have hgo : ∀ vs', (∀ k c, k < os.length → vs'.getD k none = some c → x (j + 1 + k) = c) → Reg.fillV os vs' (j + 1) x (a.put o.dst (x j)) = Reg.part (pre ++ o :: os).toArray (fun _ => true) x (List.range' j (o :: os).length) a := by
      intro vs' hv
      rw [ih vs' (j + 1) _ (pre ++ [o]) (by simp [hp]) hv]
      simp only [List.append_assoc, List.singleton_append, List.length_cons, List.range'_succ]
      simp only [Reg.part, List.foldl_cons, if_true, hat]
    cases vs with
    | nil => exact hgo [] (by simp)
    | cons v vs =>
      have htl : ∀ k c, k < os.length → vs.getD k none = some c → x (j + 1 + k) = c := fun k c hk hc => by
        have := hx (k + 1) c (by simpa using hk) (by simpa using hc)
        rwa [show j + 1 + k = j + (k + 1) by omega]
      cases v with
      | none => exact hgo vs htl
      | some v =>
        have h0 : x j = v := by simpa using hx 0 v (by simp) (by simp)
        have := hgo vs htl
        rw [h0] at this
        exact this
theorem Reg.fillV_fill (vals : List (Option Value)) (x : Nat → Value) (a : Act) (hx : ∀ j c, Reg.known vals j = some c → x j = c) : Reg.fillV ops.toList vals 0 x a = Reg.fill ops x a := by
  have := Reg.fillV_eq x ops.toList vals 0 a [] rfl (fun k c _ hc => by rw [Nat.zero_add]; exact hx k c hc)
  rw [this]
  simp [Reg.fill, List.range_eq_range']

/-- The posts that operation i may use: they stand ahead of it, and nothing that may be behind them has struck them. -/
def Reg.usesOk (ops : Array Oper) (A : List (List Nat)) (ws : List Nat) (kill uses : List (List Nat)) (loud fin killF noF ini : List Nat) : Bool :=
  (ini.all fun j => decide (ops.size ≤ j) && (A.getD j []).isEmpty) &&
  ((List.range ops.size).all fun i => if noF.contains i then !loud.contains i || killF.contains i || killF.any (fun k => (A.getD i []).contains k) else killF.all fun k => k == i || (decide (k < ops.size) && (A.getD k []).contains i)) &&
  ((List.range ops.size).all fun i => (uses.getD i []).all fun j => ((A.getD i []).contains j || ini.contains j) && ws.contains j && (List.range ops.size).all fun k => !(kill.getD k []).contains j || k == i || (A.getD k []).contains i) &&
  (fin.all fun j => (decide (j < ops.size) || ini.contains j) && ws.contains j && (List.range ops.size).all fun k => !(kill.getD k []).contains j) &&
  ((List.range ops.size).all fun i => (kill.getD i []).all fun j => (A.getD i []).contains j || ini.contains j)

/-- What is to be shown of operation i. -/
def Reg.Ob (P : Program) (A : List (List Nat)) (loud ws : List Nat) (uses : List (List Nat)) (killF noF : List Nat) (vals : List (Option Value)) (F : World → Prop) (W : Nat → (Nat → Value) → World → Prop) (E : Nat → World → World → Prop) (ops : Array Oper) (T : (Nat → Value) → Act) (i : Nat) (o : Oper) : Prop :=
  ∀ x w, (noF.contains i = false → F w) → Reg.Each (fun j => W j (Reg.shown A j x) w) (uses.getD i []) →
    ∀ K : Act → World → Prop, (∀ v w', (loud.contains i = true → killF.contains i = false → noF.contains i = false → F w') → (if loud.contains i then E i w w' else w' = w) → (∀ c, Reg.known vals i = some c → v = c) → (ws.contains i = true → W i (Reg.shown A i (fun k => if k = i then v else x k)) w') → K ((T x).put o.dst v) w') →
      (Region.wanted o (yielded ops (T x).tmps) = true → Oper.wp P o (T x) w K (fun _ _ _ => False)) ∧
      (Region.wanted o (yielded ops (T x).tmps) = false → (if loud.contains i then E i w w else True) ∧ (∀ c, Reg.known vals i = some c → undef = c) ∧ (ws.contains i = true → W i (Reg.shown A i (fun k => if k = i then undef else x k)) w))

/-- A region that draws its order. 'vals': the values of those operations whose values are known. W tells of those in ws what is known of their values, and of the world behind them; F of the world throughout. Those in 'loud' may change the world, as E says; all others leave it. kill i: of which operations what W tells may no longer hold behind i. uses i: of which operations what W tells is used at i; fin: at the end. -/
theorem wp_region_posts {id : Nat} {a : Act} {w : World} (A : List (List Nat)) (loud ws : List Nat) (kill uses : List (List Nat)) (fin killF noF ini : List Nat) (vals : List (Option Value)) (T : (Nat → Value) → Act) (F : World → Prop) (W : Nat → (Nat → Value) → World → Prop) (E : Nat → World → World → Prop)
    (hm : P.follows .mixedOrders = true) (hok : Reg.ok ops A = true) (huse : Reg.usesOk ops A ws kill uses loud fin killF noF ini = true)
    (hT : ∀ x, Reg.fillV ops.toList vals 0 x a = T x)
    (hF : F w.drew) (hini : Reg.Each (fun j => ∀ x, W j x w.drew) ini)
    (hrun : ∀ i o, ops[i]? = some o → Reg.Ob P A loud ws uses killF noF vals F W E ops T i o)
    (hpres : ∀ i ∈ loud, ∀ j ∈ ws, (j != i && !(A.getD j []).contains i && !(kill.getD i []).contains j) = true → ∀ x w w', (noF.contains i = false → F w) → E i w w' → W j x w → W j x w')
    (hend : ∀ x w, (killF = [] → F w) → Reg.Each (fun j => W j (Reg.shown A j x) w) fin → Q .normal (T x) w) :
    (Code.region id ops true).wp P Q a w := by
  refine wp_region_any hm ?_
  simp only [Reg.usesOk, Bool.and_eq_true, List.all_eq_true, List.mem_range] at huse
  obtain ⟨⟨⟨⟨hui, huF⟩, hu1⟩, hu2⟩, hkill⟩ := huse
  let I : (Nat → Bool) → Act → World → Prop := fun L a' w' => ((∀ k ∈ killF, L k = false) → F w') ∧ ∃ x, (∀ j c, Reg.known vals j = some c → x j = c) ∧ a' = Reg.part ops L x (List.range ops.size) a ∧ (∀ j, (j < ops.size ∧ L j = true) ∨ ini.contains j = true → ws.contains j = true → (∀ k, k < ops.size → (kill.getD k []).contains j = true → L k = false) → W j (Reg.shown A j x) w')
  refine Reg.wpAny_inv A hok I ?_ ?_ ops.size (Array.replicate ops.size false) a w.drew (by simp) (by simp) ?_ ?_
  · rintro L a' w' i o ho hLi hLA hclosed ⟨hF0, x, hN, rfl, hW⟩
    have hoka := Reg.ok_at hok ho
    simp only [Reg.okAt, Bool.and_eq_true, List.all_eq_true, List.mem_range] at hoka
    obtain ⟨⟨⟨ho1, ho2⟩, ho3⟩, ho4⟩ := hoka
    have his : i < ops.size := (Array.getElem?_eq_some_iff.1 ho).1
    have hdst : (ops[i]?).bind (·.dst) = o.dst := by rw [ho]; rfl
    have hF' : noF.contains i = false → F w' := fun hno => hF0 (fun k hk => by
      have hu := huF i his
      rw [hno] at hu
      simp only [Bool.false_eq_true, if_false, List.all_eq_true, Bool.or_eq_true, beq_iff_eq, Bool.and_eq_true, decide_eq_true_eq] at hu
      rcases hu k hk with h | ⟨h1, h2⟩
      · subst h; exact hLi
      · cases hLk : L k with
        | false => rfl
        | true =>
          have := hclosed k h1 hLk i (by simpa using h2)
          rw [hLi] at this
          cases this)
    have hAlt : ∀ j ∈ A.getD i [], j < ops.size := by
      intro j hj
      obtain ⟨k, hk, hkj⟩ := List.any_eq_true.1 (ho2 j hj)
      have : ∀ n i, i < n → ∀ o, ops[i]? = some o → ∀ j ∈ A.getD i [], j < i := by
        intro n
        induction n with
        | zero => intro i h; omega
        | succ n ih =>
          intro i hi o ho j hj
          have hoka := Reg.ok_at hok ho
          simp only [Reg.okAt, Bool.and_eq_true, List.all_eq_true] at hoka
          obtain ⟨k, hk, hkj⟩ := List.any_eq_true.1 (hoka.1.1.2 j hj)
          have hki := hoka.1.1.1 k hk
          simp only [decide_eq_true_eq] at hki
          simp only [Bool.or_eq_true, beq_iff_eq] at hkj
          rcases hkj with rfl | hkj
          · exact hki
          · have hk' : k < ops.size := by have := (Array.getElem?_eq_some_iff.1 ho).1; omega
            have := ih k (by omega) ops[k] (by simp [hk']) j (by simpa using hkj)
            omega
      have := this (i + 1) i (by omega) o ho j hj
      omega
    -- the slots that the operation looks at are as if all were put
    have hlook : ∀ t ∈ o.looksAt ops, (Reg.part ops L x (List.range ops.size) a).tmps[t]? = (Reg.fill ops x a).tmps[t]? := by
      intro t ht
      refine Reg.part_get L (fun _ => true) x t _ a a rfl rfl (fun j hj hd => ⟨?_, rfl⟩)
      have h3 := ho3 j (List.mem_range.1 hj)
      rw [hd] at h3
      simp only [Bool.and_eq_true, Bool.or_eq_true, Bool.not_eq_true', List.contains_eq_mem, decide_eq_true_eq, decide_eq_false_iff_not] at h3
      rcases h3.1 with h | h
      · exact absurd ht h
      · exact hLA j h
    have hev : ∀ y ∈ o.op.operands, (Reg.fill ops x a).eval y = (Reg.part ops L x (List.range ops.size) a).eval y := by
      intro y hy
      cases y with
      | tmp t =>
        have := hlook t (by
          unfold Oper.looksAt
          exact List.mem_append_left _ (List.mem_filterMap.2 ⟨.tmp t, by simpa using hy, rfl⟩))
        simp [Act.eval, this]
      | _ => rfl
    have hwant : Region.wanted o (yielded ops (Reg.fill ops x a).tmps) = Region.wanted o (yielded ops (Reg.part ops L x (List.range ops.size) a).tmps) := by
      unfold Region.wanted
      cases hg : o.guard with
      | none => rfl
      | some gw =>
        obtain ⟨g, want⟩ := gw
        have : yielded ops (Reg.fill ops x a).tmps g = yielded ops (Reg.part ops L x (List.range ops.size) a).tmps g := by
          unfold yielded
          cases ht : (ops[g]?).bind (·.dst) with
          | none => rfl
          | some t =>
            have := hlook t (by
              unfold Oper.looksAt
              exact List.mem_append_right _ (by simp [hg, ht]))
            simp [this]
        simp only [this]
    have hsz : (Reg.fill ops x a).tmps.size = (Reg.part ops L x (List.range ops.size) a).tmps.size := by
      rw [(Reg.part_same L x _ a a).1]
      exact (Reg.part_same (fun _ => true) x _ a a).1
    -- the value is put: what is known then
    have hafter : ∀ v w'', (loud.contains i = true → killF.contains i = false → noF.contains i = false → F w'') → (if loud.contains i then E i w' w'' else w'' = w') → (∀ c, Reg.known vals i = some c → v = c) → (ws.contains i = true → W i (Reg.shown A i (fun k => if k = i then v else x k)) w'') →
        I (fun j => L j || j == i) ((Reg.part ops L x (List.range ops.size) a).put o.dst v) w'' := by
      intro v w'' hF'' hE hVi hWi
      have hFn : (∀ k ∈ killF, (fun j => L j || j == i) k = false) → F w'' := by
        intro hk
        cases hl : loud.contains i with
        | false =>
          rw [hl] at hE
          simp only [Bool.false_eq_true, if_false] at hE
          rw [hE]
          exact hF0 (fun k hkk => by
            have := hk k hkk
            simp only [Bool.or_eq_false_iff] at this
            exact this.1)
        | true =>
          have hki : killF.contains i = false := by
            cases hc : killF.contains i with
            | false => rfl
            | true =>
              have := hk i (by simpa using hc)
              simp at this
          cases hno : noF.contains i with
          | false => exact hF'' hl hki hno
          | true =>
            exfalso
            have hu := huF i his
            rw [hno, hl, hki] at hu
            simp only [if_true, Bool.not_true, Bool.or_self, Bool.false_or, List.any_eq_true] at hu
            obtain ⟨k, hk1, hk2⟩ := hu
            have h1 := hk k hk1
            have h2 := hLA k (by simpa using hk2)
            simp [h2] at h1
      refine ⟨hFn, fun k => if k = i then v else x k, ?_, ?_, ?_⟩
      · intro j c hc
        by_cases hji : j = i
        · subst hji; simpa using hVi c hc
        · simpa [hji] using hN j c hc
      · rw [← hdst]
        refine (Reg.part_put L x i v hLi ?_ _ a List.nodup_range (List.mem_range.2 his)).symm
        intro j hji hdj
        rcases Nat.lt_or_ge j ops.size with hjs | hjs
        · have h3 := ho3 j hjs
          cases hdi : (ops[i]?).bind (·.dst) with
          | none => rfl
          | some t =>
            rw [hdj, hdi] at h3
            simp only [Bool.and_eq_true, Bool.or_eq_true, beq_iff_eq, hji, false_or] at h3
            rw [← hdst, hdi] at h3
            simp at h3
        · rw [← hdj]; simp [Array.getElem?_eq_none hjs]
      · intro j hj hjw hk
        by_cases hji : j = i
        · subst hji; exact hWi hjw
        · have hj' : (j < ops.size ∧ L j = true) ∨ ini.contains j = true := by
            have : (j == i) = false := by simpa using hji
            rcases hj with ⟨h1, h2⟩ | h
            · exact .inl ⟨h1, by simpa [this] using h2⟩
            · exact .inr h
          have hnot : (A.getD j []).contains i = false := by
            cases hc : (A.getD j []).contains i with
            | false => rfl
            | true =>
              rcases hj' with ⟨hj1, hLj'⟩ | h
              · have := hclosed j hj1 hLj' i (by simpa using hc)
                rw [hLi] at this
                cases this
              · have := (hui j (by simpa using h)).2
                rw [List.isEmpty_iff] at this
                rw [this] at hc
                simp at hc
          rw [Reg.shown_upd A i j x v hji hnot]
          have h0 := hW j hj' hjw (fun k hkk hc => by
            have := hk k hkk hc
            simp only [Bool.or_eq_false_iff] at this
            exact this.1)
          have hki : (kill.getD i []).contains j = false := by
            cases hc : (kill.getD i []).contains j with
            | false => rfl
            | true =>
              have := hk i his hc
              simp at this
          cases hl : loud.contains i with
          | false => rw [hl] at hE; simp only [Bool.false_eq_true, if_false] at hE; rw [hE]; exact h0
          | true => rw [hl] at hE; simp only [if_true] at hE; exact hpres i (by simpa using hl) j (by simpa using hjw) (by rw [hnot, hki]; simpa using hji) _ w' w'' hF' hE h0
    have hTx : T x = Reg.fill ops x a := by rw [← hT x]; exact Reg.fillV_fill vals x a hN
    have hr := hrun i o ho x w' hF' (Reg.each_iff.2 fun j hj => by
      have h := hu1 i his j hj
      obtain ⟨⟨hj1, hj2⟩, hj3⟩ := h
      have hj1 : (j < ops.size ∧ L j = true) ∨ ini.contains j = true := by
        rw [Bool.or_eq_true] at hj1
        rcases hj1 with h | h
        · have h : j ∈ A.getD i [] := by simpa using h
          exact .inl ⟨hAlt j h, hLA j h⟩
        · exact .inr h
      refine hW j hj1 hj2 (fun k hk hc => ?_)
      have hj4 := hj3 k hk
      simp only [Bool.or_eq_true, Bool.not_eq_true'] at hj4
      rcases hj4 with (h | h) | h
      · rw [hc] at h; cases h
      · rw [beq_iff_eq] at h; subst h; exact hLi
      · cases hLk : L k with
        | false => rfl
        | true =>
          have := hclosed k hk hLk i (by simpa using h)
          rw [hLi] at this
          cases this)
    rw [hTx] at hr
    unfold wpOp
    simp only [ho]
    rw [hwant] at hr
    split
    · rename_i hw
      refine .inl (Oper.wp_mono ?_ (Reg.wp_swap (a := Reg.fill ops x a) (R := fun v w'' => (loud.contains i = true → killF.contains i = false → noF.contains i = false → F w'') ∧ (if loud.contains i then E i w' w'' else w'' = w') ∧ (∀ c, Reg.known vals i = some c → v = c) ∧ (ws.contains i = true → W i (Reg.shown A i (fun k => if k = i then v else x k)) w'')) (by simpa using ho4) hsz hev ((hr _ (fun v w'' h1 h2 h3 h4 => ⟨v, rfl, h1, h2, h3, h4⟩)).1 hw)))
      rintro b w'' ⟨v, rfl, h1, h2, h3, h4⟩
      exact hafter v w'' h1 h2 h3 h4
    · rename_i hw
      obtain ⟨h2, h3, h4⟩ := (hr (fun _ _ => True) (fun _ _ _ _ _ _ => trivial)).2 (by simpa using hw)
      refine hafter undef w' (fun _ _ hno => hF' hno) ?_ h3 h4
      cases hl : loud.contains i with
      | false => simp
      | true => rw [hl] at h2; simpa using h2
  · rintro L a' w' hall ⟨hF', x, hN, rfl, hW⟩
    have e : Reg.part ops L x (List.range ops.size) a = Reg.fill ops x a := Reg.part_list _ _ _ _ _ (fun j hj => hall j (List.mem_range.1 hj))
    rw [e]
    have hTx : T x = Reg.fill ops x a := by rw [← hT x]; exact Reg.fillV_fill vals x a hN
    rw [← hTx]
    refine hend x w' (fun h => hF' (by rw [h]; simp)) (Reg.each_iff.2 fun j hj => ?_)
    have h := hu2 j hj
    obtain ⟨⟨hj1, hj2⟩, hj3⟩ := h
    have hj1 : (j < ops.size ∧ L j = true) ∨ ini.contains j = true := by
      rw [Bool.or_eq_true] at hj1
      rcases hj1 with h | h
      · have h : j < ops.size := by simpa using h
        exact .inl ⟨h, hall j h⟩
      · exact .inr h
    exact hW j hj1 hj2 (fun k hk hc => by
      have := hj3 k hk
      rw [hc] at this
      cases this)
  · intro j hj h
    simp [hj] at h
  · refine ⟨fun _ => hF, fun j => (Reg.known vals j).getD undef, fun j c hc => by simp [hc], ?_, ?_⟩
    · have : ∀ (js : List Nat), (∀ j ∈ js, j < ops.size) → Reg.part ops (fun j => (Array.replicate ops.size false).getD j true) (fun j => (Reg.known vals j).getD undef) js a = a := by
        intro js
        induction js with
        | nil => intro _; rfl
        | cons j js ih =>
          intro h
          have hj := h j (List.mem_cons_self ..)
          have := ih (fun k hk => h k (List.mem_cons_of_mem _ hk))
          simp only [Reg.part, List.foldl_cons] at this ⊢
          have e : (Array.replicate ops.size false).getD j true = false := by simp [hj]
          rw [e]
          simpa using this
      exact (this _ (fun j hj => List.mem_range.1 hj)).symm
    · intro j hj hjw hk
      rcases hj with ⟨hj, h⟩ | h
      · simp [hj] at h
      · exact Reg.each_iff.1 hini j (by simpa using h) _

/-- What is to be shown of each operation, one behind the other. -/
def Reg.EachOp (p : Nat → Oper → Prop) : List Oper → Nat → Prop
  | [], _ => True
  | o :: os, k => p k o ∧ Reg.EachOp p os (k + 1)
theorem Reg.eachOp {p : Nat → Oper → Prop} : ∀ {os : List Oper} {k : Nat}, Reg.EachOp p os k → ∀ i o, os[i]? = some o → p (k + i) o
  | [], _, _, i, o, h => by simp at h
  | o' :: os, k, h, 0, o, ho => by simp at ho; subst ho; exact h.1
  | o' :: os, k, h, i + 1, o, ho => by
    have := Reg.eachOp h.2 i o (by simpa using ho)
    rwa [show k + (i + 1) = k + 1 + i by omega]
theorem Reg.all_ops {p : Nat → Oper → Prop} (h : Reg.EachOp p ops.toList 0) : ∀ i o, ops[i]? = some o → p i o := fun i o ho => by
  have := Reg.eachOp h i o (by simpa using ho)
  rwa [Nat.zero_add] at this

section
variable {A : List (List Nat)} {loud ws : List Nat} {uses : List (List Nat)} {killF noF : List Nat} {vals : List (Option Value)} {F : World → Prop} {W : Nat → (Nat → Value) → World → Prop} {E : Nat → World → World → Prop} {T : (Nat → Value) → Act} {i : Nat} {o : Oper}
/-- An operation that yields a value, whatever the world that meets F. -/
theorem Reg.ob_pure {c : Value} (hg : ∀ x, Region.wanted o (yielded ops (T x).tmps) = true) (hv : Reg.known vals i = some c) (hl : loud.contains i = false) (hw : ws.contains i = false) (hno : noF.contains i = false)
    (h : ∀ x w, F w → (execOp (T x).eval o).run P w = .ok (.value c) w) : Reg.Ob P A loud ws uses killF noF vals F W E ops T i o := by
  intro x w hF _ K hK
  refine ⟨fun _ => ?_, fun hwant => by rw [hg] at hwant; cases hwant⟩
  unfold Oper.wp
  rw [h x w (hF hno)]
  simp only [Oper.upon]
  refine hK c w (fun _ _ hno => hF hno) ?_ ?_ ?_
  · rw [hl]; simp
  · intro c' hc'; rw [hv] at hc'; injection hc'
  · intro h; rw [hw] at h; cases h
/-- An operation that yields a value, whatever the world. -/
theorem Reg.ob_bare {c : Value} (hg : ∀ x, Region.wanted o (yielded ops (T x).tmps) = true) (hv : Reg.known vals i = some c) (hl : loud.contains i = false) (hw : ws.contains i = false)
    (h : ∀ x w, (execOp (T x).eval o).run P w = .ok (.value c) w) : Reg.Ob P A loud ws uses killF noF vals F W E ops T i o := by
  intro x w hF _ K hK
  refine ⟨fun _ => ?_, fun hwant => by rw [hg] at hwant; cases hwant⟩
  unfold Oper.wp
  rw [h x w]
  simp only [Oper.upon]
  refine hK c w (fun h => by rw [hl] at h; cases h) ?_ ?_ ?_
  · rw [hl]; simp
  · intro c' hc'; rw [hv] at hc'; injection hc'
  · intro h; rw [hw] at h; cases h
/-- An operation that is met by a contract, or otherwise: its value is known. -/
theorem Reg.ob_known {c : Value} (hg : ∀ x, Region.wanted o (yielded ops (T x).tmps) = true) (hv : Reg.known vals i = some c) (hw : ws.contains i = false)
    (h : ∀ x w, (noF.contains i = false → F w) → Reg.Each (fun j => W j (Reg.shown A j x) w) (uses.getD i []) → ∀ K : Act → World → Prop, (∀ w', (loud.contains i = true → killF.contains i = false → noF.contains i = false → F w') → (if loud.contains i then E i w w' else w' = w) → K ((T x).put o.dst c) w') → Oper.wp P o (T x) w K (fun _ _ _ => False)) : Reg.Ob P A loud ws uses killF noF vals F W E ops T i o := by
  intro x w hF hU K hK
  refine ⟨fun _ => h x w hF hU K (fun w' h1 h2 => hK c w' h1 h2 (fun c' hc' => by rw [hv] at hc'; injection hc') (fun h => by rw [hw] at h; cases h)), fun hwant => by rw [hg] at hwant; cases hwant⟩
/-- An operation whose guard says no. -/
theorem Reg.ob_skip (hg : ∀ x, Region.wanted o (yielded ops (T x).tmps) = false) (hv : Reg.known vals i = some undef) (hl : loud.contains i = false) (hw : ws.contains i = false) : Reg.Ob P A loud ws uses killF noF vals F W E ops T i o := by
  intro x w hF hU K hK
  refine ⟨(fun hwant => by rw [hg] at hwant; cases hwant), fun _ => ⟨by rw [hl]; simp, (fun c' hc' => by rw [hv] at hc'; injection hc'), (fun h => by rw [hw] at h; cases h)⟩⟩
/-- An operation of which W tells. -/
theorem Reg.ob_some (hg : ∀ x, Region.wanted o (yielded ops (T x).tmps) = true) (hv : Reg.known vals i = none)
    (h : ∀ x w, (noF.contains i = false → F w) → Reg.Each (fun j => W j (Reg.shown A j x) w) (uses.getD i []) → ∀ K : Act → World → Prop, (∀ v w', (loud.contains i = true → killF.contains i = false → noF.contains i = false → F w') → (if loud.contains i then E i w w' else w' = w) → W i (Reg.shown A i (fun k => if k = i then v else x k)) w' → K ((T x).put o.dst v) w') → Oper.wp P o (T x) w K (fun _ _ _ => False)) : Reg.Ob P A loud ws uses killF noF vals F W E ops T i o := by
  intro x w hF hU K hK
  refine ⟨fun _ => h x w hF hU K (fun v w' h1 h2 h3 => hK v w' h1 h2 (fun c' hc' => by rw [hv] at hc'; cases hc') (fun _ => h3)), fun hwant => by rw [hg] at hwant; cases hwant⟩
end
end
end Go.Proofs.Ytdcclighccejhaa

/- A region that draws: an operation whose value is known, and of which W tells besides. Conditions: as it says. -/
set_option linter.unusedVariables false
namespace Go.Proofs.Ytdcclighccejhaa
open Go

section
variable {P : Program} {ops : Array Oper} {A : List (List Nat)} {loud ws : List Nat} {uses : List (List Nat)} {killF noF : List Nat} {vals : List (Option Value)} {F : World → Prop} {W : Nat → (Nat → Value) → World → Prop} {E : Nat → World → World → Prop} {T : (Nat → Value) → Act} {i : Nat} {o : Oper}
/-- An operation whose value is known, and of which W tells. -/
theorem Reg.ob_told {c : Value} (hg : ∀ x, Region.wanted o (yielded ops (T x).tmps) = true) (hv : Reg.known vals i = some c)
    (h : ∀ x w, (noF.contains i = false → F w) → Reg.Each (fun j => W j (Reg.shown A j x) w) (uses.getD i []) → ∀ K : Act → World → Prop, (∀ w', (loud.contains i = true → killF.contains i = false → noF.contains i = false → F w') → (if loud.contains i then E i w w' else w' = w) → W i (Reg.shown A i (fun k => if k = i then c else x k)) w' → K ((T x).put o.dst c) w') → Oper.wp P o (T x) w K (fun _ _ _ => False)) : Reg.Ob P A loud ws uses killF noF vals F W E ops T i o := by
  intro x w hF hU K hK
  refine ⟨fun _ => h x w hF hU K (fun w' h1 h2 h3 => hK c w' h1 h2 (fun c' hc' => by rw [hv] at hc'; injection hc') (fun _ => h3)), fun hwant => by rw [hg] at hwant; cases hwant⟩
end
end Go.Proofs.Ytdcclighccejhaa

/- A region that does not draw, operation by operation, as Reg has it of one that draws. Conditions: as it says. -/
set_option linter.unusedVariables false
namespace Go.Proofs.Ytdcclighccejhaa
open Go
section
variable {P : Program} {ops : Array Oper} {Q : Exit → Act → World → Prop}
/-- As wp_region_posts, of any order. -/
theorem any_posts {a : Act} {w : World} (A : List (List Nat)) (loud ws : List Nat) (kill uses : List (List Nat)) (fin killF noF ini : List Nat) (vals : List (Option Value)) (T : (Nat → Value) → Act) (F : World → Prop) (W : Nat → (Nat → Value) → World → Prop) (E : Nat → World → World → Prop)
    (hok : Reg.ok ops A = true) (huse : Reg.usesOk ops A ws kill uses loud fin killF noF ini = true)
    (hT : ∀ x, Reg.fillV ops.toList vals 0 x a = T x)
    (hF : F w) (hini : Reg.Each (fun j => ∀ x, W j x w) ini)
    (hrun : ∀ i o, ops[i]? = some o → Reg.Ob P A loud ws uses killF noF vals F W E ops T i o)
    (hpres : ∀ i ∈ loud, ∀ j ∈ ws, (j != i && !(A.getD j []).contains i && !(kill.getD i []).contains j) = true → ∀ x w w', (noF.contains i = false → F w) → E i w w' → W j x w → W j x w')
    (hend : ∀ x w, (killF = [] → F w) → Reg.Each (fun j => W j (Reg.shown A j x) w) fin → Q .normal (T x) w) :
    wpAny P .any ops Q ops.size (Array.replicate ops.size false) a w := by
  simp only [Reg.usesOk, Bool.and_eq_true, List.all_eq_true, List.mem_range] at huse
  obtain ⟨⟨⟨⟨hui, huF⟩, hu1⟩, hu2⟩, hkill⟩ := huse
  let I : (Nat → Bool) → Act → World → Prop := fun L a' w' => ((∀ k ∈ killF, L k = false) → F w') ∧ ∃ x, (∀ j c, Reg.known vals j = some c → x j = c) ∧ a' = Reg.part ops L x (List.range ops.size) a ∧ (∀ j, (j < ops.size ∧ L j = true) ∨ ini.contains j = true → ws.contains j = true → (∀ k, k < ops.size → (kill.getD k []).contains j = true → L k = false) → W j (Reg.shown A j x) w')
  refine Reg.wpAny_inv A hok I ?_ ?_ ops.size (Array.replicate ops.size false) a w (by simp) (by simp) ?_ ?_
  · rintro L a' w' i o ho hLi hLA hclosed ⟨hF0, x, hN, rfl, hW⟩
    have hoka := Reg.ok_at hok ho
    simp only [Reg.okAt, Bool.and_eq_true, List.all_eq_true, List.mem_range] at hoka
    obtain ⟨⟨⟨ho1, ho2⟩, ho3⟩, ho4⟩ := hoka
    have his : i < ops.size := (Array.getElem?_eq_some_iff.1 ho).1
    have hdst : (ops[i]?).bind (·.dst) = o.dst := by rw [ho]; rfl
    have hF' : noF.contains i = false → F w' := fun hno => hF0 (fun k hk => by
      have hu := huF i his
      rw [hno] at hu
      simp only [Bool.false_eq_true, if_false, List.all_eq_true, Bool.or_eq_true, beq_iff_eq, Bool.and_eq_true, decide_eq_true_eq] at hu
      rcases hu k hk with h | ⟨h1, h2⟩
      · subst h; exact hLi
      · cases hLk : L k with
        | false => rfl
        | true =>
          have := hclosed k h1 hLk i (by simpa using h2)
          rw [hLi] at this
          cases this)
    have hAlt : ∀ j ∈ A.getD i [], j < ops.size := by
      intro j hj
      obtain ⟨k, hk, hkj⟩ := List.any_eq_true.1 (ho2 j hj)
      have : ∀ n i, i < n → ∀ o, ops[i]? = some o → ∀ j ∈ A.getD i [], j < i := by
        intro n
        induction n with
        | zero => intro i h; omega
        | succ n ih =>
          intro i hi o ho j hj
          have hoka := Reg.ok_at hok ho
          simp only [Reg.okAt, Bool.and_eq_true, List.all_eq_true] at hoka
          obtain ⟨k, hk, hkj⟩ := List.any_eq_true.1 (hoka.1.1.2 j hj)
          have hki := hoka.1.1.1 k hk
          simp only [decide_eq_true_eq] at hki
          simp only [Bool.or_eq_true, beq_iff_eq] at hkj
          rcases hkj with rfl | hkj
          · exact hki
          · have hk' : k < ops.size := by have := (Array.getElem?_eq_some_iff.1 ho).1; omega
            have := ih k (by omega) ops[k] (by simp [hk']) j (by simpa using hkj)
            omega
      have := this (i + 1) i (by omega) o ho j hj
      omega
    -- the slots that the operation looks at are as if all were put
    have hlook : ∀ t ∈ o.looksAt ops, (Reg.part ops L x (List.range ops.size) a).tmps[t]? = (Reg.fill ops x a).tmps[t]? := by
      intro t ht
      refine Reg.part_get L (fun _ => true) x t _ a a rfl rfl (fun j hj hd => ⟨?_, rfl⟩)
      have h3 := ho3 j (List.mem_range.1 hj)
      rw [hd] at h3
      simp only [Bool.and_eq_true, Bool.or_eq_true, Bool.not_eq_true', List.contains_eq_mem, decide_eq_true_eq, decide_eq_false_iff_not] at h3
      rcases h3.1 with h | h
      · exact absurd ht h
      · exact hLA j h
    have hev : ∀ y ∈ o.op.operands, (Reg.fill ops x a).eval y = (Reg.part ops L x (List.range ops.size) a).eval y := by
      intro y hy
      cases y with
      | tmp t =>
        have := hlook t (by
          unfold Oper.looksAt
          exact List.mem_append_left _ (List.mem_filterMap.2 ⟨.tmp t, by simpa using hy, rfl⟩))
        simp [Act.eval, this]
      | _ => rfl
    have hwant : Region.wanted o (yielded ops (Reg.fill ops x a).tmps) = Region.wanted o (yielded ops (Reg.part ops L x (List.range ops.size) a).tmps) := by
      unfold Region.wanted
      cases hg : o.guard with
      | none => rfl
      | some gw =>
        obtain ⟨g, want⟩ := gw
        have : yielded ops (Reg.fill ops x a).tmps g = yielded ops (Reg.part ops L x (List.range ops.size) a).tmps g := by
          unfold yielded
          cases ht : (ops[g]?).bind (·.dst) with
          | none => rfl
          | some t =>
            have := hlook t (by
              unfold Oper.looksAt
              exact List.mem_append_right _ (by simp [hg, ht]))
            simp [this]
        simp only [this]
    have hsz : (Reg.fill ops x a).tmps.size = (Reg.part ops L x (List.range ops.size) a).tmps.size := by
      rw [(Reg.part_same L x _ a a).1]
      exact (Reg.part_same (fun _ => true) x _ a a).1
    -- the value is put: what is known then
    have hafter : ∀ v w'', (loud.contains i = true → killF.contains i = false → noF.contains i = false → F w'') → (if loud.contains i then E i w' w'' else w'' = w') → (∀ c, Reg.known vals i = some c → v = c) → (ws.contains i = true → W i (Reg.shown A i (fun k => if k = i then v else x k)) w'') →
        I (fun j => L j || j == i) ((Reg.part ops L x (List.range ops.size) a).put o.dst v) w'' := by
      intro v w'' hF'' hE hVi hWi
      have hFn : (∀ k ∈ killF, (fun j => L j || j == i) k = false) → F w'' := by
        intro hk
        cases hl : loud.contains i with
        | false =>
          rw [hl] at hE
          simp only [Bool.false_eq_true, if_false] at hE
          rw [hE]
          exact hF0 (fun k hkk => by
            have := hk k hkk
            simp only [Bool.or_eq_false_iff] at this
            exact this.1)
        | true =>
          have hki : killF.contains i = false := by
            cases hc : killF.contains i with
            | false => rfl
            | true =>
              have := hk i (by simpa using hc)
              simp at this
          cases hno : noF.contains i with
          | false => exact hF'' hl hki hno
          | true =>
            exfalso
            have hu := huF i his
            rw [hno, hl, hki] at hu
            simp only [if_true, Bool.not_true, Bool.or_self, Bool.false_or, List.any_eq_true] at hu
            obtain ⟨k, hk1, hk2⟩ := hu
            have h1 := hk k hk1
            have h2 := hLA k (by simpa using hk2)
            simp [h2] at h1
      refine ⟨hFn, fun k => if k = i then v else x k, ?_, ?_, ?_⟩
      · intro j c hc
        by_cases hji : j = i
        · subst hji; simpa using hVi c hc
        · simpa [hji] using hN j c hc
      · rw [← hdst]
        refine (Reg.part_put L x i v hLi ?_ _ a List.nodup_range (List.mem_range.2 his)).symm
        intro j hji hdj
        rcases Nat.lt_or_ge j ops.size with hjs | hjs
        · have h3 := ho3 j hjs
          cases hdi : (ops[i]?).bind (·.dst) with
          | none => rfl
          | some t =>
            rw [hdj, hdi] at h3
            simp only [Bool.and_eq_true, Bool.or_eq_true, beq_iff_eq, hji, false_or] at h3
            rw [← hdst, hdi] at h3
            simp at h3
        · rw [← hdj]; simp [Array.getElem?_eq_none hjs]
      · intro j hj hjw hk
        by_cases hji : j = i
        · subst hji; exact hWi hjw
        · have hj' : (j < ops.size ∧ L j = true) ∨ ini.contains j = true := by
            have : (j == i) = false := by simpa using hji
            rcases hj with ⟨h1, h2⟩ | h
            · exact .inl ⟨h1, by simpa [this] using h2⟩
            · exact .inr h
          have hnot : (A.getD j []).contains i = false := by
            cases hc : (A.getD j []).contains i with
            | false => rfl
            | true =>
              rcases hj' with ⟨hj1, hLj'⟩ | h
              · have := hclosed j hj1 hLj' i (by simpa using hc)
                rw [hLi] at this
                cases this
              · have := (hui j (by simpa using h)).2
                rw [List.isEmpty_iff] at this
                rw [this] at hc
                simp at hc
          rw [Reg.shown_upd A i j x v hji hnot]
          have h0 := hW j hj' hjw (fun k hkk hc => by
            have := hk k hkk hc
            simp only [Bool.or_eq_false_iff] at this
            exact this.1)
          have hki : (kill.getD i []).contains j = false := by
            cases hc : (kill.getD i []).contains j with
            | false => rfl
            | true =>
              have := hk i his hc
              simp at this
          cases hl : loud.contains i with
          | false => rw [hl] at hE; simp only [Bool.false_eq_true, if_false] at hE; rw [hE]; exact h0
          | true => rw [hl] at hE; simp only [if_true] at hE; exact hpres i (by simpa using hl) j (by simpa using hjw) (by rw [hnot, hki]; simpa using hji) _ w' w'' hF' hE h0
    have hTx : T x = Reg.fill ops x a := by rw [← hT x]; exact Reg.fillV_fill vals x a hN
    have hr := hrun i o ho x w' hF' (Reg.each_iff.2 fun j hj => by
      have h := hu1 i his j hj
      obtain ⟨⟨hj1, hj2⟩, hj3⟩ := h
      have hj1 : (j < ops.size ∧ L j = true) ∨ ini.contains j = true := by
        rw [Bool.or_eq_true] at hj1
        rcases hj1 with h | h
        · have h : j ∈ A.getD i [] := by simpa using h
          exact .inl ⟨hAlt j h, hLA j h⟩
        · exact .inr h
      refine hW j hj1 hj2 (fun k hk hc => ?_)
      have hj4 := hj3 k hk
      simp only [Bool.or_eq_true, Bool.not_eq_true'] at hj4
      rcases hj4 with (h | h) | h
      · rw [hc] at h; cases h
      · rw [beq_iff_eq] at h; subst h; exact hLi
      · cases hLk : L k with
        | false => rfl
        | true =>
          have := hclosed k hk hLk i (by simpa using h)
          rw [hLi] at this
          cases this)
    rw [hTx] at hr
    unfold wpOp
    simp only [ho]
    rw [hwant] at hr
    split
    · rename_i hw
      refine .inl (Oper.wp_mono ?_ (Reg.wp_swap (a := Reg.fill ops x a) (R := fun v w'' => (loud.contains i = true → killF.contains i = false → noF.contains i = false → F w'') ∧ (if loud.contains i then E i w' w'' else w'' = w') ∧ (∀ c, Reg.known vals i = some c → v = c) ∧ (ws.contains i = true → W i (Reg.shown A i (fun k => if k = i then v else x k)) w'')) (by simpa using ho4) hsz hev ((hr _ (fun v w'' h1 h2 h3 h4 => ⟨v, rfl, h1, h2, h3, h4⟩)).1 hw)))
      rintro b w'' ⟨v, rfl, h1, h2, h3, h4⟩
      exact hafter v w'' h1 h2 h3 h4
    · rename_i hw
      obtain ⟨h2, h3, h4⟩ := (hr (fun _ _ => True) (fun _ _ _ _ _ _ => trivial)).2 (by simpa using hw)
      refine hafter undef w' (fun _ _ hno => hF' hno) ?_ h3 h4
      cases hl : loud.contains i with
      | false => simp
      | true => rw [hl] at h2; simpa using h2
  · rintro L a' w' hall ⟨hF', x, hN, rfl, hW⟩
    have e : Reg.part ops L x (List.range ops.size) a = Reg.fill ops x a := Reg.part_list _ _ _ _ _ (fun j hj => hall j (List.mem_range.1 hj))
    rw [e]
    have hTx : T x = Reg.fill ops x a := by rw [← hT x]; exact Reg.fillV_fill vals x a hN
    rw [← hTx]
    refine hend x w' (fun h => hF' (by rw [h]; simp)) (Reg.each_iff.2 fun j hj => ?_)
    have h := hu2 j hj
    obtain ⟨⟨hj1, hj2⟩, hj3⟩ := h
    have hj1 : (j < ops.size ∧ L j = true) ∨ ini.contains j = true := by
      rw [Bool.or_eq_true] at hj1
      rcases hj1 with h | h
      · have h : j < ops.size := by simpa using h
        exact .inl ⟨h, hall j h⟩
      · exact .inr h
    exact hW j hj1 hj2 (fun k hk hc => by
      have := hj3 k hk
      rw [hc] at this
      cases this)
  · intro j hj h
    simp [hj] at h
  · refine ⟨fun _ => hF, fun j => (Reg.known vals j).getD undef, fun j c hc => by simp [hc], ?_, ?_⟩
    · have : ∀ (js : List Nat), (∀ j ∈ js, j < ops.size) → Reg.part ops (fun j => (Array.replicate ops.size false).getD j true) (fun j => (Reg.known vals j).getD undef) js a = a := by
        intro js
        induction js with
        | nil => intro _; rfl
        | cons j js ih =>
          intro h
          have hj := h j (List.mem_cons_self ..)
          have := ih (fun k hk => h k (List.mem_cons_of_mem _ hk))
          simp only [Reg.part, List.foldl_cons] at this ⊢
          have e : (Array.replicate ops.size false).getD j true = false := by simp [hj]
          rw [e]
          simpa using this
      exact (this _ (fun j hj => List.mem_range.1 hj)).symm
    · intro j hj hjw hk
      rcases hj with ⟨hj, h⟩ | h
      · simp [hj] at h
      · exact Reg.each_iff.1 hini j (by simpa using h) _

/-- The same, of a region that does not draw. -/
theorem wp_region_text {id : Nat} {a : Act} {w : World} (A : List (List Nat)) (loud ws : List Nat) (kill uses : List (List Nat)) (fin killF noF ini : List Nat) (vals : List (Option Value)) (T : (Nat → Value) → Act) (F : World → Prop) (W : Nat → (Nat → Value) → World → Prop) (E : Nat → World → World → Prop)
    (hl : Region.linearise .any ops 0 = List.range ops.size) (hok : Reg.ok ops A = true) (huse : Reg.usesOk ops A ws kill uses loud fin killF noF ini = true)
    (hT : ∀ x, Reg.fillV ops.toList vals 0 x a = T x)
    (hF : F w) (hini : Reg.Each (fun j => ∀ x, W j x w) ini)
    (hrun : ∀ i o, ops[i]? = some o → Reg.Ob P A loud ws uses killF noF vals F W E ops T i o)
    (hpres : ∀ i ∈ loud, ∀ j ∈ ws, (j != i && !(A.getD j []).contains i && !(kill.getD i []).contains j) = true → ∀ x w w', (noF.contains i = false → F w) → E i w w' → W j x w → W j x w')
    (hend : ∀ x w, (killF = [] → F w) → Reg.Each (fun j => W j (Reg.shown A j x) w) fin → Q .normal (T x) w) :
    (Code.region id ops false).wp P Q a w :=
  wp_region (by
    have h := wpAny_sound ops.size 0 _ a w (any_posts A loud ws kill uses fin killF noF ini vals T F W E hok huse hT hF hini hrun hpres hend)
    rw [show Region.linearise.go .any ops ops.size 0 (Array.replicate ops.size false) [] = List.range ops.size from hl] at h
    exact h)
end
end Go.Proofs.Ytdcclighccejhaa

/- A region of a function, found by its number: regions are shown as theorems of their own. Conditions: none. -/
set_option linter.unusedVariables false
namespace Go.Proofs.Ytdcclighccejhaa
open Go
def codeRegion (n : Nat) : Code → Option Code
  | .region k ops d => if k = n then some (.region k ops d) else none
  | .loop c => codeRegion n c
  | .seq a b => match codeRegion n a with
    | some c => some c
    | none => codeRegion n b
  | .block _ c => codeRegion n c
  | .scope c => codeRegion n c
  | .rangeFunc _ _ a b => match codeRegion n a with
    | some c => some c
    | none => codeRegion n b
  | .cond _ a b => match codeRegion n a with
    | some c => some c
    | none => codeRegion n b
  | _ => none
end Go.Proofs.Ytdcclighccejhaa

/- A piece of a function, found by its first region's number. Conditions: none. -/
set_option linter.unusedVariables false
namespace Go.Proofs.Ytdcclighccejhaa
open Go
/-- The piece that begins with region n. -/
def codeIf (n : Nat) : Code → Option Code
  | .seq (.region k o d) b => if k = n then some (.seq (.region k o d) b) else codeIf n b
  | .seq a b => match codeIf n a with
    | some c => some c
    | none => codeIf n b
  | .loop c => codeIf n c
  | .block _ c => codeIf n c
  | .scope c => codeIf n c
  | .cond _ a b => match codeIf n a with
    | some c => some c
    | none => codeIf n b
  | _ => none
end Go.Proofs.Ytdcclighccejhaa

/- Rows of numbers of 64 digits; worlds that keep what lies below. Conditions: as each says. -/
set_option linter.unusedVariables false
namespace Go.Proofs.Ytdcclighccejhaa
open Go Go.RowKit

theorem Try.infoU64 : (Try.prog.info? 22).map (fun i => (i.zero, i.size, i.bytes)) = some (some (.int .u64 0), 1, 8) := by kernel_rfl
/-- Cells of 64 digits. -/
def cells64 (l : List Nat) : List Value := l.map fun (x : Nat) => Value.int .u64 (x : Int)
theorem onlyN (w : World) (n : Nat) : Only (fun _ => False) w (w.drewN n) := (Only.refl _ w).drewN n
theorem Only.grownNone {w w1 : World} (h : Only (fun _ => False) w w1) : w.grownBy w1 none := ⟨h.os, h.tape, h.output, h.size, fun k hk _ => h.same k hk (by simp)⟩
theorem Only.of_below {w w1 : World} (h : Below w.heap.size w w1) : Only (fun _ => False) w w1 := ⟨h.os, h.tape, h.output, h.size, fun k hk _ => h.block k hk⟩
theorem own_rd64 {B : Nat} {v : Value} {l : List Nat} {w : World} (h : w.ownsRow B 22 1 v l.length (cells64 l)) : Rd .u64 w v (nats l) := by
  have hn := nats_length l
  rcases h.2 with ⟨rfl, h0⟩ | ⟨g, cap, cur, rfl, hb, hg, hc, hlc, hcl, h7⟩
  · have : l = [] := List.eq_nil_of_length_eq_zero h0
    subst this
    exact Rd.nil _ _
  · refine ⟨_, cap, by rw [hn], by rw [hn]; exact hc, fun hp => ⟨g, 0, rfl, fun j hj => ?_⟩⟩
    rw [hn] at hj
    rw [Nat.zero_add, cell_of_row w g j cur _ (0, 0) hg]
    have h8 : (cur.toList.take (l.length * 1))[j]? = (cells64 l)[j]? := by rw [h7]
    rw [List.getElem?_take, if_pos (by omega)] at h8
    rw [← Array.getElem?_toList, h8]
    simp [cells64, nats, hj]
end Go.Proofs.Ytdcclighccejhaa

/- A row that is written over: what becomes of it, and of others in its block. Conditions: as each says. -/
set_option linter.unusedVariables false
namespace Go.Proofs.Ytdcclighccejhaa
open Go.RowKit

set_option maxRecDepth 100000 in
set_option maxHeartbeats 400000 in
theorem spoil_own (v : Value) (n B : Nat) (xs : List Value) (w : World) (h : w.ownsRow B 5 1 v n xs) (hn : n ≤ 140737488355328) :
    Calls Try.prog 38 #[v] w fun e w' => e = .returned (.tuple #[]) ∧ Only (fun k => v.ownBlock = some k) w w' ∧ ∃ ys, w'.ownsRow B 5 1 v n ys := by
  rcases Nat.eq_zero_or_pos n with rfl | hpos
  · have HH := Lib.hid h
    obtain ⟨A, c, rfl, _⟩ := own_slice h
    clear h
    go_enter Try.func38, Try.ntmps38
    go_wp2
    go_loopw [2] (fun i wr => i = .int .i64 0 ∧ w = wr) (fun _ _ => 0)
    case atStart => exact ⟨rfl, rfl⟩
    case round =>
      obtain ⟨rfl, rfl⟩ := hrel
      go_wp2
      go_end0
      exact ⟨rfl, Only.refl _ _, xs, HH.out⟩
  · obtain ⟨g, cap, rfl, hb, hlt⟩ := h.form hpos
    have HH := Lib.hid h
    clear h
    go_enter Try.func38, Try.ntmps38
    go_wp2
    go_loopw [2] (fun i wr => ∃ (k : Nat) (ys : List Value), k ≤ n ∧ i = .int .i64 k ∧ wr.ownsRow B 5 1 (.slice (some ⟨g, 0, none⟩) n cap) n ys ∧ Only (fun k => k = g) w wr) (fun i _ => n - (intOf i).toNat)
    case atStart => exact ⟨0, xs, by omega, rfl, HH.out, Only.refl _ _⟩
    case round =>
      obtain ⟨k, ys, hk, rfl, hown, ho⟩ := hrel
      have HW := Lib.hid hown
      have HO := Lib.hid ho
      by_cases hkn : k < n
      · have hl := hown.1
        have qc : wr.cell? ⟨g, k, none⟩ = some ys[k] := by
          rw [hown.cellAt k (by omega)]
          exact List.getElem?_eq_getElem (by omega)
        have qf := hown.frozenAt k
        generalize ys[k] = y at *
        clear hown ho hl
        go_wp2
        go_roundw
        case rel =>
          refine ⟨k + 1, _, by omega, by go_num, (HW.out.stored k _).1, HO.out.set (fun _ => rfl) _⟩
        case measure => simp [intOf]; omega
      · clear hown ho
        go_wp2
        go_end0
        exact ⟨rfl, HO.out.mono (fun i _ e => by subst e; rfl), _, HW.out⟩
/-- Another row of bytes is one still, wherever it lies. -/
theorem spoil_other {w w1 : World} {B B' n m : Nat} {v u : Value} {xs ys zs : List Value} (hv : w.ownsRow B 5 1 v n xs) (hu : w.ownsRow B' 5 1 u m ys) (ho : Only (fun k => v.ownBlock = some k) w w1) (hv1 : w1.ownsRow B 5 1 v n zs) : ∃ ys', w1.ownsRow B' 5 1 u m ys' := by
  rcases hu.2 with ⟨rfl, h0⟩ | ⟨g, cap, cur, rfl, hb, hg, hc, hcm, hcs, _⟩
  · subst h0
    exact ⟨[], by simp, .inl ⟨rfl, rfl⟩⟩
  · by_cases he : v.ownBlock = some g
    · rcases hv.2 with ⟨rfl, _⟩ | ⟨g2, cap2, cur2, rfl, _, hg2, hc2, _, hcs2, _⟩
      · simp [Value.ownBlock] at he
      · have e2 : g2 = g := by simpa [Value.ownBlock] using he
        subst e2
        rw [hg] at hg2
        simp only [Option.some.injEq, Obj.cells.injEq] at hg2
        obtain ⟨rfl, -⟩ := hg2
        rcases hv1.2 with ⟨e, _⟩ | ⟨g3, cap3, cur3, e3, _, hg3, _, _, hcs3, _⟩
        · simp at e
        · injection e3 with e31 _ e33
          injection e31 with e31
          injection e31 with e31
          subst e31 e33
          exact ⟨_, by rw [List.length_take, Array.length_toList]; omega, .inr ⟨g2, cap, cur3, rfl, hb, hg3, hc, hcm, by omega, rfl⟩⟩
    · exact ⟨ys, hu.1, .inr ⟨g, cap, cur, rfl, hb, (ho.same g (lt_of_heap hg) he).trans hg, hc, hcm, hcs, (by assumption)⟩⟩
end Go.Proofs.Ytdcclighccejhaa

/- easelkit's SameBytes. Conditions: as it says. -/
set_option linter.unusedVariables false
namespace Go.Proofs.Ytdcclighccejhaa
open Go.RowKit

theorem take_eq_of (xs bs : List Nat) (k : Nat) (hk : k < xs.length) (hk2 : k < bs.length) (h : xs.take k = bs.take k) (he : xs[k] = bs[k]) : xs.take (k + 1) = bs.take (k + 1) := by
  rw [List.take_succ_eq_append_getElem hk, List.take_succ_eq_append_getElem hk2, h, he]

end Go.Proofs.Ytdcclighccejhaa

/- easelref02's SameBytes. Conditions: as it says. -/
set_option linter.unusedVariables false
namespace Go.Proofs.Ytdcclighccejhaa
open Go.RowKit

set_option maxRecDepth 100000 in
set_option maxHeartbeats 400000 in
theorem rsame_is (va vb : Value) (xs bs : List Nat) (w : World) (ha : Src w va xs) (hb : Src w vb bs) (hl : xs.length ≤ 140737488355328) :
    Calls Try.prog 51 #[va, vb] w fun e w' => e = .returned (.bool (decide (xs = bs))) ∧ ∃ n, w' = w.drewN n := by
  by_cases hlen : xs.length = bs.length
  · rcases Nat.eq_zero_or_pos xs.length with h0 | hpos
    · have e1 : xs = [] := List.eq_nil_of_length_eq_zero h0
      have e2 : bs = [] := List.eq_nil_of_length_eq_zero (by omega)
      subst e1 e2
      obtain ⟨A, c, rfl⟩ := ha.slice
      obtain ⟨A', c', rfl⟩ := hb.slice
      simp only [List.length_nil]
      clear ha hb hl hlen h0
      go_enter Try.func51, Try.ntmps51
      go_wp2
      go_loopw [5] (fun i wr => i = .int .i64 0 ∧ w = wr) (fun _ _ => 0)
      case atStart => exact ⟨rfl, rfl⟩
      case round =>
        obtain ⟨rfl, rfl⟩ := hrel
        go_wp2
        go_ret
        exact ⟨rfl, 0, rfl⟩
    · obtain ⟨g, o, c, rfl, hca⟩ := ha.at_ hpos
      obtain ⟨g', o', c', rfl, hcb⟩ := hb.at_ (by omega)
      have HA := Lib.hid hca
      have HB := Lib.hid hcb
      clear ha hb hca hcb
      obtain ⟨L, hla⟩ : ∃ L, xs.length = L := ⟨_, rfl⟩
      rw [hla] at hl hpos hlen
      rw [← hlen, hla]
      have HLA := Lib.hid hla
      have HLB := Lib.hid hlen.symm
      clear hla hlen
      go_enter Try.func51, Try.ntmps51
      go_wp2
      go_loopw [5] (fun i wr => ∃ k : Nat, k ≤ L ∧ i = .int .i64 k ∧ Hid (xs.take k = bs.take k) ∧ ∃ n, wr = w.drewN n) (fun i _ => L - (intOf i).toNat)
      case atStart => exact ⟨0, by omega, rfl, by simp [Hid], 0, rfl⟩
      case round =>
        obtain ⟨k, hk, rfl, hpre, n, rfl⟩ := hrel
        by_cases hlt : k < L
        · have hka : k < xs.length := by rw [HLA.out]; exact hlt
          have hkb : k < bs.length := by rw [HLB.out]; exact hlt
          have qa := HA.out k hka
          have qb := HB.out k hkb
          by_cases heq : xs[k] = bs[k]
          · have hbne : (((xs[k] : Nat) : Int) != ((bs[k] : Nat) : Int)) = false := by simp [heq]
            have HP := Lib.hid (take_eq_of xs bs k hka hkb hpre.out heq)
            generalize xs[k] = x at *
            generalize bs[k] = y at *
            clear hka hkb heq
            go_wp2
            go_quiet (fail)
            go_wp2
            refine ⟨⟨k + 1, by omega, by go_num, HP.out, _, rfl⟩, by simp [intOf]; omega⟩
          · have hbne : (((xs[k] : Nat) : Int) != ((bs[k] : Nat) : Int)) = true := by simp; omega
            have hne : xs ≠ bs := fun e => heq (by subst e; rfl)
            have HNE := Lib.hid hne
            generalize xs[k] = x at *
            generalize bs[k] = y at *
            clear hka hkb heq hne
            go_wp2
            go_quiet (fail)
            go_wp2
            go_ret
            exact ⟨by rw [decide_eq_false HNE.out]; rfl, n + nq, by simp⟩
        · have hkl : k = L := by omega
          subst hkl
          have hp := hpre.out
          rw [List.take_of_length_le (by rw [HLA.out]; exact Nat.le_refl _), List.take_of_length_le (by rw [HLB.out]; exact Nat.le_refl _)] at hp
          have HP := Lib.hid hp
          clear hp hpre
          go_wp2
          go_ret
          exact ⟨by rw [decide_eq_true HP.out]; rfl, _, rfl⟩
  · have hne : xs ≠ bs := fun e => hlen (by rw [e])
    obtain ⟨A, c, rfl⟩ := ha.slice
    obtain ⟨A', c', rfl⟩ := hb.slice
    have hb : (((xs.length : Nat) : Int) != ((bs.length : Nat) : Int)) = true := by simp; omega
    rw [decide_eq_false hne]
    clear ha hne hl
    generalize xs.length = L at *
    generalize bs.length = L' at *
    go_enter Try.func51, Try.ntmps51
    go_wp2
    go_ret
    exact ⟨rfl, 0, rfl⟩
end Go.Proofs.Ytdcclighccejhaa

/- Bytes as a string (as RtpJ has it). Conditions: as each says. -/
set_option linter.unusedVariables false
namespace Go.Proofs.Ytdcclighccejhaa
open Go.RowKit

set_option maxRecDepth 100000 in
theorem conv_src {w : World} {A : Option Addr} {n c : Nat} {bs : List Nat} (h : Src w (.slice A n c) bs) (hn : bs.length = n) : (convert 40 9 (.slice A n c)).run Try.prog w = .ok (.string (strOfNums (nats bs))) w := by
  rcases Nat.eq_zero_or_pos n with h0 | h0
  · subst h0
    obtain rfl : bs = [] := List.eq_nil_of_length_eq_zero hn
    rcases A with _ | ⟨b, o, s⟩
    · exact run_convert_bytes_nil (P := Try.prog) w 40 5 Try.underlying40 Try.underlying5 0 c 9 Try.underlying9
    · rw [run_convert_bytes_string (P := Try.prog) w 40 9 5 (some ⟨b, o, s⟩) 0 c Try.underlying40 Try.underlying5 Try.underlying9]
      rw [run_bytesToString w _ 0 c [] (by simpa using run_loadCells_list (P := Try.prog) w ⟨b, o, s⟩ [] (fun j v hj => by simp at hj))]
      rfl
  · obtain ⟨g, o, c', e, hc⟩ := h.at_ (by omega)
    injection e with e1 e2 e3
    subst e1
    exact run_convert_bytes_arg (P := Try.prog) w 40 5 Try.underlying40 Try.underlying5 g o n c (nats bs) (by rw [nats_length]; exact hn) (fun i hi => by
      rw [hc i (by omega)]
      simp [nats, List.getD, List.getElem?_eq_getElem (show i < bs.length by omega)]) 9 Try.underlying9

theorem u8_inj : ∀ (xs bs : List Nat), (∀ x ∈ xs, x < 256) → (∀ x ∈ bs, x < 256) → xs.map (fun (x : Nat) => UInt8.ofNat ((x : Int)).toNat) = bs.map (fun (x : Nat) => UInt8.ofNat ((x : Int)).toNat) → xs = bs
  | [], [], _, _, _ => rfl
  | [], _ :: _, _, _, h => by simp at h
  | _ :: _, [], _, _, h => by simp at h
  | a :: xs, b :: bs, ha, hb, h => by
    simp only [List.map_cons, List.cons.injEq] at h
    have h1 := congrArg UInt8.toNat h.1
    have ha0 := ha a (by simp)
    have hb0 := hb b (by simp)
    simp only [UInt8.toNat_ofNat', Int.toNat_natCast] at h1
    have : a = b := by omega
    rw [this, u8_inj xs bs (fun x hx => ha x (by simp [hx])) (fun x hx => hb x (by simp [hx])) h.2]
theorem str_eq (xs bs : List Nat) (ha : ∀ x ∈ xs, x < 256) (hb : ∀ x ∈ bs, x < 256) : ((strOfNums (nats xs)).toList == (strOfNums (nats bs)).toList) = decide (xs = bs) := by
  rw [ByteArray.toList_eq, ByteArray.toList_eq, strOfNums_data, strOfNums_data]
  by_cases h : xs = bs
  · subst h
    simp
  · have hne : ¬ (nats xs).map (fun n => UInt8.ofNat n.toNat) = (nats bs).map (fun n => UInt8.ofNat n.toNat) := by
      intro e
      apply h
      apply u8_inj xs bs ha hb
      simpa [nats, List.map_map, Function.comp_def] using e
    rw [decide_eq_false h]
    exact beq_false_of_ne hne

end Go.Proofs.Ytdcclighccejhaa

/- Arguments of a statement's function, opened: numbers, rows of numbers, structs of any number of fields of one cell. Conditions: as each says. -/
set_option linter.unusedVariables false
namespace Go.Proofs.Ytdcclighccejhaa
open Go.Joins Go.ChangeShapes Go.WideShapes Go.RowKit Go.Deep

section
variable {H : Type} {enc : TypeId × Value → H} {P : Program} {w : World} {base : Nat} {spare : Nat → Bool} {held : Bool}
/-- A struct of fields of one cell, by value. -/
theorem open_agg {r : Reach} {b0 : Nat} {t : TypeId} {fs : Array Field} {v : Value} {d : DataW H} {p : List MemPlace} (hs : P.underlying t = some (.struct fs)) (hone : oneCellFields P fs = true) (hC : P.cellsOf t = fs.size)
    (hv : Value.okWide P w r b0 t v) (h : DataW.Trod enc P w base spare held t v d p) :
    ∃ cs : List Value, v = .agg cs.toArray ∧ cs.length = fs.size ∧ ∀ (j : Nat) (f : Field) (c : Value), fs[j]? = some f → cs[j]? = some c → ∃ (n : Nat) (y : DataW H × List MemPlace), DataW.trod enc P w base spare held n f.type [c] = some y := by
  obtain ⟨cs, rfl, hsz⟩ := okWide_struct hs hv
  obtain ⟨l⟩ := cs
  have hl : l.length = fs.size := hsz.trans hC
  refine ⟨l, rfl, hl, ?_⟩
  obtain ⟨fuel, hf⟩ := h
  obtain ⟨xs, n, _, hx, _, hlen, hg⟩ := DataW.trod_struct hs hf
  intro j f c hj hc
  obtain ⟨o, k⟩ := hone_of hone j f hj
  have h1 := hg j f hj
  rw [o, k] at h1
  have hjl : j < l.length := (List.getElem?_eq_some_iff.1 hc).1
  have e : (l.drop j).take 1 = [c] := by
    rw [List.drop_eq_getElem_cons hjl]
    have : l[j] = c := (List.getElem?_eq_some_iff.1 hc).2
    rw [this]
    rfl
  have h1 : DataW.trod enc P w base spare held n f.type ((l.drop j).take 1) = xs[j]? := h1
  rw [e] at h1
  have hjx : j < xs.length := by omega
  rw [List.getElem?_eq_getElem hjx] at h1
  exact ⟨n, _, h1⟩
theorem field_bool {n : Nat} {t : TypeId} {c : Value} {y : DataW H × List MemPlace} (ht : P.underlying t = some .bool) (h : DataW.trod enc P w base spare held n t [c] = some y) : ∃ b : Bool, c = .bool b := by
  obtain ⟨b, h, _⟩ := DataW.trod_bool ht h
  injection h with h
  exact ⟨b, h⟩
theorem nat_of_wf {k : IntKind} {m : Nat} {z : Int} (hk : k = .u8 ∧ m = 256 ∨ k = .u16 ∧ m = 65536 ∨ k = .u32 ∧ m = 4294967296 ∨ k = .u64 ∧ m = 18446744073709551616) (hw : (Lit.int k z).wf = true) : ∃ x : Nat, z = (x : Int) ∧ x < m := by
  have hz : 0 ≤ z ∧ z < m := by
    rcases hk with ⟨rfl, rfl⟩ | ⟨rfl, rfl⟩ | ⟨rfl, rfl⟩ | ⟨rfl, rfl⟩ <;> (simp [Lit.wf, IntKind.min, IntKind.max, IntKind.signed, IntKind.bits] at hw; omega)
  exact ⟨z.toNat, by rw [Int.toNat_of_nonneg hz.1], by omega⟩
theorem field_int {n : Nat} {t : TypeId} {c : Value} {y : DataW H × List MemPlace} (ht : P.underlying t = some (.int .i64)) (h : DataW.trod enc P w base spare held n t [c] = some y) : ∃ z : Int, c = .int .i64 z ∧ (Lit.int .i64 z).wf = true := by
  obtain ⟨z, h, _, hw⟩ := DataW.trod_int ht h
  injection h with h
  exact ⟨z, h, hw⟩
/-- A number without a sign. -/
theorem field_nat {k : IntKind} {m n : Nat} {t : TypeId} {c : Value} {y : DataW H × List MemPlace} (ht : P.underlying t = some (.int k)) (hk : k = .u8 ∧ m = 256 ∨ k = .u16 ∧ m = 65536 ∨ k = .u32 ∧ m = 4294967296 ∨ k = .u64 ∧ m = 18446744073709551616) (h : DataW.trod enc P w base spare held n t [c] = some y) : ∃ x : Nat, c = .int k x ∧ x < m := by
  obtain ⟨z, h, _, hw⟩ := DataW.trod_int ht h
  injection h with h
  subst h
  have hz : 0 ≤ z ∧ z < m := by
    rcases hk with ⟨rfl, rfl⟩ | ⟨rfl, rfl⟩ | ⟨rfl, rfl⟩ | ⟨rfl, rfl⟩ <;> (simp [Lit.wf, IntKind.min, IntKind.max, IntKind.signed, IntKind.bits] at hw; omega)
  exact ⟨z.toNat, by rw [Int.toNat_of_nonneg hz.1], by omega⟩
/-- A row of bytes. -/
theorem field_bytes {n : Nat} {t e : TypeId} {c : Value} {y : DataW H × List MemPlace} (ht : P.underlying t = some (.slice e)) (he : P.underlying e = some (.int .u8)) (hc : P.cellsOf e = 1) (h : DataW.trod enc P w base spare held n t [c] = some y) :
    ∃ bs : List Nat, Src w c bs ∧ (∀ x ∈ bs, x < 256) ∧ bs.length ≤ 9223372036854775807 := by
  rcases open_ints ht he hc h with ⟨hcs, _⟩ | ⟨x, l, cp, zs, hcs, _, hl, hm, hz, _, hcell, hwz⟩
  · injection hcs with hcs
    exact ⟨[], .inl ⟨hcs, rfl⟩, by simp, by simp⟩
  · injection hcs with hcs
    have hlz : l ≤ zs.length := by rw [hz]; split <;> omega
    have hb : ∀ z ∈ zs, 0 ≤ z ∧ z < 256 := fun z hz => by
      have := hwz z hz
      simp [Lit.wf, IntKind.min, IntKind.max, IntKind.signed, IntKind.bits] at this
      omega
    have hlen : ((zs.take l).map Int.toNat).length = l := by rw [List.length_map, List.length_take]; omega
    refine ⟨(zs.take l).map Int.toNat, .inr ⟨x, cp, by rw [hlen]; exact hcs, by rw [hlen]; exact hl, fun j u hu => ?_⟩, ?_, by rw [hlen]; unfold maxLen at hm; omega⟩
    · have hj : j < ((zs.take l).map Int.toNat).length := by
        have := (List.getElem?_eq_some_iff.1 hu).1
        rwa [length_cellsOf] at this
      rw [cellsOf_get _ j hj] at hu
      injection hu with hu
      subst hu
      have hjl : j < l := by omega
      have hjz : j < zs.length := by omega
      rw [hcell j hjz]
      have h0 := hb zs[j] (List.getElem_mem _)
      simp [List.getD, List.getElem?_eq_getElem hjz]
      omega
    · intro y hy
      obtain ⟨z, hz, rfl⟩ := List.mem_map.1 hy
      have := hb z (List.take_subset _ _ hz)
      omega
/-- A row of numbers. -/
theorem field_rd {k : IntKind} {n : Nat} {t e : TypeId} {c : Value} {y : DataW H × List MemPlace} (ht : P.underlying t = some (.slice e)) (he : P.underlying e = some (.int k)) (hc : P.cellsOf e = 1) (h : DataW.trod enc P w base spare held n t [c] = some y) :
    ∃ zs : List Int, Rd k w c zs ∧ (∀ z ∈ zs, (Lit.int k z).wf = true) ∧ zs.length ≤ 9223372036854775807 := by
  rcases open_ints ht he hc h with ⟨hcs, _⟩ | ⟨x, l, cp, zs, hcs, _, hl, hm, hz, _, hcell, hwz⟩
  · injection hcs with hcs
    subst hcs
    exact ⟨[], Rd.nil _ _, by simp, by simp⟩
  · injection hcs with hcs
    subst hcs
    have hlz : l ≤ zs.length := by rw [hz]; split <;> omega
    have hlen : (zs.take l).length = l := by rw [List.length_take]; omega
    refine ⟨zs.take l, ⟨some x, cp, by rw [hlen], by rw [hlen]; exact hl, fun hp => ?_⟩, fun z hz => hwz z (List.take_subset _ _ hz), by rw [hlen]; unfold maxLen at hm; omega⟩
    have h0 := hcell 0 (by omega)
    obtain ⟨g, o, spot⟩ := x
    have hspot : spot = none := by simpa [Addr.add] using World.cell?_spot h0
    subst hspot
    refine ⟨g, o, rfl, fun j hj => ?_⟩
    have hjz : j < zs.length := by omega
    have := hcell j hjz
    rw [add_plain] at this
    rw [this]
    simp [List.getD, List.getElem?_eq_getElem hjz]
end
end Go.Proofs.Ytdcclighccejhaa

/- A row of numbers as an argument: nil, or one that lies somewhere. Conditions: as each says. -/
set_option linter.unusedVariables false
namespace Go.Proofs.Ytdcclighccejhaa
open Go.Joins Go.ChangeShapes Go.WideShapes Go.RowKit Go.Deep

section
variable {H : Type} {enc : TypeId × Value → H} {P : Program} {w : World} {base : Nat} {spare : Nat → Bool} {held : Bool}
theorem field_rdn {k : IntKind} {n : Nat} {t e : TypeId} {c : Value} {y : DataW H × List MemPlace} (ht : P.underlying t = some (.slice e)) (he : P.underlying e = some (.int k)) (hc : P.cellsOf e = 1) (h : DataW.trod enc P w base spare held n t [c] = some y) :
    ∃ zs : List Int, Rd k w c zs ∧ (∀ z ∈ zs, (Lit.int k z).wf = true) ∧ zs.length ≤ 9223372036854775807 ∧ (c = .slice none 0 0 ∨ ∃ ad m d, c = .slice (some ad) m d) := by
  obtain ⟨zs, h1, h2, h3⟩ := field_rd ht he hc h
  refine ⟨zs, h1, h2, h3, ?_⟩
  rcases open_ints ht he hc h with ⟨hcs, _⟩ | ⟨x, l, cp, zs', hcs, _⟩
  · injection hcs with hcs
    exact .inl hcs
  · injection hcs with hcs
    exact .inr ⟨_, _, _, hcs⟩
end
theorem nats_u32 : ∀ (zs : List Int), (∀ z ∈ zs, (Lit.int .u32 z).wf = true) → ∃ xs : List Nat, nats xs = zs ∧ ∀ x ∈ xs, x < 4294967296
  | [], _ => ⟨[], rfl, by simp⟩
  | z :: zs, h => by
    obtain ⟨xs, h1, h2⟩ := nats_u32 zs (fun y hy => h y (by simp [hy]))
    obtain ⟨x, rfl, hx⟩ := nat_of_wf (m := 4294967296) (.inr (.inr (.inl ⟨rfl, rfl⟩))) (h z (by simp))
    refine ⟨x :: xs, by rw [← h1]; rfl, fun y hy => ?_⟩
    rcases List.mem_cons.1 hy with rfl | hy
    · exact hx
    · exact h2 y hy
end Go.Proofs.Ytdcclighccejhaa

/- Arguments that are rows of structs of one-cell fields, opened. Conditions: as each says. -/
set_option linter.unusedVariables false
namespace Go.Proofs.Ytdcclighccejhaa
open Go.Joins Go.ChangeShapes Go.WideShapes Go.RowKit Go.Deep

section
variable {H : Type} {enc : TypeId × Value → H} {P : Program} {w : World} {base : Nat} {spare : Nat → Bool} {held : Bool}
/-- A row of structs of fields of one cell. -/
theorem open_rows {n : Nat} {t e : TypeId} {fs : Array Field} {c : Value} {y : DataW H × List MemPlace} (ht : P.underlying t = some (.slice e)) (he : P.underlying e = some (.struct fs)) (hone : oneCellFields P fs = true) (hC : P.cellsOf e = fs.size)
    (h : DataW.trod enc P w base spare held n t [c] = some y) :
    c = .slice none 0 0 ∨ ∃ (a : Addr) (len cap : Nat), c = .slice (some a) len cap ∧ len ≤ cap ∧ cap ≤ maxLen ∧ ∀ i, i < len → ∃ cs : List Value, cs.length = fs.size ∧ (∀ j, j < fs.size → w.cell? (a.add (i * fs.size + j)) = cs[j]?) ∧
      ∀ (j : Nat) (f : Field) (x : Value), fs[j]? = some f → cs[j]? = some x → ∃ (m : Nat) (z : DataW H × List MemPlace), DataW.trod enc P w base spare held m f.type [x] = some z := by
  rcases open_slice ht h with ⟨hcs, _⟩ | ⟨a, len, cap, m, k, D, Pl, hcs, _, hl, hm, hmm, _, hi⟩
  · injection hcs with hcs
    exact .inl hcs
  · injection hcs with hcs
    refine .inr ⟨a, len, cap, hcs, hl, hm, fun i him => ?_⟩
    obtain ⟨cs, hc, hT⟩ := hi i (by rw [hmm]; split <;> omega)
    rw [hC] at hc
    obtain ⟨xs, m', _, _, hlen, hxl, hf⟩ := DataW.trod_struct he hT
    obtain ⟨_, hcl, hat⟩ := World.cells?_some hc
    refine ⟨cs, hcl, fun j hj => ?_, fun j f x hj hx => ?_⟩
    · rw [← Go.Deep.add_add]
      exact hat j hj
    · obtain ⟨o, k1⟩ := hone_of hone j f hj
      have h1 := hf j f hj
      rw [o, k1] at h1
      obtain ⟨hjl, hxe⟩ := List.getElem?_eq_some_iff.1 hx
      have e1 : (cs.drop j).take 1 = [x] := by
        rw [List.drop_eq_getElem_cons hjl, hxe]
        rfl
      rw [e1] at h1
      have hjx : j < xs.length := by rw [hxl]; exact (Array.getElem?_eq_some_iff.1 hj).1
      rw [List.getElem?_eq_getElem hjx] at h1
      exact ⟨m', _, h1⟩
end
theorem list_of {α : Type} {Q : Nat → α → Prop} : ∀ (n : Nat), (∀ i, i < n → ∃ a, Q i a) → ∃ l : List α, l.length = n ∧ ∀ i a, l[i]? = some a → Q i a
  | 0, _ => ⟨[], rfl, fun i a h => by simp at h⟩
  | n + 1, h => by
    obtain ⟨l, h1, h2⟩ := list_of n (fun i hi => h i (by omega))
    obtain ⟨a, ha⟩ := h n (by omega)
    refine ⟨l ++ [a], by simp [h1], fun i b hb => ?_⟩
    by_cases hi : i < l.length
    · rw [List.getElem?_append_left hi] at hb
      exact h2 i b hb
    · rw [List.getElem?_append_right (by omega)] at hb
      have h0 : i - l.length = 0 := by
        rcases Nat.eq_zero_or_pos (i - l.length) with e | e
        · exact e
        · rw [List.getElem?_eq_none (by simp; omega)] at hb; cases hb
      rw [h0] at hb
      simp at hb
      subst hb
      rw [show i = n by omega]
      exact ha
end Go.Proofs.Ytdcclighccejhaa
