/- Rows of bytes: a copy of one (bytes.Clone), a row that is owned, a row that is read. Conditions: as each says. -/
import Derived.Test.YtiacjgnngdpohaaRows
import Derived.Test.YtiacjgnngdpohaaMem
import Derived.Deep.QuietTactic
import Derived.BigQuiet
import Derived.BigRegion
import Derived.StillTailTactics
import Derived.Laws.CopyOwn
set_option linter.unusedVariables false
namespace Go.Proofs.Ytiacjgnngdpohaa
open Go.RowKit

/-- A pointer to the head of block b. -/
abbrev ptr (b : Nat) : Value := .pointer (some ⟨b, 0, none⟩)
theorem int_congr {k : IntKind} {a b : Int} (h : a = b) : Value.int k a = .int k b := by rw [h]
theorem Try.sizeU8 : (Try.prog.info? 5).map (·.size) = some 1 := by kernel_rfl

set_option maxRecDepth 100000 in
set_option maxHeartbeats 400000 in
theorem clone_nil (w : World) : Calls Try.prog 64 #[.slice none 0 0] w fun e w' => e = .returned (.slice none 0 0) ∧ w = w' := by
  have hq := fun (w : World) => Lib.run_eql_slice_nil (P := Try.prog) w 35 5 none 0 0 0 0 Try.underlying35
  simp at hq
  go_enter Try.func64, Try.ntmps64
  go_wp2
  go_ret
  exact ⟨rfl, rfl⟩

theorem Try.infoU8 : (Try.prog.info? 5).map (fun i => (i.zero, i.size, i.bytes)) = some (some (.int .u8 0), 1, 1) := by kernel_rfl

/-- What a call answers that hands out a row of bytes of its own. -/
def OwnRow (B : Nat) (news : List Value) (w : World) (e : Ending) (w' : World) : Prop := ∃ v, e = .returned v ∧ w'.ownsRow B 5 1 v news.length news ∧ Only (fun _ => False) w w' ∧ (∀ k, v.ownBlock = some k → w.heap.size ≤ k)

set_option maxRecDepth 100000 in
set_option maxHeartbeats 400000 in
theorem clone_is (a : Addr) (n c : Nat) (w : World) (B : Nat) (news : List Value) (hB : B ≤ w.heap.size) (hl : news.length = n) (hc : ∀ j u, news[j]? = some u → w.cell? (a.add j) = some u) (h1 : ∀ u ∈ news, u.oneCell' = true) (hn : n ≤ 140737488355328) :
    Calls Try.prog 64 #[.slice (some a) n c] w (OwnRow B news w) := by
  have hq := fun (w : World) => Lib.run_eql_slice_nil (P := Try.prog) w 35 5 (some a) n c 0 0 Try.underlying35
  simp at hq
  obtain ⟨i0, hi, hz0, hz1, hz2⟩ := info_parts Try.infoU8
  have Hl := Lib.hid hl
  have Hc := Lib.hid hc
  have H1 := Lib.hid h1
  have Hz := Lib.hid (show ∀ j u, news[j]? = some u → (w.alloc (.cells #[] 5)).cell? (a.add j) = some u from fun j u hu => Lib.cell?_alloc_some _ (hc j u hu))
  have Hm : n ≤ maxLen := by unfold maxLen; omega
  clear hl hc h1
  go_enter Try.func64, Try.ntmps64
  go_wp2_with (at_builtin; refine wpList_append_own _ rfl _ _ 35 rfl w.heap.size 5 i0 (.int .u8 0) 1 1 Try.underlying35 hi hz0 hz1 hz2 rfl (by decide) _ 0 [] rfl (World.ownsRow_lit w #[] 0 (Nat.le_refl _) (by decide) rfl) a n c news rfl (by rw [Hl.out, Nat.mul_one]) Hz.out H1.out (by omega) (by omega) (by simp) ?_)
  intro v' w1 hown hg _
  go_wp2
  go_ret
  rw [← Hl.out] at hown
  refine ⟨_, rfl, ?_, ?_, fun k hk => (hown.lt k hk).1⟩
  · obtain ⟨q1, q2⟩ := hown
    refine ⟨q1, ?_⟩
    rcases q2 with q2 | ⟨g, cap, cur, r1, r2, r3⟩
    · exact .inl q2
    · exact .inr ⟨g, cap, cur, r1, by omega, r3⟩
  · exact ((Only.refl _ w).alloc _).grown hg (fun i hi hlt => by simp [Value.ownBlock] at hi; omega)


/-- Bytes in new memory, of B on. -/
theorem OwnRow.cells {B : Nat} {news : List Value} {w w' : World} {e : Ending} (h : OwnRow B news w e w') : ∃ v, e = .returned v ∧ w'.ownsRow B 5 1 v news.length news ∧ Only (fun _ => False) w w' ∧ (∀ k, v.ownBlock = some k → w.heap.size ≤ k) := h

theorem own_slice {w : World} {B n : Nat} {t : TypeId} {v : Value} {xs : List Value} (h : w.ownsRow B t 1 v n xs) : ∃ A c, v = .slice A n c ∧ n ≤ c := by
  rcases h.2 with ⟨rfl, rfl⟩ | ⟨g, cap, cur, rfl, _, _, hc, _⟩
  · exact ⟨none, 0, rfl, Nat.le_refl _⟩
  · exact ⟨_, cap, rfl, hc⟩

/-- Nothing, or bytes that are there: a slice of which a copy can be made. -/
def Src (w : World) (v : Value) (bs : List Nat) : Prop :=
  (v = .slice none 0 0 ∧ bs = []) ∨ ∃ a c, v = .slice (some a) bs.length c ∧ bs.length ≤ c ∧ ∀ j u, (cellsOf bs)[j]? = some u → w.cell? (a.add j) = some u

theorem Src.of_own {w : World} {B : Nat} {v : Value} {bs : List Nat} (h : w.ownsRow B 5 1 v bs.length (cellsOf bs)) : Src w v bs := by
  rcases h.2 with ⟨rfl, h0⟩ | ⟨g, cap, cur, rfl, hb, hg, hc, _⟩
  · exact .inl ⟨rfl, List.eq_nil_of_length_eq_zero h0⟩
  · exact .inr ⟨_, cap, rfl, hc, h.cells (g := g) rfl⟩

theorem clone_src (v : Value) (bs : List Nat) (w : World) (B : Nat) (hB : B ≤ w.heap.size) (hs : Src w v bs) (hn : bs.length ≤ 140737488355328) :
    Calls Try.prog 64 #[v] w (OwnRow B (cellsOf bs) w) := by
  rcases hs with ⟨rfl, rfl⟩ | ⟨a, c, rfl, _, hc⟩
  · refine (clone_nil w).mono ?_
    rintro e w' ⟨rfl, rfl⟩
    exact ⟨_, rfl, World.ownsRow_nil _ _ _ _, Only.refl _ _, by simp [Value.ownBlock]⟩
  · exact clone_is a bs.length c w B (cellsOf bs) hB (length_cellsOf bs) hc (cellsOf_one bs) hn

theorem Src.at_ {w : World} {v : Value} {bs : List Nat} (h : Src w v bs) (hp : 0 < bs.length) : ∃ g o c, v = .slice (some ⟨g, o, none⟩) bs.length c ∧ ∀ j (hj : j < bs.length), w.cell? ⟨g, o + j, none⟩ = some (.int .u8 (bs[j] : Int)) := by
  rcases h with ⟨_, rfl⟩ | ⟨a, c, rfl, _, hc⟩
  · simp at hp
  · obtain ⟨g, o, spot⟩ := a
    have h0 := hc 0 _ (cellsOf_get bs 0 hp)
    have hspot : spot = none := by simpa [Addr.add] using World.cell?_spot h0
    subst hspot
    refine ⟨g, o, c, rfl, fun j hj => ?_⟩
    have := hc j _ (cellsOf_get bs j hj)
    rwa [add_plain] at this
theorem Src.slice {w : World} {v : Value} {bs : List Nat} (h : Src w v bs) : ∃ A c, v = .slice A bs.length c := by
  rcases h with ⟨rfl, rfl⟩ | ⟨a, c, rfl, _⟩
  · exact ⟨none, 0, rfl⟩
  · exact ⟨_, c, rfl⟩
theorem Src.drewN {w : World} {v : Value} {bs : List Nat} (h : Src w v bs) (n : Nat) : Src (w.drewN n) v bs := h
theorem Src.only {w w1 : World} {v : Value} {bs : List Nat} {S : Nat → Prop} (h : Src w v bs) (ho : Only S w w1) (hn : ∀ k, v.ownBlock = some k → ¬ S k) : Src w1 v bs := by
  rcases h with h | ⟨a, c, rfl, hl, hc⟩
  · exact .inl h
  · refine .inr ⟨a, c, rfl, hl, fun j u hu => ?_⟩
    have h1 := hc j u hu
    have hb : (a.add j).block = a.block := by unfold Addr.add; split <;> rfl
    exact (ho.cell (World.block_lt_of_cell? w _ h1) (by rw [hb]; exact hn a.block rfl)).trans h1


/-- append of bytes, be they nil, to a row that is owned: the law at the operation. -/
theorem wp_append_src {o : Oper} {a : Act} {K : Act → World → Prop} {Q : Exit → Act → World → Prop} (w : World) (s x : Operand)
    (ho : o.op = .call { callee := .builtin .append, args := #[s, x], argTypes := #[35, 35] })
    (B : Nat) (v : Value) (bs : List Nat) (hs : a.eval s = v) (hown : w.ownsRow B 5 1 v bs.length (cellsOf bs)) (vx : Value) (news : List Nat) (hx : a.eval x = vx) (hsrc : Src w vx news)
    (hl : bs.length + news.length ≤ 140737488355328) (hB : B ≤ w.heap.size)
    (h : ∀ v' w', w'.ownsRow B 5 1 v' (bs.length + news.length) (cellsOf bs ++ cellsOf news) → w.grownBy w' v.ownBlock → K (a.put o.dst v') w') :
    Oper.wp Try.prog o a w K Q := by
  obtain ⟨i0, hi, hz0, hz1, hz2⟩ := info_parts Try.infoU8
  rcases hsrc with ⟨rfl, rfl⟩ | ⟨ad, c, rfl, _, hc⟩
  · have hrun := run_append_owned_none (P := Try.prog) w B 35 o.type 5 i0 1 Try.underlying35 hi v bs.length (cellsOf bs) hown
    unfold Oper.wp
    simp [execOp, ho, resolve, invoke, builtin, hs, hx, hrun, Result.andThen]
    exact h v w (by simpa [cellsOf] using hown) (World.grownBy.refl _ _)
  · exact wp_append_own w s x 35 ho B 5 i0 (.int .u8 0) 1 1 Try.underlying35 hi hz0 hz1 hz2 rfl (by decide) v bs.length (cellsOf bs) hs hown ad news.length c (cellsOf news) hx (by rw [length_cellsOf, Nat.mul_one]) hc (cellsOf_one news) (by unfold maxLen; omega) (by omega) hB (fun v' w' h1 h2 _ => h v' w' h1 h2)

theorem wpList_append_src {ops : Array Oper} {rest : List Oper} {o : Oper} {a : Act} {Q : Exit → Act → World → Prop} (w : World) (hgd : o.guard = none) (s x : Operand)
    (ho : o.op = .call { callee := .builtin .append, args := #[s, x], argTypes := #[35, 35] })
    (B : Nat) (v : Value) (bs : List Nat) (hs : a.eval s = v) (hown : w.ownsRow B 5 1 v bs.length (cellsOf bs)) (vx : Value) (news : List Nat) (hx : a.eval x = vx) (hsrc : Src w vx news)
    (hl : bs.length + news.length ≤ 140737488355328) (hB : B ≤ w.heap.size)
    (h : ∀ v' w', w'.ownsRow B 5 1 v' (bs.length + news.length) (cellsOf bs ++ cellsOf news) → w.grownBy w' v.ownBlock → wpList Try.prog ops Q rest (a.put o.dst v') w') :
    wpList Try.prog ops Q (o :: rest) a w :=
  wpList_plain hgd fun _ hK => wp_append_src w s x ho B v bs hs hown vx news hx hsrc hl hB fun v' w' h1 h2 => hK _ _ (h v' w' h1 h2)

theorem step_append_src {ops : Array Oper} {o : Oper} {a : Act} {K : Act → World → Prop} {Q : Exit → Act → World → Prop} {E : Prop} (w : World) (hgd : o.guard = none) (s x : Operand)
    (ho : o.op = .call { callee := .builtin .append, args := #[s, x], argTypes := #[35, 35] })
    (B : Nat) (v : Value) (bs : List Nat) (hs : a.eval s = v) (hown : w.ownsRow B 5 1 v bs.length (cellsOf bs)) (vx : Value) (news : List Nat) (hx : a.eval x = vx) (hsrc : Src w vx news)
    (hl : bs.length + news.length ≤ 140737488355328) (hB : B ≤ w.heap.size)
    (h : ∀ v' w', w'.ownsRow B 5 1 v' (bs.length + news.length) (cellsOf bs ++ cellsOf news) → w.grownBy w' v.ownBlock → K (a.put o.dst v') w') :
    if Region.wanted o (yielded ops a.tmps) = true then Oper.wp Try.prog o a w K Q else E := by
  have hw : Region.wanted o (yielded ops a.tmps) = true := by simp [Region.wanted, hgd]
  rw [if_pos hw]
  exact wp_append_src w s x ho B v bs hs hown vx news hx hsrc hl hB h

theorem madeU8 (n : Nat) : (madeCells #[Value.int .u8 0] n).toList = cellsOf (List.replicate n 0) := by
  rw [toList_madeCells_one]
  simp [cellsOf]
def nats (xs : List Nat) : List Int := xs.map fun (x : Nat) => (x : Int)
theorem nats_length (xs : List Nat) : (nats xs).length = xs.length := by simp [nats]
end Go.Proofs.Ytiacjgnngdpohaa
