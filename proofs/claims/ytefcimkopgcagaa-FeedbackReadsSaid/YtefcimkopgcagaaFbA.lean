/- Feedback: pairs, plainly and in rows; the numbers that they tell. Conditions: as each says. -/
import Derived.Test.YtefcimkopgcagaaBase
set_option linter.unusedVariables false
namespace Go.Proofs.Ytefcimkopgcagaa
open Go.RowKit

structure Pr where
  pid : Nat
  blp : Nat
def Pr.Fit (p : Pr) : Prop := p.pid < 65536 ∧ p.blp < 65536
def Pr.lst (p : Pr) : List Value := [.int .u16 (p.pid : Nat), .int .u16 (p.blp : Nat)]
/-- The cells of a pair in a row. -/
def PCells (w : World) (g o i : Nat) (p : Pr) : Prop :=
  w.cell? ⟨g, o + i * 2, none⟩ = some (.int .u16 (p.pid : Nat)) ∧ w.cell? ⟨g, o + i * 2 + 1, none⟩ = some (.int .u16 (p.blp : Nat))
theorem PCells.only {w w1 : World} {g o i : Nat} {p : Pr} {S : Nat → Prop} (h : PCells w g o i p) (ho : Only S w w1) (hS : ¬ S g) : PCells w1 g o i p :=
  ⟨(ho.cell (World.block_lt_of_cell? w _ h.1) hS).trans h.1, (ho.cell (World.block_lt_of_cell? w _ h.2) hS).trans h.2⟩
/-- Pairs that can be read. -/
def RdP (w : World) (v : Value) (l : List Pr) : Prop :=
  ∃ A c, v = .slice A l.length c ∧ l.length ≤ c ∧ (0 < l.length → ∃ g o, A = some ⟨g, o, none⟩ ∧ ∀ (i : Nat) (p : Pr), l[i]? = some p → PCells w g o i p)
theorem RdP.only {w w1 : World} {v : Value} {l : List Pr} (h : RdP w v l) (ho : Only (fun _ => False) w w1) : RdP w1 v l := by
  obtain ⟨A, c, rfl, hc, hh⟩ := h
  refine ⟨A, c, rfl, hc, fun hp => ?_⟩
  obtain ⟨g, o, rfl, hi⟩ := hh hp
  exact ⟨g, o, rfl, fun i p hx => (hi i p hx).only ho (by simp)⟩
theorem RdP.nil (w : World) : RdP w (.slice none 0 0) [] := ⟨none, 0, rfl, by simp, fun h => by simp at h⟩
/-- A row of pairs that is owned. -/
def OwnP (B : Nat) (T : TypeId) (v : Value) (l : List Pr) (w : World) : Prop := OwnS w B T 2 v (l.map Pr.lst)
theorem OwnP.rd {B : Nat} {T : TypeId} {v : Value} {l : List Pr} {w : World} (h : OwnP B T v l w) : RdP w v l := by
  obtain ⟨A, c, rfl, hc⟩ := OwnS.slice h
  rw [List.length_map] at hc ⊢
  refine ⟨A, c, rfl, hc, fun hp => ?_⟩
  obtain ⟨g, c', e, -, -, -, hcell⟩ := OwnS.at_ h (by simpa using hp)
  injection e with e1
  subst e1
  refine ⟨g, 0, rfl, fun i p hi => ?_⟩
  have h0 := hcell i 0 p.lst (by simp [hi]) (by omega)
  have h1 := hcell i 1 p.lst (by simp [hi]) (by omega)
  rw [Nat.add_zero] at h0
  exact ⟨by rw [Nat.zero_add]; exact h0, by rw [Nat.zero_add]; exact h1⟩
/-- A row of numbers of 16 digits that is owned. -/
def OwnN (B : Nat) (v : Value) (l : List Nat) (w : World) : Prop := OwnS w B 75 1 v (l.map fun n => [Value.int .u16 (n : Nat)])
theorem OwnN.slice {B : Nat} {v : Value} {l : List Nat} {w : World} (h : OwnN B v l w) : ∃ A c, v = .slice A l.length c ∧ l.length ≤ c := by
  obtain ⟨A, c, rfl, hc⟩ := OwnS.slice h
  rw [List.length_map] at hc ⊢
  exact ⟨A, c, rfl, hc⟩
theorem OwnN.only {B : Nat} {v : Value} {l : List Nat} {w w1 : World} {S : Nat → Prop} (h : OwnN B v l w) (ho : Only S w w1) (hs : ∀ k, v.ownBlock = some k → ¬ S k) : OwnN B v l w1 := OwnS.only h ho hs
theorem OwnN.rd {B : Nat} {v : Value} {l : List Nat} {w : World} (h : OwnN B v l w) : Rd .u16 w v (nats l) := by
  obtain ⟨A, c, rfl, hc⟩ := OwnN.slice h
  refine ⟨A, c, by rw [nats_length], by rw [nats_length]; exact hc, fun hp => ?_⟩
  rw [nats_length] at hp
  obtain ⟨g, c', e, -, -, -, hcell⟩ := OwnS.at_ h (by simpa using hp)
  injection e with e1
  subst e1
  refine ⟨g, 0, rfl, fun j hj => ?_⟩
  rw [nats_length] at hj
  have h0 := hcell j 0 [Value.int .u16 (l[j] : Nat)] (by simp [hj]) (by omega)
  rw [Nat.mul_one, Nat.add_zero] at h0
  rw [Nat.zero_add, h0]
  simp [nats]
theorem OwnN.nil (w : World) (B : Nat) : OwnN B (.slice none 0 0) [] w := OwnS.nil w B 75 1
theorem OwnP.nil (w : World) (B : Nat) (T : TypeId) : OwnP B T (.slice none 0 0) [] w := OwnS.nil w B T 2
theorem Try.infoU16 : (Try.prog.info? 75).map (fun i => (i.zero, i.size, i.bytes)) = some (some (.int .u16 0), 1, 2) := by kernel_rfl
theorem sty_u16 : Sty 62 75 1 2 := by
  obtain ⟨i0, hi, hz0, hz1, hz2⟩ := info_parts Try.infoU16
  exact ⟨Try.underlying62, ⟨i0, _, hi, hz0, hz1, hz2, rfl⟩, by decide⟩
theorem Try.infoPr : (Try.prog.info? 82).map (fun i => (i.zero, i.size, i.bytes)) = some (some (.agg #[.int .u16 0, .int .u16 0]), 2, 4) := by kernel_rfl
theorem Try.infoRp : (Try.prog.info? 83).map (fun i => (i.zero, i.size, i.bytes)) = some (some (.agg #[.int .u16 0, .int .u16 0]), 2, 4) := by kernel_rfl
theorem sty_pr : Sty 23 82 2 4 := by
  obtain ⟨i0, hi, hz0, hz1, hz2⟩ := info_parts Try.infoPr
  exact ⟨Try.underlying23, ⟨i0, _, hi, hz0, hz1, hz2, rfl⟩, by decide⟩
theorem sty_rp : Sty 30 83 2 4 := by
  obtain ⟨i0, hi, hz0, hz1, hz2⟩ := info_parts Try.infoRp
  exact ⟨Try.underlying30, ⟨i0, _, hi, hz0, hz1, hz2, rfl⟩, by decide⟩

/-- The numbers behind the first that a pair tells, up to the k-th. -/
def told (p : Pr) : Nat → List Nat
  | 0 => []
  | k + 1 => told p k ++ (if p.blp / 2 ^ k % 2 = 1 then [(p.pid + (k + 1)) % 65536] else [])
def Pr.nums (p : Pr) : List Nat := p.pid :: told p 16
def numsOf (l : List Pr) : List Nat := l.flatMap Pr.nums
theorem told_len (p : Pr) : ∀ k, (told p k).length ≤ k
  | 0 => by simp [told]
  | k + 1 => by
    have := told_len p k
    unfold told
    rw [List.length_append]
    split <;> simp <;> omega
theorem numsOf_len : ∀ (l : List Pr), (numsOf l).length ≤ 17 * l.length
  | [] => by simp [numsOf]
  | p :: l => by
    have h1 := told_len p 16
    have h2 := numsOf_len l
    simp only [numsOf, List.flatMap_cons, List.length_append, Pr.nums, List.length_cons] at *
    omega
theorem numsOf_snoc (l : List Pr) (p : Pr) : numsOf (l ++ [p]) = numsOf l ++ p.nums := by simp [numsOf]
theorem told_lt (p : Pr) : ∀ k, ∀ x ∈ told p k, x < 65536
  | 0, x, h => by simp [told] at h
  | k + 1, x, h => by
    unfold told at h
    rcases List.mem_append.1 h with h | h
    · exact told_lt p k x h
    · split at h
      · rw [List.mem_singleton.1 h]
        exact Nat.mod_lt _ (by decide)
      · simp at h
section
variable {ops : Array Oper} {rest : List Oper} {o : Oper} {a : Act} {Q : Exit → Act → World → Prop}
theorem wpList_append_num (wr : World) (hgd : o.guard = none) (s x : Operand)
    (ho : o.op = .call { callee := .builtin .append, args := #[s, x], argTypes := #[62, 62] })
    (B : Nat) (v : Value) (l : List Nat) (y : Nat) (hs : a.eval s = v) (hown : OwnN B v l wr) (Y : Int) (hY : Y = (y : Int))
    (hx : a.eval x = .slice (some ⟨wr.heap.size, 0, none⟩) 1 1) (hl : l.length ≤ 100000) (hB : B ≤ wr.heap.size)
    (h : ∀ v' w', OwnN B v' (l ++ [y]) w' → Only (fun k => v.ownBlock = some k) wr w' → wpList Try.prog ops Q rest (a.put o.dst v') w') :
    wpList Try.prog ops Q (o :: rest) a (wr.alloc (.cells #[.int .u16 Y] 75)) := by
  subst hY
  refine wpList_append_struct _ hgd s x sty_u16 ho B v (l.map fun n => [Value.int .u16 (n : Nat)]) hs (OwnS.only hown ((Only.refl (fun _ => False) wr).alloc _) (by simp)) wr.heap.size [.int .u16 (y : Nat)] hx (Is.made wr _ _) rfl (by simp [Value.oneCell']) (by simpa using hl) (show 2 ≤ 100000 by decide) (by simp; omega) (fun v' w' h1 h2 => h v' w' ?_ (((Only.refl _ wr).alloc _).trans h2 (fun i hi e => e)))
  unfold OwnN
  rw [List.map_append]
  exact h1
end
end Go.Proofs.Ytefcimkopgcagaa
