/- A writer as a whole: what Put makes of it. Conditions: as each says. -/
import Derived.Test.YtefcimkopgcagaaBitsE
set_option linter.unusedVariables false
namespace Go.Proofs.Ytefcimkopgcagaa
open Go.RowKit

/-- Block b is a writer to which the digits d were put; its row is v, the bytes bs, of block B on. -/
structure Wr (w : World) (b : Nat) (d bs : List Nat) (v : Value) (B : Nat) : Prop where
  is : Is w b 123 #[v, .int .i64 (d.length : Nat)]
  row : w.ownsRow B 5 1 v bs.length (cellsOf bs)
  wrote : Wrote bs d
  base : B ≤ b

/-- A row of a writer that lies as another one, or is new. -/
def Moved (w : World) (v v' : Value) : Prop := v'.ownBlock = v.ownBlock ∨ ∃ k, v'.ownBlock = some k ∧ w.heap.size ≤ k
/-- What calls of a writer may change. -/
def Mine (b : Nat) (v : Value) : Nat → Prop := fun k => k = b ∨ v.ownBlock = some k

/-- How many digits are put. -/
def clamp (n : Int) : Nat := (min n 64).toNat

/-- The digits d stand there, and the writer is answered. -/
def DidPut (w : World) (b : Nat) (d : List Nat) (v : Value) (B : Nat) (e : Ending) (w' : World) : Prop :=
  e = .returned (ptr b) ∧ ∃ bs' v', Wr w' b d bs' v' B ∧ Moved w v v' ∧ Only (Mine b v) w w'

theorem Wr.apart {w : World} {b B : Nat} {d bs : List Nat} {v : Value} (h : Wr w b d bs v B) : v.ownBlock ≠ some b := by
  intro hk
  rcases h.row.2 with ⟨rfl, _⟩ | ⟨g, cap, cur, rfl, _, q2, _⟩
  · simp [Value.ownBlock] at hk
  · have : g = b := by simpa [Value.ownBlock] using hk
    subst this
    exact Is.apart (t := 5) (u := 123) q2 h.is (by decide) rfl

/-- What a round of Put comes to, behind the byte that it may add: the row v1 of block g has the digits d1 and z noughts. -/
structure Ready (w : World) (b g cap : Nat) (d1 bs1 : List Nat) (B : Nat) : Prop where
  is : Is w b 123 #[.slice (some ⟨g, 0, none⟩) bs1.length cap, .int .i64 (d1.length : Nat)]
  row : w.ownsRow B 5 1 (.slice (some ⟨g, 0, none⟩) bs1.length cap) bs1.length (cellsOf bs1)
  digits : D bs1 = d1 ++ List.replicate (8 - d1.length % 8) 0
  rows : 8 * bs1.length = d1.length + (8 - d1.length % 8)
  bytes : ∀ x ∈ bs1, x < 256

theorem ready_of_wr {w : World} {b B : Nat} {d1 bs : List Nat} {v : Value} (h : Wr w b d1 bs v B) (h8 : d1.length % 8 ≠ 0) : ∃ g cap, v = .slice (some ⟨g, 0, none⟩) bs.length cap ∧ Ready w b g cap d1 bs B := by
  have hr := h.wrote.rows
  obtain ⟨g, cap, rfl, _, _⟩ := h.row.form (by omega)
  refine ⟨g, cap, rfl, h.is, h.row, ?_, by omega, h.wrote.bytes⟩
  have e : 8 * bs.length - d1.length = 8 - d1.length % 8 := by omega
  rw [← e]
  exact h.wrote.digits

theorem ready_of_append {wr w2 : World} {b B g cap : Nat} {d1 bs : List Nat} {v : Value} {o : Obj} (h : Wr wr b d1 bs v B) (h8 : d1.length % 8 = 0)
    (hown : w2.ownsRow B 5 1 (.slice (some ⟨g, 0, none⟩) (bs.length + 1) cap) (bs.length + 1) (cellsOf bs ++ [.int .u8 0])) (hg : (wr.alloc o).grownBy w2 v.ownBlock) (hgg : v.ownBlock = some g ∨ g = (wr.alloc o).heap.size) :
    Ready (w2.setCell ⟨b, 0, none⟩ (.slice (some ⟨g, 0, none⟩) (bs.length + 1) cap)) b g cap d1 (bs ++ [0]) B ∧ Only (Mine b v) wr (w2.setCell ⟨b, 0, none⟩ (.slice (some ⟨g, 0, none⟩) (bs.length + 1) cap)) ∧ Moved wr v (.slice (some ⟨g, 0, none⟩) (bs.length + 1) cap) := by
  have hap := h.apart
  have hm := wrote_more h.wrote h8
  have hr := h.wrote.rows
  have ho : Only (Mine b v) wr w2 := ((Only.refl _ wr).alloc _).grown hg (fun i hi _ => .inr hi)
  have his2 : Is w2 b 123 #[v, .int .i64 (d1.length : Nat)] := by
    refine (hg.block b ?_ hap.symm).trans (h.is.alloc _)
    have := (h.is.alloc o).lt
    exact this
  have hgb : g ≠ b := by
    intro e
    subst e
    rcases hown.2 with ⟨q, _⟩ | ⟨g', cap', cur, q, _, q2, _⟩
    · simp at q
    · simp only [Value.slice.injEq, Option.some.injEq, Addr.mk.injEq, and_true, true_and] at q
      obtain ⟨rfl, rfl⟩ := q
      exact Is.apart (t := 5) (u := 123) q2 his2 (by decide) rfl
  have hlen : (bs ++ [0]).length = bs.length + 1 := by simp
  refine ⟨⟨?_, ?_, ?_, ?_, hm.2⟩, ho.set (fun _ => .inl rfl) _, ?_⟩
  · rw [hlen]
    exact Is.put his2 0 _
  · rw [hlen, cellsOf_append]
    refine ⟨by rw [← hown.1]; rfl, ?_⟩
    rcases hown.2 with ⟨q, _⟩ | ⟨g', cap', cur, q, q1, q2, q3⟩
    · simp at q
    · refine .inr ⟨g', cap', cur, q, q1, ?_, q3⟩
      simp only [Value.slice.injEq, Option.some.injEq, Addr.mk.injEq, and_true, true_and] at q
      obtain ⟨rfl, rfl⟩ := q
      rw [Below.heap_setCell _ _ _ _ hgb]
      exact q2
  · rw [hm.1, h8]
  · rw [hlen]; omega
  · rcases hgg with hgg | hgg
    · exact .inl hgg.symm
    · refine .inr ⟨g, rfl, ?_⟩
      rw [hgg]
      simp

theorem put_step {w w1 : World} {b g cap B : Nat} {d1 bs1 : List Nat} (h : Ready w b g cap d1 bs1 B) (hB : B ≤ b) (h1 : w1.heap = w.heap) (h1o : w1.os = w.os) (h1t : w1.tape = w.tape) (h1u : w1.output = w.output) (k part c : Nat) (hk : k ≤ 8 - d1.length % 8) (hk1 : 1 ≤ k) (hp : part < 2 ^ k) (hc : bs1[bs1.length - 1]? = some c) :
    Wr ((w1.setCell ⟨g, bs1.length - 1, none⟩ (.int .u8 ((c ||| part * 2 ^ (8 - d1.length % 8 - k) : Nat) : Int))).setCell ⟨b, 1, none⟩ (.int .i64 ((d1.length + k : Nat) : Int))) b (d1 ++ digs k part) (bs1.set (bs1.length - 1) (c ||| part * 2 ^ (8 - d1.length % 8 - k))) (.slice (some ⟨g, 0, none⟩) bs1.length cap) B ∧
    Only (fun i => i = b ∨ i = g) w ((w1.setCell ⟨g, bs1.length - 1, none⟩ (.int .u8 ((c ||| part * 2 ^ (8 - d1.length % 8 - k) : Nat) : Int))).setCell ⟨b, 1, none⟩ (.int .i64 ((d1.length + k : Nat) : Int))) := by
  have hgb : g ≠ b := by
    intro e
    subst e
    rcases h.row.2 with ⟨q, _⟩ | ⟨g', cap', cur, q, _, q2, _⟩
    · simp at q
    · simp only [Value.slice.injEq, Option.some.injEq, Addr.mk.injEq, and_true, true_and] at q
      obtain ⟨rfl, rfl⟩ := q
      exact Is.apart (t := 5) (u := 123) q2 h.is (by decide) rfl
  have hrows := h.rows
  have hrow1 : w1.ownsRow B 5 1 (.slice (some ⟨g, 0, none⟩) bs1.length cap) bs1.length (cellsOf bs1) := by
    refine ⟨h.row.1, ?_⟩
    rcases h.row.2 with q | ⟨g', cap', cur, q, q1, q2, q3⟩
    · exact .inl q
    · exact .inr ⟨g', cap', cur, q, q1, by rw [h1]; exact q2, q3⟩
  have his1 : Is w1 b 123 #[.slice (some ⟨g, 0, none⟩) bs1.length cap, .int .i64 (d1.length : Nat)] := by
    show w1.heap[b]? = _
    rw [h1]
    exact h.is
  have hon : Only (fun i => i = b ∨ i = g) w w1 := ⟨h1o, h1t, h1u, by rw [h1]; exact Nat.le_refl _, fun i _ _ => by rw [h1]⟩
  have hst := hrow1.stored (bs1.length - 1) (.int .u8 ((c ||| part * 2 ^ (8 - d1.length % 8 - k) : Nat) : Int))
  have hne : bs1 ≠ [] := by
    intro e
    subst e
    simp at hc
  obtain ⟨ini, c', rfl⟩ : ∃ ini c', bs1 = ini ++ [c'] := ⟨bs1.dropLast, bs1.getLast hne, (List.dropLast_concat_getLast hne).symm⟩
  have hcc : c' = c := by simpa using hc
  subst hcc
  have hlen : (ini ++ [c']).length = ini.length + 1 := by simp
  rw [hlen] at hrows
  have hpp := put_part ini d1 c' (8 - d1.length % 8) k part (by omega) hk (by omega) h.digits hp (h.bytes c' (by simp))
  have hset : ∀ x, (ini ++ [c']).set ((ini ++ [c']).length - 1) x = ini ++ [x] := by intro x; simp
  refine ⟨⟨?_, ?_, ?_, hB⟩, (hon.set (fun _ => .inr rfl) _).set (fun _ => .inl rfl) _⟩
  · have e : (d1 ++ digs k part).length = d1.length + k := by rw [List.length_append, digs_length]
    rw [e]
    refine Is.put (cs := #[.slice (some ⟨g, 0, none⟩) (ini ++ [c']).length cap, .int .i64 (d1.length : Nat)]) ?_ 1 _
    exact his1.far hgb.symm _
  · have e : (ini ++ [c' ||| part * 2 ^ (8 - d1.length % 8 - k)]).length = (ini ++ [c']).length := by simp
    rw [hset, e]
    have hq := hst.1
    rw [← cellsOf_set, hset] at hq
    refine ⟨hq.1, ?_⟩
    rcases hq.2 with q | ⟨g', cap', cur, q, q1, q2, q3⟩
    · exact .inl q
    · refine .inr ⟨g', cap', cur, q, q1, ?_, q3⟩
      simp only [Value.slice.injEq, Option.some.injEq, Addr.mk.injEq, and_true, true_and] at q
      obtain ⟨rfl, rfl⟩ := q
      rw [Below.heap_setCell _ _ _ _ hgb]
      exact q2
  · rw [hset]
    refine ⟨?_, ?_, ?_⟩
    · rw [hpp.1]
      congr 1
      congr 1
      rw [List.length_append, List.length_append, digs_length, List.length_singleton]
      omega
    · rw [List.length_append, List.length_append, digs_length, List.length_singleton]
      omega
    · intro x hx
      simp only [List.mem_append, List.mem_singleton] at hx
      rcases hx with hx | rfl
      · exact h.bytes x (by simp [hx])
      · exact hpp.2

theorem Moved.refl (w : World) (v : Value) : Moved w v v := .inl rfl
theorem Moved.trans {w w1 : World} {v v1 v2 : Value} (h : Moved w v v1) (k : Moved w1 v1 v2) (hs : w.heap.size ≤ w1.heap.size) : Moved w v v2 := by
  rcases k with k | ⟨i, k1, k2⟩
  · rcases h with h | ⟨j, h1, h2⟩
    · exact .inl (k.trans h)
    · exact .inr ⟨j, k.trans h1, h2⟩
  · exact .inr ⟨i, k1, Nat.le_trans hs k2⟩
theorem Moved.mine {w : World} {v v1 : Value} {b : Nat} (h : Moved w v v1) : ∀ i, i < w.heap.size → Mine b v1 i → Mine b v i := by
  intro i hi hm
  rcases hm with rfl | hm
  · exact .inl rfl
  · rcases h with h | ⟨j, h1, h2⟩
    · exact .inr (h ▸ hm)
    · rw [h1] at hm
      injection hm with hm
      omega
/-- One round more. -/
theorem digs_more (K j k x : Nat) (hk : k ≤ j) (hj : j ≤ K) : digs (K - j) (x / 2 ^ j) ++ digs k (x / 2 ^ (j - k) % 2 ^ k) = digs (K - (j - k)) (x / 2 ^ (j - k)) := by
  rw [digs_mod k k _ (Nat.le_refl _)]
  have e : K - (j - k) = (K - j) + k := by omega
  rw [e, digs_add, Nat.div_div_eq_div_mul, ← Nat.pow_add]
  have e2 : j - k + k = j := by omega
  rw [e2]

theorem or_byte (c part z k : Nat) (hc : c < 256) (hp : part < 2 ^ k) (hk : k ≤ z) (hz : z ≤ 8) : bits .or .u8 (c : Int) (IntKind.u64.wrap ((part : Int) * 2 ^ (z - k)) % 256) = ((c ||| part * 2 ^ (z - k) : Nat) : Int) := by
  have hp0 : 0 < 2 ^ (z - k) := Nat.pow_pos (by decide)
  have pz : 2 ^ z = 2 ^ k * 2 ^ (z - k) := by rw [← Nat.pow_add]; congr 1; omega
  have hsm : part * 2 ^ (z - k) < 2 ^ z := by rw [pz]; exact Nat.mul_lt_mul_of_pos_right hp hp0
  have h8 : 2 ^ z ≤ 2 ^ 8 := Nat.pow_le_pow_right (by decide) hz
  have e8 : 2 ^ 8 = 256 := by decide
  rw [e8] at h8
  rw [pow_cast, ← Int.natCast_mul]
  generalize part * 2 ^ (z - k) = q at *
  rw [wrap_u64_nat _ (by omega)]
  have e : (q : Int) % 256 = (q : Nat) := by omega
  rw [e, u8_or_nat _ _ hc (by omega)]
theorem Wr.drew {w : World} {b B : Nat} {d bs : List Nat} {v : Value} (h : Wr w b d bs v B) : Wr w.drew b d bs v B := ⟨h.is, h.row, h.wrote, h.base⟩
/-- What a round of Put leaves. -/
theorem put_close {w W W1 W' : World} {b g cap B M c k part : Nat} {d1 bs1 : List Nat} {v : Value} {y z : Int} (h : Ready W b g cap d1 bs1 B) (hB : B ≤ b) (nq : Nat) (hW1 : W.drewN nq = W1) (hM : bs1.length = M + 1) (hcc : bs1[M]? = some c)
    (hk : k ≤ 8 - d1.length % 8) (hk1 : 1 ≤ k) (hp : part < 2 ^ k) (he : W' = ((W1.setCell ⟨g, M, none⟩ (.int .u8 y)).setCell ⟨b, 1, none⟩ (.int .i64 z)).drew) (hy : y = ((c ||| part * 2 ^ (8 - d1.length % 8 - k) : Nat) : Int)) (hz : z = ((d1.length + k : Nat) : Int))
    (ho : Only (Mine b v) w W) (hm : Moved w v (.slice (some ⟨g, 0, none⟩) bs1.length cap)) : ∃ bs' v', Wr W' b (d1 ++ digs k part) bs' v' B ∧ Moved w v v' ∧ Only (Mine b v) w W' := by
  subst hW1 he hy hz
  have e1 : bs1.length - 1 = M := by omega
  have hst := put_step h hB (w1 := W.drewN nq) rfl rfl rfl rfl k part c hk hk1 hp (by rw [e1]; exact hcc)
  rw [e1] at hst
  refine ⟨_, _, hst.1.drew, hm, (ho.trans hst.2 ?_).drew⟩
  intro i hi hx
  rcases hx with rfl | rfl
  · exact .inl rfl
  · exact hm.mine i hi (.inr rfl)
end Go.Proofs.Ytefcimkopgcagaa
