/- roster: a roster between calls; the chapter's examples. Conditions: as each says. -/
import Derived.Test.YtglgmhdajmncjaaRyI
set_option linter.unusedVariables false
set_option linter.unusedSimpArgs false
namespace Go.Proofs.Ytglgmhdajmncjaa
open Go Go.RowKit

/-- A roster between calls: nothing that was there is written; blocks that are no part of it. -/
def Rs (w : World) (b mb : Nat) (r : Ro) (S : Nat → Prop) (wx : World) : Prop := r.Fit ∧ ∃ vl, Ror wx w.heap.size b mb r vl ∧ Only (fun _ => False) w wx ∧ ∀ k, S k → k < wx.heap.size ∧ ¬ RFoot b mb vl k
section
variable {w wx wy : World} {b mb : Nat} {r r' : Ro} {S : Nat → Prop}
theorem Rs.only (h : Rs w b mb r S wx) : Only (fun _ => False) w wx := by
  obtain ⟨_, _, _, h, _⟩ := h
  exact h
theorem Rs.go (h : Rs w b mb r S wx) (ho : Only (fun _ => False) wx wy) : Rs w b mb r S wy := by
  obtain ⟨h0, vl, h1, h2, h3⟩ := h
  exact ⟨h0, vl, h1.pure ho, h2.trans ho (fun _ _ e => e), fun k hk => ⟨Nat.lt_of_lt_of_le (h3 k hk).1 ho.size, (h3 k hk).2⟩⟩
theorem Rs.sub (h : Rs w b mb r S wx) {T : Nat → Prop} (hT : ∀ k, T k → S k) : Rs w b mb r T wx := by
  obtain ⟨h0, vl, h1, h2, h3⟩ := h
  exact ⟨h0, vl, h1, h2, fun k hk => h3 k (hT k hk)⟩
/-- New blocks are no part of it. -/
theorem Rs.more (h : Rs w b mb r S wx) {T : Nat → Prop} (ho : Only (fun _ => False) wx wy) (hT : ∀ k, T k → S k ∨ wx.heap.size ≤ k ∧ k < wy.heap.size) : Rs w b mb r T wy := by
  obtain ⟨h0, vl, h1, h2, h3⟩ := h
  refine ⟨h0, vl, h1.pure ho, h2.trans ho (fun _ _ e => e), fun k hk => ?_⟩
  rcases hT k hk with h | ⟨h4, h5⟩
  · exact ⟨Nat.lt_of_lt_of_le (h3 k h).1 ho.size, (h3 k h).2⟩
  · exact ⟨h5, fun hf => by have := (h1.foot hf).2; omega⟩
/-- Blocks that are no part of it are written. -/
theorem Rs.wrote (h : Rs w b mb r S wx) (ho : Only S wx wy) (hn : ∀ k, S k → w.heap.size ≤ k) : Rs w b mb r S wy := by
  obtain ⟨h0, vl, h1, h2, h3⟩ := h
  exact ⟨h0, vl, h1.only ho (fun k hk hs => (h3 k hs).2 hk), h2.trans ho (fun i hi hs => absurd (hn i hs) (by omega)), fun k hk => ⟨Nat.lt_of_lt_of_le (h3 k hk).1 ho.size, (h3 k hk).2⟩⟩
/-- A call of it. -/
theorem rs_of {f : Nat} {args : Array Value} {v : Value} (h : Rs w b mb r S wx) (h' : r'.Fit) (H : ∀ vl, Ror wx w.heap.size b mb r vl → Calls Try.prog f args wx (DoneR v wx w.heap.size b mb vl r')) :
    Calls Try.prog f args wx fun e w' => e = .returned v ∧ Rs w b mb r' S w' ∧ Only (fun k => ¬ S k) wx w' := by
  obtain ⟨h0, vl, h1, h2, h3⟩ := h
  refine (H vl h1).mono ?_
  rintro e w' ⟨rfl, vl', h4, h5, h6⟩
  refine ⟨rfl, ⟨h', vl', h4, h2.trans h5 (fun i hi hf => absurd (h1.foot hf).1 (by omega)), fun k hk => ⟨Nat.lt_of_lt_of_le (h3 k hk).1 h5.size, fun hf => ?_⟩⟩, h5.mono (fun k _ hf hk => (h3 k hk).2 hf)⟩
  rcases h6 k hf with h | h
  · exact (h3 k hk).2 h
  · have := (h3 k hk).1
    omega
/-- A look at it. -/
theorem rs_look {f : Nat} {args : Array Value} {K : Ending → World → Prop} (h : Rs w b mb r S wx) (H : ∀ vl, Ror wx w.heap.size b mb r vl → Calls Try.prog f args wx K) : Calls Try.prog f args wx K := by
  obtain ⟨h0, vl, h1, h2, h3⟩ := h
  exact H vl h1
theorem rs_join {m : Mb} (h : Rs w b mb r S wx) (hm : m.Fits) : Calls Try.prog 23 #[ptr b, mbV m] wx fun e w' => e = .returned (.int .i64 ((r.join m).2 : Int)) ∧ Rs w b mb (r.join m).1 S w' ∧ Only (fun k => ¬ S k) wx w' :=
  rs_of h (h.1.join hm) fun vl h1 => mjoin_is _ b mb r m vl wx h1 h.1 hm
theorem rs_leave {id : Int} (h : Rs w b mb r S wx) : Calls Try.prog 21 #[ptr b, .int .i64 id] wx fun e w' => e = .returned (.int .i64 ((r.leave id).2 : Int)) ∧ Rs w b mb (r.leave id).1 S w' ∧ Only (fun k => ¬ S k) wx w' :=
  rs_of h (h.1.leave id) fun vl h1 => mleave_is _ b mb id r vl wx h1 h.1
theorem Rs.small (h : Rs w b mb r S wx) : r.l.length ≤ 1000 := by have := h.1.few; have := h.1.most; omega
theorem rs_get {id : Int} (h : Rs w b mb r S wx) : Calls Try.prog 27 #[ptr b, .int .i64 id] wx (SaysR (getV (getM r.l id)) wx) := rs_look h fun vl h1 => get_is _ b mb id r vl wx h1 h.small
theorem rs_source {s : Nat} (h : Rs w b mb r S wx) (hs : s < 4294967296) : Calls Try.prog 28 #[ptr b, .int .u32 (s : Int)] wx (SaysR (srcV (ownM r.l s) s) wx) := rs_look h fun vl h1 => source_is _ b mb s r vl wx h1 h.1 hs
theorem rs_ids (h : Rs w b mb r S wx) : Calls Try.prog 30 #[ptr b] wx (RCopy 3 1 (inRows (r.l.map (·.id))) wx) := rs_look h fun vl h1 => ids_is _ b mb r vl wx h1 h.small
theorem rs_all (h : Rs w b mb r S wx) : Calls Try.prog 29 #[ptr b] wx (RCopy 58 4 (mbRows r.l) wx) := rs_look h fun vl h1 => all_is _ b mb r vl wx h1 h.small
theorem rs_len (h : Rs w b mb r S wx) : Calls Try.prog 31 #[ptr b] wx fun e w' => e = .returned (.int .i64 (r.l.length : Int)) ∧ wx = w' := rs_look h fun vl h1 => rlen_is _ b mb r vl wx h1
end
theorem fit_start {n : Nat} (h : n ≤ 32) : (⟨n, []⟩ : Ro).Fit := ⟨h, by simp, by simp, by simp, by simp, by simp⟩
theorem rs_new {w w' : World} {b mb n : Nat} (hn : n ≤ 32) (h : Ror w' w.heap.size b mb ⟨n, []⟩ (.slice none 0 0)) (ho : Only (fun _ => False) w w') : Rs w b mb ⟨n, []⟩ (fun _ => False) w' := ⟨fit_start hn, _, h, ho, fun _ hk => hk.elim⟩

/-- The rosters of the examples. -/
def wr0 : Ro := ⟨2, []⟩
def wr1 : Ro := ⟨2, [⟨5, 10, 11, false⟩]⟩
def wr2 : Ro := ⟨2, [⟨5, 10, 11, false⟩, ⟨6, 12, 13, false⟩]⟩
def wr3 : Ro := ⟨2, [⟨6, 12, 13, false⟩]⟩
section
variable {w wx : World} {b mb : Nat} {S : Nat → Prop}
theorem rk1 (h : Rs w b mb wr0 S wx) : Calls Try.prog 23 #[ptr b, .agg #[.int .i64 5, .int .u32 10, .int .u32 11, .bool false]] wx fun e w' => e = .returned (.int .i64 0) ∧ Rs w b mb wr1 S w' ∧ Only (fun k => ¬ S k) wx w' :=
  rs_join (m := ⟨5, 10, 11, false⟩) h ⟨by decide, by decide, by decide, by decide⟩
theorem rk2 (h : Rs w b mb wr1 S wx) : Calls Try.prog 23 #[ptr b, .agg #[.int .i64 5, .int .u32 12, .int .u32 13, .bool false]] wx fun e w' => e = .returned (.int .i64 132) ∧ Rs w b mb wr1 S w' ∧ Only (fun k => ¬ S k) wx w' :=
  rs_join (m := ⟨5, 12, 13, false⟩) h ⟨by decide, by decide, by decide, by decide⟩
theorem rk3 (h : Rs w b mb wr1 S wx) : Calls Try.prog 23 #[ptr b, .agg #[.int .i64 6, .int .u32 11, .int .u32 12, .bool false]] wx fun e w' => e = .returned (.int .i64 140) ∧ Rs w b mb wr1 S w' ∧ Only (fun k => ¬ S k) wx w' :=
  rs_join (m := ⟨6, 11, 12, false⟩) h ⟨by decide, by decide, by decide, by decide⟩
theorem rk4 (h : Rs w b mb wr1 S wx) : Calls Try.prog 23 #[ptr b, .agg #[.int .i64 6, .int .u32 12, .int .u32 12, .bool false]] wx fun e w' => e = .returned (.int .i64 2) ∧ Rs w b mb wr1 S w' ∧ Only (fun k => ¬ S k) wx w' :=
  rs_join (m := ⟨6, 12, 12, false⟩) h ⟨by decide, by decide, by decide, by decide⟩
theorem rk5 (h : Rs w b mb wr1 S wx) : Calls Try.prog 23 #[ptr b, .agg #[.int .i64 6, .int .u32 12, .int .u32 13, .bool false]] wx fun e w' => e = .returned (.int .i64 0) ∧ Rs w b mb wr2 S w' ∧ Only (fun k => ¬ S k) wx w' :=
  rs_join (m := ⟨6, 12, 13, false⟩) h ⟨by decide, by decide, by decide, by decide⟩
theorem rk6 (h : Rs w b mb wr2 S wx) : Calls Try.prog 23 #[ptr b, .agg #[.int .i64 7, .int .u32 14, .int .u32 15, .bool false]] wx fun e w' => e = .returned (.int .i64 131) ∧ Rs w b mb wr2 S w' ∧ Only (fun k => ¬ S k) wx w' :=
  rs_join (m := ⟨7, 14, 15, false⟩) h ⟨by decide, by decide, by decide, by decide⟩
theorem rk7 (h : Rs w b mb wr2 S wx) : Calls Try.prog 28 #[ptr b, .int .u32 11] wx (SaysR (.tuple #[.agg #[.int .i64 5, .int .u32 10, .int .u32 11, .bool false], .bool false, .bool true]) wx) :=
  rs_source (s := 11) h (by decide)
theorem rk8 (h : Rs w b mb wr2 S wx) : Calls Try.prog 28 #[ptr b, .int .u32 12] wx (SaysR (.tuple #[.agg #[.int .i64 6, .int .u32 12, .int .u32 13, .bool false], .bool true, .bool true]) wx) :=
  rs_source (s := 12) h (by decide)
theorem rk9 (h : Rs w b mb wr2 S wx) : Calls Try.prog 21 #[ptr b, .int .i64 5] wx fun e w' => e = .returned (.int .i64 0) ∧ Rs w b mb wr3 S w' ∧ Only (fun k => ¬ S k) wx w' :=
  rs_leave (id := 5) h
theorem rk10' (h : Rs w b mb wr3 S wx) : Calls Try.prog 30 #[ptr b] wx (RCopy 3 1 [[.int .i64 6]] wx) := rs_ids h
end
end Go.Proofs.Ytglgmhdajmncjaa
