/- floor: a floor plainly, and in memory; rows of numbers of 32 digits as rows of structs; its smallest calls. Conditions: as each says. -/
import Derived.Test.YtelfeedaadkhnaaFlBase
import Derived.Deep.DeepCutAuto
set_option linter.unusedVariables false
set_option linter.unusedSimpArgs false
namespace Go.Proofs.Ytelfeedaadkhnaa
open Go Go.RowKit

def rows32 (l : List Nat) : List (List Value) := l.map fun (n : Nat) => [Value.int .u32 (n : Int)]
theorem rows32_length (l : List Nat) : (rows32 l).length = l.length := by simp [rows32]
theorem rows32_flat : ∀ (l : List Nat), (rows32 l).flatten = cells32 l
  | [] => rfl
  | x :: l => by
    show [Value.int .u32 (x : Int)] ++ (rows32 l).flatten = _
    rw [rows32_flat l]
    rfl
theorem rows32_one (l : List Nat) : ∀ xs ∈ rows32 l, xs.length = 1 := by
  intro xs hx
  obtain ⟨n, _, rfl⟩ := List.mem_map.1 hx
  rfl
theorem rows32_get {l : List Nat} {i x : Nat} (h : l[i]? = some x) : (rows32 l)[i]? = some [.int .u32 (x : Int)] := by simp [rows32, h]
theorem sty_32 : Sty 33 30 1 4 := by
  obtain ⟨i0, hi, hz0, hz1, hz2⟩ := info_parts Try.infoU32
  exact ⟨Try.underlying33, ⟨i0, _, hi, hz0, hz1, hz2, rfl⟩, by decide⟩
def zeroGr : Array Value := #[.int .u64 0, .int .u32 0, .int .u64 0]
theorem Try.infoGr : (Try.prog.info? 48).map (fun i => (i.zero, i.size, i.bytes)) = some (some (.agg zeroGr), 3, 24) := by kernel_rfl
theorem sty_gr : Sty 46 48 3 24 := by
  obtain ⟨i0, hi, hz0, hz1, hz2⟩ := info_parts Try.infoGr
  exact ⟨Try.underlying46, ⟨i0, _, hi, hz0, hz1, hz2, rfl⟩, by decide⟩

/-- A floor. -/
structure Fl where
  bound : Nat
  silence : Nat
  ms : List (Nat × Bool)
  no : Nat
  who : Nat
  at_ : Nat
  heard : Nat
  pend : Bool
  wt : List Nat
  gs : List (Nat × Nat × Nat)
def msV (ms : List (Nat × Bool)) : List (Nat × Value) := ms.map fun m => (m.1, .agg #[.bool m.2])
def grCells (g : Nat × Nat × Nat) : List Value := [.int .u64 (g.1 : Int), .int .u32 (g.2.1 : Int), .int .u64 (g.2.2 : Int)]
def grRows (l : List (Nat × Nat × Nat)) : List (List Value) := l.map grCells
def flCells (m : Fl) (mb : Nat) (vw vg : Value) : Array Value := #[.int .i64 (m.bound : Int), .int .u64 (m.silence : Int), .map (some mb), .int .u64 (m.no : Int), .int .u32 (m.who : Int), .int .u64 (m.at_ : Int), .int .u64 (m.heard : Int), .bool m.pend, vw, vg]
def Fl.start (bound silence : Nat) : Fl := ⟨bound, silence, [], 0, 0, 0, 0, false, [], []⟩
def Fl.is (m : Fl) (n : Nat) : Bool := decide (0 < m.no) && decide (m.who = n)
def Fl.has (m : Fl) (n : Nat) : Bool := m.ms.any fun x => x.1 == n
def Fl.mod (m : Fl) (n : Nat) : Bool := ((m.ms.find? fun x => x.1 == n).map (·.2)).getD false
def Fl.free (m : Fl) : Fl := { m with no := 0, who := 0, at_ := 0, heard := 0, pend := false }
def Fl.grant (m : Fl) (n now : Nat) : Fl := { m with no := m.gs.length + 1, who := n, at_ := now, heard := now, pend := true, gs := m.gs ++ [(m.gs.length + 1, n, now)] }
def Fl.end_ (m : Fl) (now : Nat) : Fl := match m.wt with
  | [] => m.free
  | x :: r => ({ m.free with wt := r } : Fl).grant x now
def Fl.join (m : Fl) (n : Nat) (mod : Bool) : Fl × Nat := if m.has n then (m, 132) else if 32 ≤ m.ms.length then (m, 131) else ({ m with ms := m.ms ++ [(n, mod)] }, 0)
def Fl.gone (m : Fl) (n : Nat) : Fl := { m with ms := m.ms.filter (fun x => x.1 != n), wt := m.wt.filter (fun x => x != n) }
def Fl.leave (m : Fl) (n now : Nat) : Fl × Nat := if m.has n then (if m.is n then ((m.gone n).end_ now, 0) else (m.gone n, 0)) else (m, 130)
def Fl.request (m : Fl) (n now : Nat) : Fl × Nat :=
  if !m.has n then (m, 130) else if m.is n || m.wt.any (fun x => x == n) then (m, 132) else if m.no = 0 then (m.grant n now, 0) else if m.bound ≤ m.wt.length then (m, 131) else ({ m with wt := m.wt ++ [n] }, 0)
def Fl.release (m : Fl) (n now : Nat) : Fl × Nat := if !m.has n then (m, 130) else if !m.is n then (m, 133) else (m.end_ now, 0)
def Fl.revoke (m : Fl) (by_ n now : Nat) : Fl × Nat := if !m.has by_ || !m.has n then (m, 130) else if !m.mod by_ then (m, 134) else if !m.is n then (m, 133) else (m.end_ now, 0)
def Fl.hear (m : Fl) (n now : Nat) (key : Bool) : Fl × Bool := if m.is n then ({ m with heard := now, pend := m.pend && !key }, true) else (m, false)
def Fl.silent (m : Fl) (now : Nat) : Bool := decide (0 < m.no) && decide (m.silence ≤ max now m.heard - m.heard)
def Fl.tick (m : Fl) (now : Nat) : Fl × Bool := if m.silent now then (m.end_ now, true) else (m, false)

/-- What a floor keeps. -/
structure Fl.Fit (m : Fl) (G : Nat) : Prop where
  bound : m.bound ≤ 32
  silence : m.silence < 18446744073709551616
  one : 1 ≤ m.silence
  mem : ∀ x ∈ m.ms, x.1 < 4294967296
  few : m.ms.length ≤ 32
  no : m.no ≤ m.gs.length
  who : m.who < 4294967296
  at_ : m.at_ < 18446744073709551616
  heard : m.heard < 18446744073709551616
  wt : ∀ x ∈ m.wt, x < 4294967296
  wtl : m.wt.length ≤ 32
  gs : ∀ g ∈ m.gs, g.1 < 18446744073709551616 ∧ g.2.1 < 4294967296 ∧ g.2.2 < 18446744073709551616
  gsl : m.gs.length ≤ G

/-- A floor lies there. -/
structure Flr (w : World) (B b mb : Nat) (m : Fl) (vw vg : Value) : Prop where
  is : Is w b 66 (flCells m mb vw vg)
  mp : MapAt w mb .u32 (msV m.ms)
  wr : OwnS w B 30 1 vw (rows32 m.wt)
  gr : OwnS w B 48 3 vg (grRows m.gs)
  lo : B ≤ b ∧ B ≤ mb
/-- The blocks of a floor. -/
def Foot (b mb : Nat) (vw vg : Value) (k : Nat) : Prop := k = b ∨ k = mb ∨ vw.ownBlock = some k ∨ vg.ownBlock = some k
/-- A call has made of a floor another one, in the same blocks, or in new ones. -/
def Turned (w w' : World) (B b mb : Nat) (vw vg : Value) (m' : Fl) : Prop :=
  ∃ vw' vg', Flr w' B b mb m' vw' vg' ∧ Only (Foot b mb vw vg) w w' ∧ ∀ k, Foot b mb vw' vg' k → Foot b mb vw vg k ∨ w.heap.size ≤ k

section
variable {w w1 : World} {B b mb : Nat} {m : Fl} {vw vg : Value}
theorem Flr.lt (h : Flr w B b mb m vw vg) : b < w.heap.size := h.is.lt
theorem Flr.cell (h : Flr w B b mb m vw vg) (i : Nat) : w.cell? ⟨b, i, none⟩ = (flCells m mb vw vg)[i]? := h.is.cell i
theorem Flr.only (h : Flr w B b mb m vw vg) {S : Nat → Prop} (ho : Only S w w1) (hs : ∀ k, Foot b mb vw vg k → ¬ S k) : Flr w1 B b mb m vw vg :=
  ⟨h.is.only ho (hs b (.inl rfl)), h.mp.only ho (hs mb (.inr (.inl rfl))), h.wr.only ho (fun k hk => hs k (.inr (.inr (.inl hk)))), h.gr.only ho (fun k hk => hs k (.inr (.inr (.inr hk)))), h.lo⟩
theorem Flr.pure (h : Flr w B b mb m vw vg) (ho : Only (fun _ => False) w w1) : Flr w1 B b mb m vw vg := h.only ho (by simp)
theorem Flr.turned (h : Flr w1 B b mb m vw vg) (ho : Only (fun _ => False) w w1) : Turned w w1 B b mb vw vg m := ⟨vw, vg, h, ho.mono (fun _ _ e => e.elim), fun _ hk => .inl hk⟩
theorem Flr.foot (h : Flr w B b mb m vw vg) {k : Nat} (hk : Foot b mb vw vg k) : B ≤ k ∧ k < w.heap.size := by
  rcases hk with rfl | rfl | hk | hk
  · exact ⟨h.lo.1, h.lt⟩
  · exact ⟨h.lo.2, h.mp.lt⟩
  · exact h.wr.lt k hk
  · exact h.gr.lt k hk
theorem Turned.trans {w2 : World} {vw1 vg1 : Value} {m2 : Fl} (ho : Only (Foot b mb vw vg) w w1) (hn : ∀ k, Foot b mb vw1 vg1 k → Foot b mb vw vg k ∨ w.heap.size ≤ k) (h : Turned w1 w2 B b mb vw1 vg1 m2) : Turned w w2 B b mb vw vg m2 := by
  obtain ⟨vw2, vg2, h2, o2, n2⟩ := h
  refine ⟨vw2, vg2, h2, ho.trans o2 (fun i hi hf => ?_), fun k hk => ?_⟩
  · rcases hn i hf with h | h
    · exact h
    · omega
  · rcases n2 k hk with h | h
    · exact hn k h
    · exact .inr (Nat.le_trans ho.size h)
/-- The map's block is no other one. -/
theorem Flr.mb_ne (h : Flr w B b mb m vw vg) : mb ≠ b ∧ (∀ k, vw.ownBlock = some k → k ≠ mb ∧ k ≠ b) ∧ (∀ k, vg.ownBlock = some k → k ≠ mb ∧ k ≠ b) ∧ ∀ k, vw.ownBlock = some k → vg.ownBlock ≠ some k := by
  obtain ⟨es, c, hb, _⟩ := h.mp
  have hI : w.heap[b]? = some (.cells (flCells m mb vw vg) 66 (0, 0)) := h.is
  refine ⟨fun e => ?_, fun k hk => ⟨fun e => ?_, fun e => ?_⟩, fun k hk => ⟨fun e => ?_, fun e => ?_⟩, owned_apart h.wr.1 h.gr.1 (by decide)⟩
  · rw [e, hI] at hb; cases hb
  · subst e
    rcases h.wr.1.2 with ⟨e, _⟩ | ⟨g, cap, cur, e, _, hg, _⟩
    · rw [e] at hk; cases hk
    · rw [e] at hk; cases hk; rw [hb] at hg; cases hg
  · subst e; exact owned_off h.wr.1 h.is (by decide) hk
  · subst e
    rcases h.gr.1.2 with ⟨e, _⟩ | ⟨g, cap, cur, e, _, hg, _⟩
    · rw [e] at hk; cases hk
    · rw [e] at hk; cases hk; rw [hb] at hg; cases hg
  · subst e; exact owned_off h.gr.1 h.is (by decide) hk
end
theorem wf32 {n : Nat} (h : n < 4294967296) : (Lit.int .u32 (n : Int)).wf = true := by
  simp [Lit.wf, IntKind.min, IntKind.max, IntKind.signed, IntKind.bits]
  omega

set_option maxRecDepth 20000 in
set_option maxHeartbeats 400000 in
theorem there_nil (w : World) : Calls Try.prog 37 #[.pointer none] w fun e w' => e = .returned (.bool false) ∧ w = w' := by
  go_enter Try.func37, Try.ntmps37
  go_wp2
  go_ret
  exact ⟨rfl, rfl⟩
/-- What is answered, and nothing that was there is written. -/
def SaysF (v : Value) (w : World) (e : Ending) (w' : World) : Prop := e = .returned v ∧ Only (fun _ => False) w w'
theorem map_nil (w : World) (r : Option Nat) : (binOp .neq 62 (.map r) (.map none)).run Try.prog w = .ok (.bool (!r.isNone)) w := run_neq_map_nil w _ _ _ r Try.underlying62
set_option maxRecDepth 20000 in
set_option maxHeartbeats 400000 in
theorem there_is (B b mb : Nat) (m : Fl) (vw vg : Value) (w : World) (h : Flr w B b mb m vw vg) : Calls Try.prog 37 #[ptr b] w fun e w' => e = .returned (.bool true) ∧ w = w' := by
  have c0 : w.cell? ⟨b, 2, none⟩ = some (.map (some mb)) := h.cell 2
  have q0 := map_nil w (some mb)
  clear h
  go_enter Try.func37, Try.ntmps37
  go_wp2
  go_ret
  exact ⟨rfl, rfl⟩
theorem zero_mem (w : World) : (zeroValue 83).run Try.prog w = .ok (.agg #[.bool false]) w := by kernel_rfl
theorem mget_has (m : Fl) (n : Nat) : (mget (msV m.ms) n).isSome = m.has n := by
  unfold mget msV Fl.has
  rw [Option.isSome_map, List.find?_map, Option.isSome_map, Bool.eq_iff_iff, List.find?_isSome, List.any_eq_true]
  rfl
theorem mget_mod (m : Fl) (n : Nat) : (mget (msV m.ms) n).getD (.agg #[.bool false]) = .agg #[.bool (m.mod n)] := by
  unfold mget msV Fl.mod
  rw [List.find?_map]
  have : ((fun x : Nat × Value => x.1 == n) ∘ fun x : Nat × Bool => (x.1, Value.agg #[.bool x.2])) = fun x => x.1 == n := rfl
  rw [this]
  cases m.ms.find? (fun x => x.1 == n) <;> rfl
set_option maxRecDepth 20000 in
set_option maxHeartbeats 400000 in
theorem fhas_is (B b mb n : Nat) (m : Fl) (vw vg : Value) (w : World) (h : Flr w B b mb m vw vg) (hn : n < 4294967296) : Calls Try.prog 46 #[ptr b, .int .u32 (n : Int)] w (SaysF (.bool (m.has n)) w) := by
  have c0 : w.cell? ⟨b, 2, none⟩ = some (.map (some mb)) := h.cell 2
  have hm := Lib.hid h.mp
  have h1 := Lib.hid (mget_has m n)
  have h2 := Lib.hid (mget_mod m n)
  have h3 := Lib.hid (wf32 hn)
  generalize m.has n = s at *
  generalize m.mod n = s2 at *
  clear h
  go_enter Try.func46, Try.ntmps46
  go_wp2_with (at_lookup; refine wpList_mlookT rfl _ _ 62 rfl 30 83 Try.underlying62 Try.underlying30 (zero_mem _) rfl hm.out rfl h3.out h2.out h1.out ?_)
  go_ret
  exact ⟨rfl, (Only.refl _ w).alloc _⟩
theorem beq_nat (a b : Nat) : ((a : Int) == (b : Int)) = decide (a = b) := by
  rw [Bool.eq_iff_iff]
  simp
  omega
abbrev hV (no who at_ heard : Nat) (p : Bool) : Value := .agg #[.int .u64 (no : Int), .int .u32 (who : Int), .int .u64 (at_ : Int), .int .u64 (heard : Int), .bool p]
set_option maxRecDepth 20000 in
set_option maxHeartbeats 400000 in
theorem somebody_is (no who at_ heard : Nat) (p : Bool) (w : World) : Calls Try.prog 39 #[hV no who at_ heard p] w (SaysF (.bool (decide (0 < no))) w) := by
  go_enter Try.func39, Try.ntmps39
  go_wp2
  go_ret
  exact ⟨by simp, (Only.refl _ w).alloc _⟩
set_option maxRecDepth 20000 in
set_option maxHeartbeats 400000 in
theorem his_is (no who at_ heard n : Nat) (p : Bool) (w : World) : Calls Try.prog 43 #[hV no who at_ heard p, .int .u32 (n : Int)] w (SaysF (.bool (decide (0 < no) && decide (who = n))) w) := by
  have HS := Lib.hid (fun w => somebody_is no who at_ heard p w)
  generalize decide (0 < no) = s at *
  go_enter Try.func43, Try.ntmps43
  go_wp2_with fail
  refine (HS.out _).mono ?_
  rintro e w1 ⟨rfl, ho⟩
  have hI := (Is.made w _ _).only ho (by simp)
  have c1 := hI.cell 1
  cases s
  · go_wp2
    go_ret
    exact ⟨by simp [beq_nat], ((Only.refl _ w).alloc _).trans ho (fun _ _ e => e)⟩
  · go_wp2
    go_ret
    exact ⟨by simp [beq_nat], ((Only.refl _ w).alloc _).trans ho (fun _ _ e => e)⟩
set_option maxRecDepth 20000 in
set_option maxHeartbeats 400000 in
theorem silent_is (no who at_ heard now sil : Nat) (p : Bool) (w : World) (h1 : heard < 18446744073709551616) (h2 : now < 18446744073709551616) : Calls Try.prog 44 #[hV no who at_ heard p, .int .u64 (now : Int), .int .u64 (sil : Int)] w (SaysF (.bool (decide (0 < no) && decide (sil ≤ max now heard - heard))) w) := by
  have HS := Lib.hid (fun w => somebody_is no who at_ heard p w)
  have e1 : max (now : Int) (heard : Int) = ((max now heard : Nat) : Int) := by omega
  have e2 : IntKind.u64.wrap (((max now heard : Nat) : Int) - (heard : Int)) = ((max now heard - heard : Nat) : Int) := by rw [IntKind.wrap_u64]; omega
  have E1 := Lib.hid e1
  have E2 := Lib.hid e2
  clear e1 e2
  generalize decide (0 < no) = s at *
  go_enter Try.func44, Try.ntmps44
  go_wp2_with fail
  refine (HS.out _).mono ?_
  rintro e w1 ⟨rfl, ho⟩
  have hI := (Is.made w _ _).only ho (by simp)
  have c1 := hI.cell 3
  cases s
  · go_wp2
    go_ret
    exact ⟨by simp, ((Only.refl _ w).alloc _).trans ho (fun _ _ e => e)⟩
  · go_wp2
    · go_ret
      exact ⟨congrArg Ending.returned (congrArg Value.bool (by rw [decide_eq_decide]; omega)), ((Only.refl _ w).alloc _).trans ho (fun _ _ e => e)⟩
    · go_ret
      exact ⟨congrArg Ending.returned (congrArg Value.bool (by rw [decide_eq_decide]; omega)), ((Only.refl _ w).alloc _).trans ho (fun _ _ e => e)⟩
end Go.Proofs.Ytelfeedaadkhnaa
