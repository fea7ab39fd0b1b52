/- maps.Keys of a map keyed by numbers of 32 digits: its iterator, for every body of a loop that keeps its word. Conditions: as each says. -/
import Derived.Test.YtelfeedaadkhnaaFlA
import Derived.RangeFuncBox
import Derived.RangeFuncLeaves
import Derived.RangeFuncNested
import Derived.OwnWalkIn
import Derived.Sort.MapsRangeIn
import Derived.Maps.RangeWalk
import Derived.TacticsInMore
import Derived.LoopNIn
import Derived.LoopIn
import Derived.Test.YtelfeedaadkhnaaU64
set_option linter.unusedVariables false
set_option linter.unusedSimpArgs false
namespace Go.Proofs.Ytelfeedaadkhnaa
open Go Go.RowKit Go.Maps
open Go.WideElems (Fit rd rg rd_mk rg_of)
attribute [local go_sem] Oper.semAt_some

/-- How an element reads: it does not matter. -/
def RU (_ : Value) : Option (DataW Unit × List MemPlace) := some (.lit (.bool true), [])
theorem sameKey_u32 (a b : Int) : (Lit.int .u32 a).sameKey (.int .u32 b) = decide (a = b) := by
  rw [Bool.eq_iff_iff]
  simp [Lit.sameKey]
set_option maxRecDepth 20000 in
/-- A map as the library has it. -/
theorem MapAt.owns {w : World} {b : Nat} {ms : List (Nat × Value)} (h : MapAt w b .u32 ms) (hl : ms.length ≤ 1000) :
    ∃ D : DataW Unit, w.ownsMap Try.prog 30 RU b ms.length D ∧ (∀ x : Nat, has D (.int .u32 (x : Int)) = true ↔ x ∈ ms.map (·.1)) := by
  obtain ⟨es, clock, hb, hst, he, hwf⟩ := h
  have hsz : es.size = ms.length := by simpa using congrArg List.length he
  have hread : ∀ e ∈ es.toList, ∃ m ∈ ms, e.key = .int .u32 (m.1 : Int) ∧ rd Try.prog 30 RU e = some (.int .u32 (m.1 : Int), .lit (.bool true)) := fun e hm => by
    have h1 : (e.key, e.val) ∈ es.toList.map (fun e => (e.key, e.val)) := List.mem_map.2 ⟨e, hm, rfl⟩
    rw [he] at h1
    obtain ⟨m, hm2, hme⟩ := List.mem_map.1 h1
    injection hme with h2 h3
    refine ⟨m, hm2, h2.symm, ?_⟩
    have hk := keyOf_int_mk (P := Try.prog) Try.underlying30 (hwf m hm2)
    rw [h2] at hk
    exact rd_mk hk (show RU e.val = some (.lit (.bool true), []) from rfl)
  refine ⟨.map ((es.toList.map (rg Try.prog 30 RU)).foldr DataW.insert []), ⟨es, clock, hb, ⟨by unfold maxLen; omega, hst, fun x hx => ?_⟩, by omega, rfl⟩, fun x => ?_⟩
  · obtain ⟨m, _, _, hr⟩ := hread x hx
    exact ⟨_, hr⟩
  · rw [has_eq, List.any_eq_true]
    constructor
    · rintro ⟨p, hp, hs⟩
      rw [mem_sorted] at hp
      obtain ⟨e, hm, rfl⟩ := List.mem_map.1 hp
      obtain ⟨m, hm2, _, hr⟩ := hread e hm
      rw [rg_of hr, sameKey_u32] at hs
      have h3 : (m.1 : Int) = (x : Int) := by simpa using hs
      have : m.1 = x := by omega
      exact List.mem_map.2 ⟨m, hm2, this⟩
    · intro hx
      obtain ⟨m, hm2, rfl⟩ := List.mem_map.1 hx
      have h1 : (Value.int .u32 (m.1 : Int), m.2) ∈ ms.map (fun m => (Value.int .u32 (m.1 : Int), m.2)) := List.mem_map.2 ⟨m, hm2, rfl⟩
      rw [← he] at h1
      obtain ⟨e, hm, hee⟩ := List.mem_map.1 h1
      injection hee with h2 h3
      obtain ⟨m', _, hk', hr⟩ := hread e hm
      refine ⟨rg Try.prog 30 RU e, mem_sorted.2 (List.mem_map.2 ⟨e, hm, rfl⟩), ?_⟩
      rw [rg_of hr, sameKey_u32]
      rw [h2] at hk'
      injection hk' with _ hk'
      have h4 : (m'.1 : Int) = (m.1 : Int) := hk'.symm
      simp only [decide_eq_true_eq]
      exact h4
/-- What has come so far. -/
def CN (ks : List Nat) (left : Lit → Bool) (ss : List Nat) : Prop := ss.Nodup ∧ ∀ x : Nat, x ∈ ss ↔ (x ∈ ks ∧ left (.int .u32 (x : Int)) = false)
theorem CN.start {ks : List Nat} {D : DataW Unit} (h : ∀ x : Nat, has D (.int .u32 (x : Int)) = true ↔ x ∈ ks) : CN ks (has D) [] := ⟨List.nodup_nil, fun x => by
  constructor
  · intro hx; cases hx
  · rintro ⟨h1, h2⟩
    rw [(h x).2 h1] at h2
    cases h2⟩
theorem CN.step {ks : List Nat} {left : Lit → Bool} {ss : List Nat} (h : CN ks left ss) {x : Nat} (hk : x ∈ ks) (hl : left (.int .u32 (x : Int)) = true) : CN ks (fun z => left z && !z.sameKey (.int .u32 (x : Int))) (ss ++ [x]) := by
  have hnew : x ∉ ss := fun hx => by have := ((h.2 x).1 hx).2; rw [hl] at this; cases this
  refine ⟨?_, fun y => ?_⟩
  · rw [List.nodup_append]
    exact ⟨h.1, by simp, fun a ha b hb e => hnew (by rw [List.mem_singleton.1 hb] at e; exact e ▸ ha)⟩
  · rw [List.mem_append, List.mem_singleton, h.2 y]
    simp only [sameKey_u32, Bool.and_eq_false_iff, Bool.not_eq_false']
    constructor
    · rintro (⟨h1, h2⟩ | rfl)
      · exact ⟨h1, .inl h2⟩
      · exact ⟨hk, .inr (by simp)⟩
    · rintro ⟨h1, h2 | h2⟩
      · exact .inl ⟨h1, h2⟩
      · right
        have h3 : (y : Int) = (x : Int) := by simpa using h2
        omega
theorem CN.perm {ks : List Nat} {left : Lit → Bool} {ss : List Nat} (h : CN ks left ss) (hn : ks.Nodup) (hl : ∀ z, left z = false) : ss.Perm ks := by
  refine (List.perm_ext_iff_of_nodup h.1 hn).2 (fun x => ?_)
  rw [h.2 x, hl]
  simp
set_option maxRecDepth 100000 in
set_option maxHeartbeats 1000000 in
theorem keys_is (mb : Nat) (w : World) : Calls Try.prog 42 #[.map (some mb)] w fun e w' => e = .returned (.func (.func 59) #[] #[.pointer (some ⟨w.heap.size, 0, none⟩)]) ∧ w' = w.alloc (.cells #[.map (some mb)] 62) := by
  go_enter Try.func42, Try.ntmps42
  go_wp2
  go_ret
  exact ⟨rfl, rfl⟩
theorem key_inv {key : Value} {kl : Lit} (h : keyOf Try.prog 30 key = some kl) : ∃ x : Int, key = .int .u32 x ∧ kl = .int .u32 x ∧ 0 ≤ x := by
  have hu := Try.underlying30
  cases key <;> simp [keyOf, hu, mapKey] at h
  rename_i q a
  obtain ⟨⟨rfl, hw⟩, rfl⟩ := h
  refine ⟨a, rfl, rfl, ?_⟩
  have := of_decide_eq_true (Bool.and_eq_true_iff.1 hw).1
  exact this
set_option maxRecDepth 100000 in
set_option maxHeartbeats 2000000 in
theorem key1_in (l Bm b : Nat) (ms : List (Nat × Value)) (hlen : ms.length ≤ 1000) (J Jx : List Nat → World → Prop) (W : World) (hJ : AbidesFrom W.heap.size J)
    (hY : ∀ pre x W, J pre W → pre.length < ms.length → YieldAt Fence.wide (3 - 1) Try.prog l #[.int .u32 ((x : Nat) : Int)] W fun e W' =>
      (e = .returned (.bool true) ∧ J (pre ++ [x]) W' ∧ KeepsWalks W W') ∨ (e = .returned (.bool false) ∧ Jx (pre ++ [x]) W'))
    (hm : W.cell? ⟨Bm, 0, none⟩ = some (.map (some b))) (hown : MapAt W b .u32 ms) (h0 : J [] W) :
    CallsIn Fence.wide 3 Try.prog 59 #[.func (.yield l) #[] #[], .pointer (some ⟨Bm, 0, none⟩)] W fun e W' => (∃ v, e = .returned v) ∧
      ((∃ ys : List Nat, ys.Perm (ms.map (·.1)) ∧ J ys W') ∨ (∃ pre : List Nat, pre.Nodup ∧ Jx pre W')) := by
  obtain ⟨D, hD, hhas⟩ := hown.owns hlen
  have hnd := hown.nodup
  refine callsIn_of_wp Try.func59 rfl trivial ?_ rfl
  simp only [Try.ntmps59, List.size_toArray, List.length_cons, List.length_nil, Nat.reduceAdd, Nat.reduceSub, Array.replicate_succ, Array.replicate_zero, List.push_toArray, List.append_toArray, List.nil_append, List.cons_append]
  gi_wp2_with (first
    | (gi_at_range; refine wpListIn_range_own _ rfl _ 62 rfl 30 83 (int_keyed Try.underlying30) Try.underlying62 _ b ms.length _ rfl hD ?_; intro w0 hrg0 hg0 hs0)
    | gi_in)
  go_frame
  gi_loopw [3] (fun _ wr => ∃ (left : Lit → Bool) (cnt : Nat) (ss : List Nat), wr.ranges Try.prog 30 RU b W.heap.size ms.length D left cnt ∧ ss.length ≤ ms.length ∧ CN (ms.map (·.1)) left ss ∧ J ss wr)
    (fun _ wr => wr.rangeLeft b W.heap.size)
  case atStart => exact ⟨_, _, [], hrg0, by simp, CN.start hhas, hJ [] W w0 none h0 hg0 (fun r e => by cases e)⟩
  case round =>
    obtain ⟨left, cnt, ss, hrg, hcs, hC, hJs⟩ := hrel
    gi_wp2_with (first
      | (gi_at_next; refine wpListIn_next_ranges _ rfl _ rfl 30 (int_keyed Try.underlying30) RU (fun x : Int => Value.int .u32 x) id (fun key kl hk => by obtain ⟨x, hx, _⟩ := key_inv hk; exact ⟨x, hx⟩) (fun v _ _ => ⟨v, rfl⟩) b W.heap.size ms.length _ _ _ rfl hrg ?_ ?_)
      | gi_in)
    · intro hc0 hl0
      gi_wp2
      go_end0
      exact ⟨⟨_, rfl⟩, .inl ⟨ss, hC.perm hnd hl0, hJs⟩⟩
    · intro x c kl yd yp w2 cnt2 hkey hlk hv hat hrg2 hlt hg2 hs2 hen
      obtain ⟨x', ex, rfl, hx0⟩ := key_inv hkey
      injection ex with _ ex
      subst ex
      obtain ⟨n, rfl⟩ : ∃ n : Nat, x = (n : Int) := ⟨x.toNat, by omega⟩
      have hin : n ∈ ms.map (·.1) := (hhas n).1 (has_true_of_atKey hat)
      have hJ2 : J ss w2 := hJ ss wr w2 (some W.heap.size) hJs hg2 (fun r e => by cases e; exact ⟨Nat.le_refl _, hrg.iter_walk⟩)
      have hC2 := hC.step hin hlk
      have hl2 : (ss ++ [n]).length ≤ ms.length := by
        have := List.Nodup.length_le_of_subset hC2.1 (fun z hz => ((hC2.2 z).1 hz).1)
        rwa [List.length_map] at this
      obtain ⟨fn, tmps, assign, body, hy, hR⟩ := hY ss n w2 hJ2 (by simp at hl2; omega)
      clear hs2
      gi_wp2
      refine hR.mono ?_
      rintro e W3 (⟨rfl, hJ3, hk3⟩ | ⟨rfl, hJx3⟩)
      · gi_wp2
        have hrg3 := hrg2.of_walks hk3
        go_roundw
        case rel => exact ⟨_, cnt2, ss ++ [n], hrg3, hl2, hC2, hJ3⟩
        case measure => rw [hrg3.left_eq, hrg.left_eq]; exact hlt
      · gi_wp2
        refine bodyPost_ret (results_none rfl _ _ _) rfl ?_
        exact ⟨⟨_, rfl⟩, .inr ⟨ss ++ [n], hC2.1, hJx3⟩⟩
theorem keys_stops (Bm b : Nat) (ms : List (Nat × Value)) (hlen : ms.length ≤ 1000) (w : World) (hBm : Bm < w.heap.size) (hm : w.cell? ⟨Bm, 0, none⟩ = some (.map (some b))) (hown : MapAt w b .u32 ms) :
    SeqStopsK Fence.wide 3 Try.prog 59 #[.pointer (some ⟨Bm, 0, none⟩)] (fun x : Nat => #[Value.int .u32 (x : Int)]) KeepsWalks (fun ys => ys.Perm (ms.map (·.1))) (fun pre => pre.Nodup) ms.length w := fun l J Jx W hW hJ _ hY h0 =>
  key1_in l Bm b ms hlen J Jx W hJ hY ((hW.cell (p := ⟨Bm, 0, none⟩) hBm).trans hm) (hown.only (Only.of_below hW) (by simp)) h0
end Go.Proofs.Ytelfeedaadkhnaa
