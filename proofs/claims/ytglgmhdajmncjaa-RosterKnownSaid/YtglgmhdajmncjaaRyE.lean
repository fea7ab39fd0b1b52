/- roster: the library's calls on the members: IndexFunc, DeleteFunc with the closure that compares structs. Conditions: as each says. -/
import Derived.Test.YtglgmhdajmncjaaRyD
set_option linter.unusedVariables false
set_option linter.unusedSimpArgs false
namespace Go.Proofs.Ytglgmhdajmncjaa
open Go Go.RowKit

theorem beq_nat'' (a b : Nat) : ((a : Int) == (b : Int)) = (a == b) := by
  rw [Bool.eq_iff_iff]
  simp
  omega
def mbEq (a b : Mb) : Bool := a.id == b.id && (a.co == b.co && (a.ca == b.ca && a.mo == b.mo))
theorem eq_mb (a b : Mb) (w : World) : (binOp .eql 58 (mbV a) (mbV b)).run Try.prog w = .ok (.bool (mbEq a b)) w := by
  rw [run_eql_struct, run_equalIn_agg w 9999 _ _ _ (by kernel_rfl) (by kernel_rfl)]
  simp only [Program.fieldsOf, Try.underlying58]
  unfold mbEq
  obtain ⟨ai, ao, aa, am⟩ := a
  obtain ⟨bi, bo, ba, bm⟩ := b
  simp only
  rw [← beq_nat'' ao bo, ← beq_nat'' aa ba]
  cases h1 : (ai == bi) <;> cases h2 : ((ao : Int) == (bo : Int)) <;> cases h3 : ((aa : Int) == (ba : Int)) <;> simp [Op.eqFields, go_sem, h1, h2, h3]
  cases am <;> cases bm <;> rfl
/-- The closure that finds a member, which lies in a block of its own. -/
abbrev delF (ib : Nat) : Value := .func (.func 57) #[] #[ptr ib]
set_option maxRecDepth 20000 in
set_option maxHeartbeats 1000000 in
theorem leave1_is (m x : Mb) (ib : Nat) (w : World) (h : Is w ib 58 (mbCells m).toArray) : Calls Try.prog 57 (#[mbV x] ++ #[ptr ib]) w (SaysR (.bool (mbEq x m)) w) := by
  obtain ⟨xi, xo, xa, xm⟩ := x
  obtain ⟨mi, mc, ma, mm⟩ := m
  have ho := (Only.refl (fun _ => False) w).alloc (.cells #[.int .i64 xi, .int .u32 (xo : Int), .int .u32 (xa : Int), .bool xm] 58)
  have hM := Is.made w 58 #[.int .i64 xi, .int .u32 (xo : Int), .int .u32 (xa : Int), .bool xm]
  have hI := h.only ho (by simp)
  have hq := fun w => eq_mb ⟨xi, xo, xa, xm⟩ ⟨mi, mc, ma, mm⟩ w
  have HM := Lib.hid hM
  have HI := Lib.hid (show Is _ ib 58 #[.int .i64 mi, .int .u32 (mc : Int), .int .u32 (ma : Int), .bool mm] from hI)
  have HO := Lib.hid ho
  clear h hM hI ho
  generalize mbEq ⟨xi, xo, xa, xm⟩ ⟨mi, mc, ma, mm⟩ = s at *
  go_enter Try.func57, Try.ntmps57
  go_upto_region 1 with (fail)
  generalize w.alloc (.cells #[.int .i64 xi, .int .u32 (xo : Int), .int .u32 (xa : Int), .bool xm] 58) = w2 at *
  go_wp2_with (first
    | (refine wpList_load_row (o := ⟨some 4, _, _, _, _, _⟩) rfl _ _ rfl w.heap.size rfl _ _ _ _ HM.out Try.underlying58 rfl Try.sizeMb ?_)
    | (refine wpList_load_row (o := ⟨some 5, _, _, _, _, _⟩) rfl _ _ rfl ib rfl _ _ _ _ HI.out Try.underlying58 rfl Try.sizeMb ?_))
  go_ret
  exact ⟨rfl, HO.out⟩

/-- The first place at which a member stands. -/
def IdxM (l : List Mb) (p : Mb → Bool) (z : Int) : Prop := (z = -1 ∧ ∀ x ∈ l, p x = false) ∨ ∃ (k : Nat) (x : Mb), z = (k : Int) ∧ l[k]? = some x ∧ p x = true ∧ ∀ y ∈ l.take k, p y = false
set_option maxRecDepth 20000 in
set_option maxHeartbeats 2000000 in
theorem indexm_is (m : Mb) (ib B : Nat) (v : Value) (l : List Mb) (w : World) (hv : OwnS w B 58 4 v (mbRows l)) (hl : l.length ≤ 1000000) (h : Is w ib 58 (mbCells m).toArray) :
    Calls Try.prog 84 #[v, delF ib] w fun e w' => (∃ z, e = .returned (.int .i64 z) ∧ IdxM l (fun x => mbEq x m) z) ∧ Only (fun _ => False) w w' := by
  obtain ⟨A, c, rfl, hlc⟩ := hv.slice
  rw [mbRows_length] at hlc hv ⊢
  obtain ⟨N, hN⟩ : ∃ N, l.length = N := ⟨_, rfl⟩
  have HN := Lib.hid hN
  have HV := Lib.hid hv
  have HI := Lib.hid h
  rw [hN] at hl hlc HV ⊢
  clear hN hv h
  go_enter Try.func84, Try.ntmps84
  go_wp2
  go_loopw [8] (fun s8 wr => ∃ k : Nat, k ≤ N ∧ s8 = .int .i64 k ∧ Hid (Only (fun _ => False) w wr) ∧ Hid (∀ y ∈ l.take k, mbEq y m = false)) (fun s8 _ => N - (intOf s8).toNat)
  case atStart => exact ⟨0, by omega, rfl, Lib.hid (Only.refl _ _), Lib.hid (by simp)⟩
  case round =>
    obtain ⟨k, hk, rfl, hO, hno⟩ := hrel
    by_cases hkl : k < N
    · have hkI : (k : Int) < (N : Int) := by omega
      have hkx : k < l.length := by rw [HN.out]; exact hkl
      have hrow := HV.out.only hO.out (by simp)
      obtain ⟨g, c', hgc, -⟩ := hrow.place (by rw [mbRows_length]; omega)
      obtain ⟨hA, -, -⟩ := Value.slice.inj hgc
      subst hA
      clear hgc
      have hx : l[k]? = some l[k] := List.getElem?_eq_getElem hkx
      have HX := Lib.hid hx
      have HRG := Lib.hid (hrow.range (g := g) rfl (mbRows_get hx))
      have HC := Lib.hid (fun x => leave1_is m x ib wr (HI.out.only hO.out (by simp)))
      generalize l[k] = x at *
      obtain ⟨xi, xo, xa, xm⟩ := x
      clear hrow hx hkx
      go_wp2_with (refine wpList_load_mid rfl 58 _ rfl g (k * 4) rfl [.int .i64 xi, .int .u32 (xo : Int), .int .u32 (xa : Int), .bool xm] _ HRG.out Try.underlying58 rfl Try.sizeMb ?_)
      refine (HC.out ⟨xi, xo, xa, xm⟩).mono ?_
      rintro e w1 ⟨rfl, ho⟩
      have HO := Lib.hid (hO.out.trans ho (fun _ _ e => e))
      clear ho HC
      cases hx : mbEq ⟨xi, xo, xa, xm⟩ m with
      | true =>
        have HE := Lib.hid hx
        clear hx
        go_wp2
        go_ret
        exact ⟨⟨_, rfl, .inr ⟨k, _, rfl, HX.out, HE.out, hno.out⟩⟩, HO.out⟩
      | false =>
        have HE := Lib.hid (take_more (p := fun x => mbEq x m) hno.out HX.out hx)
        clear hx
        go_wp2
        exact ⟨⟨k + 1, by omega, by go_num, HO, HE⟩, by simp [intOf]; omega⟩
    · obtain rfl : k = N := by omega
      go_wp2
      go_ret
      refine ⟨⟨_, rfl, .inl ⟨rfl, ?_⟩⟩, hO.out⟩
      have := hno.out
      rw [← HN.out, List.take_length] at this
      exact this
theorem mbRows_take (l : List Mb) (i : Nat) : (mbRows l).take i = mbRows (l.take i) := by simp [mbRows, List.map_take]
theorem mbRows_set (l : List Mb) (i : Nat) (x : Mb) : (mbRows l).set i (mbCells x) = mbRows (l.set i x) := by simp [mbRows, List.map_set]
def zeroMbV : Value := .agg zeroMb
theorem zeroVMb (w : World) : (zeroValue 58).run Try.prog w = .ok zeroMbV w := by kernel_rfl
theorem zeroMb_one : ∀ n, ∀ v ∈ (Builtin.zeroCells zeroMb n).toList, v.oneCell' = true := by
  intro n v hv
  simp only [Builtin.zeroCells, Array.toList_map, List.mem_map, Array.toList_range, List.mem_range] at hv
  obtain ⟨i, hi, rfl⟩ := hv
  have h1 : zeroMb.size = 4 := rfl
  rw [h1]
  have h4 : i % 4 < 4 := Nat.mod_lt _ (by decide)
  generalize i % 4 = j at *
  rcases j with _ | _ | _ | _ | j
  · rfl
  · rfl
  · rfl
  · rfl
  · omega
theorem take_snoc' (L : List Mb) (k : Nat) (h : k < L.length) : L.take (k + 1) = L.take k ++ [L[k]] := by
  have := List.take_add_one (l := L) (i := k)
  rw [List.getElem?_eq_getElem h] at this
  exact this
section
variable {cur l : List Mb}
theorem dm_hit {p : Mb → Bool} {i j : Nat} {x : Mb} (hij : i < j) (h1 : cur.take i = (l.take j).filter p) (h2 : cur.drop j = l.drop j) (hx : cur[j]? = some x) (hp : p x = true) : (cur.set i x).take (i + 1) = (l.take (j + 1)).filter p ∧ (cur.set i x).drop (j + 1) = l.drop (j + 1) := by
  have hjl := (List.getElem?_eq_some_iff.1 hx).1
  have hlx : l[j]? = some x := by
    have := congrArg (fun l : List Mb => l[0]?) h2
    simp only [List.getElem?_drop, Nat.add_zero] at this
    rw [← this, hx]
  obtain ⟨hlj, hle⟩ := List.getElem?_eq_some_iff.1 hlx
  constructor
  · rw [take_snoc' (cur.set i x) i (by rw [List.length_set]; omega), List.take_set_of_le (Nat.le_refl _), List.getElem_set_self, h1, take_snoc' l j hlj, List.filter_append, hle]
    simp [hp]
  · rw [List.drop_set_of_lt (by omega)]
    have := congrArg (List.drop 1) h2
    simpa [List.drop_drop] using this
theorem dm_miss {p : Mb → Bool} {i j : Nat} {x : Mb} (h1 : cur.take i = (l.take j).filter p) (h2 : cur.drop j = l.drop j) (hx : cur[j]? = some x) (hp : p x = false) : cur.take i = (l.take (j + 1)).filter p ∧ cur.drop (j + 1) = l.drop (j + 1) := by
  have hlx : l[j]? = some x := by
    have := congrArg (fun l : List Mb => l[0]?) h2
    simp only [List.getElem?_drop, Nat.add_zero] at this
    rw [← this, hx]
  obtain ⟨hlj, hle⟩ := List.getElem?_eq_some_iff.1 hlx
  constructor
  · rw [h1, take_snoc' l j hlj, List.filter_append, hle]
    simp [hp]
  · have := congrArg (List.drop 1) h2
    simpa [List.drop_drop] using this
end
/-- What the loop of DeleteFunc keeps. -/
structure Dm (B g N c : Nat) (p : Mb → Bool) (l : List Mb) (w : World) (i j : Nat) (wr : World) : Prop where
  lt : i < j
  le : j ≤ N
  cur : ∃ cur : List Mb, cur.length = N ∧ OwnS wr B 58 4 (.slice (some ⟨g, 0, none⟩) N c) (mbRows cur) ∧ cur.take i = (l.take j).filter p ∧ cur.drop j = l.drop j
  only : Only (fun k => k = g) w wr
theorem Dm.start {B g N c k : Nat} {p : Mb → Bool} {l : List Mb} {w wr : World} {x : Mb} (h : OwnS wr B 58 4 (.slice (some ⟨g, 0, none⟩) N c) (mbRows l)) (ho : Only (fun _ => False) w wr) (hl : l.length = N) (hk : l[k]? = some x) (hx : p x = false) (hno : ∀ y ∈ l.take k, p y = true) : Dm B g N c p l w k (k + 1) wr := by
  obtain ⟨hkl, hke⟩ := List.getElem?_eq_some_iff.1 hk
  refine ⟨by omega, by omega, ⟨l, hl, h, ?_, rfl⟩, ho.mono (fun _ _ e => e.elim)⟩
  rw [take_snoc' l k hkl, List.filter_append, List.filter_eq_self.2 hno, hke]
  simp [hx]
theorem Dm.fin {B g N c i : Nat} {p : Mb → Bool} {l : List Mb} {w wr : World} (h : Dm B g N c p l w i N wr) (hl : l.length = N) (hc : N ≤ c) :
    (∀ ty, (Builtin.clear_ #[69] ty #[.slice (some ⟨g, i * 4, none⟩) (N - i) (c - i)]).run Try.prog wr = .ok (.tuple #[]) (wr.setCells g (i * 4) (Builtin.zeroCells zeroMb (N - i)).toList)) ∧
    OwnS (wr.setCells g (i * 4) (Builtin.zeroCells zeroMb (N - i)).toList) B 58 4 (.slice (some ⟨g, 0, none⟩) i c) (mbRows (l.filter p)) ∧ Only (fun k => k = g) w (wr.setCells g (i * 4) (Builtin.zeroCells zeroMb (N - i)).toList) := by
  obtain ⟨cur, h1, h2, h3, h4⟩ := h.cur
  have hlt := h.lt
  obtain ⟨cells, hI, hcs, -, -, -⟩ := own_is h2
  have hzl : (Builtin.zeroCells zeroMb (N - i)).toList.length = (N - i) * 4 := by rw [Array.length_toList, zeroCells_size]; rfl
  refine ⟨fun ty => run_clear_wide (P := Try.prog) wr 69 58 ty zeroMbV Try.underlying69 zeroVMb g (i * 4) (N - i) (c - i) (by omega) (fun j hj => ?_) (fun j _ => hI.free _) (zeroMb_one _), ?_⟩
  · replace hj : j < (Builtin.zeroCells zeroMb (N - i)).toList.length := hj
    rw [hzl] at hj
    rw [hI.cell, Array.getElem?_eq_getElem (by omega)]
    rfl
  · have hp := h2.pre (k := i) (by rw [mbRows_length]; exact h1) (by omega)
    rw [mbRows_take, h3, ← hl, List.take_length] at hp
    have hfl : (mbRows (l.filter p)).length = i := by
      have := congrArg List.length h3
      rw [List.length_take, ← hl, List.take_length] at this
      rw [mbRows_length]
      omega
    have ht := own_tail hp hfl (Builtin.zeroCells zeroMb (N - i)).toList (by rw [hzl]; omega)
    exact ⟨ht.1, h.only.trans ht.2 (fun _ _ e => e)⟩
/-- A row with elements struck. -/
def StruckM (B : Nat) (v : Value) (l : List Mb) (w : World) (e : Ending) (w' : World) : Prop := ∃ v', e = .returned v' ∧ OwnS w' B 58 4 v' (mbRows l) ∧ Only (fun k => v.ownBlock = some k) w w' ∧ v'.ownBlock = v.ownBlock
end Go.Proofs.Ytglgmhdajmncjaa
