/- floor: the library's calls on those who wait: IndexFunc, ContainsFunc, DeleteFunc with the closure that finds somebody; Delete of the first. Conditions: as each says. -/
import Derived.Test.YtelfeedaadkhnaaFlA
set_option linter.unusedVariables false
set_option linter.unusedSimpArgs false
namespace Go.Proofs.Ytelfeedaadkhnaa
open Go Go.RowKit

/-- The closure that finds somebody, whose number lies in a block of its own. -/
abbrev isF (ib : Nat) : Value := .func (.func 62) #[] #[ptr ib]
set_option maxRecDepth 20000 in
set_option maxHeartbeats 400000 in
theorem fis_is (n : Nat) (w : World) : Calls Try.prog 48 #[.int .u32 (n : Int)] w fun e w' => e = .returned (isF w.heap.size) ∧ w' = w.alloc (.cells #[.int .u32 (n : Int)] 30) := by
  go_enter Try.func48, Try.ntmps48
  go_wp2
  go_ret
  exact ⟨rfl, rfl⟩
set_option maxRecDepth 20000 in
set_option maxHeartbeats 400000 in
theorem fis1_is (n x ib : Nat) (w : World) (h : w.cell? ⟨ib, 0, none⟩ = some (.int .u32 (n : Int))) : Calls Try.prog 62 (#[.int .u32 (x : Int)] ++ #[ptr ib]) w fun e w' => e = .returned (.bool (decide (x = n))) ∧ w = w' := by
  go_enter Try.func62, Try.ntmps62
  go_wp2
  go_ret
  exact ⟨by simp [beq_nat], rfl⟩
/-- The first place at which a number stands. -/
def IdxAt (l : List Nat) (n : Nat) (z : Int) : Prop := (z = -1 ∧ n ∉ l) ∨ ∃ k : Nat, z = (k : Int) ∧ l[k]? = some n ∧ n ∉ l.take k
theorem take_snoc (L : List Nat) (k : Nat) (h : k < L.length) : L.take (k + 1) = L.take k ++ [L[k]] := by
  have := List.take_add_one (l := L) (i := k)
  rw [List.getElem?_eq_getElem h] at this
  exact this
set_option maxRecDepth 20000 in
set_option maxHeartbeats 1000000 in
theorem index_is (n ib : Nat) (v : Value) (l : List Nat) (w : World) (hv : Rd .u32 w v (nats l)) (hl : l.length ≤ 1000000) (h : w.cell? ⟨ib, 0, none⟩ = some (.int .u32 (n : Int))) :
    Calls Try.prog 61 #[v, isF ib] w fun e w' => (∃ z, e = .returned (.int .i64 z) ∧ IdxAt l n z) ∧ w = w' := by
  obtain ⟨A, c, rfl, hlc, hh⟩ := hv
  rw [nats_length] at hlc
  rw [nats_length]
  obtain ⟨N, hN⟩ : ∃ N, l.length = N := ⟨_, rfl⟩
  have HN := Lib.hid hN
  have HH := Lib.hid hh
  have HC := Lib.hid (fun x => fis1_is n x ib w h)
  rw [hN] at hl hlc ⊢
  clear hN hh h
  go_enter Try.func61, Try.ntmps61
  go_wp2
  go_loopw [8] (fun s8 wr => ∃ k : Nat, k ≤ N ∧ s8 = .int .i64 k ∧ wr = w ∧ n ∉ l.take k) (fun s8 _ => N - (intOf s8).toNat)
  case atStart => exact ⟨0, by omega, rfl, rfl, by simp⟩
  case round =>
    obtain ⟨k, hk, rfl, rfl, hno⟩ := hrel
    have HNO := Lib.hid hno
    clear hno
    by_cases hkl : k < N
    · have hkI : (k : Int) < (N : Int) := by omega
      obtain ⟨g1, o1, rfl, hc1⟩ := HH.out (by rw [nats_length, HN.out]; omega)
      have hkn : k < (nats l).length := by rw [nats_length, HN.out]; exact hkl
      have hkx : k < l.length := by rw [HN.out]; exact hkl
      have r1 := hc1 k hkn
      rw [show (nats l)[k] = ((l[k] : Nat) : Int) from by simp [nats]] at r1
      have HT := Lib.hid (show l[k] ≠ n → n ∉ l.take (k + 1) from fun hne => by
        rw [take_snoc l k hkx, List.mem_append, List.mem_singleton, not_or]
        exact ⟨HNO.out, fun e => hne e.symm⟩)
      have HG := Lib.hid (show l[k]? = some l[k] from List.getElem?_eq_getElem hkx)
      generalize l[k] = x at *
      clear hc1 hkn hkx
      go_wp2_with fail
      refine (HC.out x).mono ?_
      rintro e w1 ⟨rfl, rfl⟩
      by_cases hx : x = n
      · have HX := Lib.hid hx
        rw [decide_eq_true hx]
        clear hx
        go_wp2
        go_ret
        exact ⟨⟨_, rfl, .inr ⟨k, rfl, by rw [HG.out, HX.out], HNO.out⟩⟩, rfl⟩
      · have HX := Lib.hid (HT.out hx)
        rw [decide_eq_false hx]
        clear hx
        go_wp2
        exact ⟨⟨k + 1, by omega, by go_num, by trivial, HX.out⟩, by simp [intOf]; omega⟩
    · obtain rfl : k = N := by omega
      go_wp2
      go_ret
      refine ⟨⟨_, rfl, .inl ⟨rfl, ?_⟩⟩, rfl⟩
      have := HNO.out
      rw [← HN.out, List.take_length] at this
      exact this
set_option maxRecDepth 20000 in
set_option maxHeartbeats 1000000 in
theorem contains_is (n ib : Nat) (v : Value) (l : List Nat) (w : World) (hv : Rd .u32 w v (nats l)) (hl : l.length ≤ 1000000) (h : w.cell? ⟨ib, 0, none⟩ = some (.int .u32 (n : Int))) :
    Calls Try.prog 47 #[v, isF ib] w fun e w' => e = .returned (.bool (l.any fun x => x == n)) ∧ w = w' := by
  have HI := Lib.hid (index_is n ib v l w hv hl h)
  clear hv h
  go_enter Try.func47, Try.ntmps47
  go_wp2_with fail
  refine HI.out.mono ?_
  rintro e w1 ⟨⟨z, rfl, hz⟩, rfl⟩
  have HZ := Lib.hid hz
  clear hz HI
  go_wp2
  go_ret
  refine ⟨congrArg Ending.returned (congrArg Value.bool ?_), rfl⟩
  rcases HZ.out with ⟨rfl, hn⟩ | ⟨k, rfl, hk, _⟩
  · rw [eq_comm, Bool.eq_iff_iff]
    simpa using hn
  · rw [Bool.eq_iff_iff]
    simp
    exact List.mem_of_getElem? hk

theorem rows32_take (l : List Nat) (i : Nat) : (rows32 l).take i = rows32 (l.take i) := by simp [rows32, List.map_take]
theorem rows32_drop (l : List Nat) (i : Nat) : (rows32 l).drop i = rows32 (l.drop i) := by simp [rows32, List.map_drop]
theorem rows32_set (l : List Nat) (i x : Nat) : (rows32 l).set i [.int .u32 (x : Int)] = rows32 (l.set i x) := by simp [rows32, List.map_set]
theorem own32 {w : World} {B : Nat} {v : Value} {l : List Nat} (h : OwnS w B 30 1 v (rows32 l)) : Rd .u32 w v (nats l) := by
  have := h.1
  rw [rows32_length, rows32_flat] at this
  exact own32_rd this
theorem idx_none {l : List Nat} {n : Nat} (h : n ∉ l) : l.filter (fun x => x != n) = l := List.filter_eq_self.2 (fun x hx => by
  simp only [bne_iff_ne, ne_eq]
  intro e
  exact h (e ▸ hx))
def zero32 : Value := .int .u32 0
theorem zeroV32 (w : World) : (zeroValue 30).run Try.prog w = .ok zero32 w := by kernel_rfl
theorem zero32_one : ∀ n, ∀ v ∈ (Builtin.zeroCells zero32.cells n).toList, v.oneCell' = true := by
  intro n v hv
  simp only [Builtin.zeroCells, Array.toList_map, List.mem_map, Array.toList_range, List.mem_range] at hv
  obtain ⟨i, hi, rfl⟩ := hv
  have h1 : zero32.cells.size = 1 := rfl
  rw [h1, Nat.mod_one]
  rfl
section
variable {w : World} {B g N c : Nat} {cur l : List Nat}
theorem own32_cell (h : OwnS w B 30 1 (.slice (some ⟨g, 0, none⟩) N c) (rows32 cur)) {j x : Nat} (hj : cur[j]? = some x) : w.cell? ⟨g, j, none⟩ = some (.int .u32 (x : Int)) := by
  have hk := h.1
  rw [rows32_flat] at hk
  have h1 := hk.cells (g := g) rfl j (.int .u32 (x : Int)) (by simp [cells32, hj])
  rw [add_plain, Nat.zero_add] at h1
  exact h1
theorem own32_put (h : OwnS w B 30 1 (.slice (some ⟨g, 0, none⟩) N c) (rows32 cur)) {i : Nat} (x : Nat) (hi : i < cur.length) :
    OwnS (w.setCell ⟨g, i, none⟩ (.int .u32 (x : Int))) B 30 1 (.slice (some ⟨g, 0, none⟩) N c) (rows32 (cur.set i x)) ∧ Only (fun k => k = g) w (w.setCell ⟨g, i, none⟩ (.int .u32 (x : Int))) := by
  have := h.write (g := g) (i := i) (cs := [.int .u32 (x : Int)]) rfl (by rw [rows32_length]; exact hi) rfl
  rw [rows32_set, Nat.mul_one] at this
  exact this
theorem dl_hit {p : Nat → Bool} {i j x : Nat} (hij : i < j) (h1 : cur.take i = (l.take j).filter p) (h2 : cur.drop j = l.drop j) (hx : cur[j]? = some x) (hp : p x = true) : (cur.set i x).take (i + 1) = (l.take (j + 1)).filter p ∧ (cur.set i x).drop (j + 1) = l.drop (j + 1) := by
  have hjl := (List.getElem?_eq_some_iff.1 hx).1
  have hlx : l[j]? = some x := by
    have := congrArg (fun l : List Nat => l[0]?) h2
    simp only [List.getElem?_drop, Nat.add_zero] at this
    rw [← this, hx]
  obtain ⟨hlj, hle⟩ := List.getElem?_eq_some_iff.1 hlx
  constructor
  · rw [take_snoc (cur.set i x) i (by rw [List.length_set]; omega), List.take_set_of_le (Nat.le_refl _), List.getElem_set_self, h1, take_snoc l j hlj, List.filter_append, hle]
    simp [hp]
  · rw [List.drop_set_of_lt (by omega)]
    have := congrArg (List.drop 1) h2
    simpa [List.drop_drop] using this
theorem dl_miss {p : Nat → Bool} {i j x : Nat} (h1 : cur.take i = (l.take j).filter p) (h2 : cur.drop j = l.drop j) (hx : cur[j]? = some x) (hp : p x = false) : cur.take i = (l.take (j + 1)).filter p ∧ cur.drop (j + 1) = l.drop (j + 1) := by
  have hlx : l[j]? = some x := by
    have := congrArg (fun l : List Nat => l[0]?) h2
    simp only [List.getElem?_drop, Nat.add_zero] at this
    rw [← this, hx]
  obtain ⟨hlj, hle⟩ := List.getElem?_eq_some_iff.1 hlx
  constructor
  · rw [h1, take_snoc l j hlj, List.filter_append, hle]
    simp [hp]
  · have := congrArg (List.drop 1) h2
    simpa [List.drop_drop] using this
end
/-- What the loop of DeleteFunc keeps. -/
structure Dl (B g N c n : Nat) (l : List Nat) (w : World) (i j : Nat) (wr : World) : Prop where
  lt : i < j
  le : j ≤ N
  cur : ∃ cur : List Nat, cur.length = N ∧ OwnS wr B 30 1 (.slice (some ⟨g, 0, none⟩) N c) (rows32 cur) ∧ cur.take i = (l.take j).filter (fun x => x != n) ∧ cur.drop j = l.drop j
  only : Only (fun k => k = g) w wr
theorem Dl.start {B g N c n k : Nat} {l : List Nat} {w : World} (h : OwnS w B 30 1 (.slice (some ⟨g, 0, none⟩) N c) (rows32 l)) (hl : l.length = N) (hk : l[k]? = some n) (hno : n ∉ l.take k) : Dl B g N c n l w k (k + 1) w := by
  obtain ⟨hkl, hke⟩ := List.getElem?_eq_some_iff.1 hk
  refine ⟨by omega, by omega, ⟨l, hl, h, ?_, rfl⟩, Only.refl _ _⟩
  rw [take_snoc l k hkl, List.filter_append, idx_none hno, hke]
  simp
theorem Dl.fin {B g N c n i : Nat} {l : List Nat} {w wr : World} (h : Dl B g N c n l w i N wr) (hl : l.length = N) (hc : N ≤ c) :
    (∀ ty, (Builtin.clear_ #[33] ty #[.slice (some ⟨g, i, none⟩) (N - i) (c - i)]).run Try.prog wr = .ok (.tuple #[]) (wr.setCells g i (Builtin.zeroCells zero32.cells (N - i)).toList)) ∧
    OwnS (wr.setCells g i (Builtin.zeroCells zero32.cells (N - i)).toList) B 30 1 (.slice (some ⟨g, 0, none⟩) i c) (rows32 (l.filter fun x => x != n)) ∧ Only (fun k => k = g) w (wr.setCells g i (Builtin.zeroCells zero32.cells (N - i)).toList) := by
  obtain ⟨cur, h1, h2, h3, h4⟩ := h.cur
  have hlt := h.lt
  obtain ⟨cells, hI, hcs, -, -, -⟩ := own_is h2
  rw [Nat.mul_one] at hcs
  have hzl : (Builtin.zeroCells zero32.cells (N - i)).toList.length = N - i := by rw [Array.length_toList, zeroCells_size]; simp [zero32, Value.cells]
  refine ⟨fun ty => run_clear_wide (P := Try.prog) wr 33 30 ty zero32 Try.underlying33 zeroV32 g i (N - i) (c - i) (by omega) (fun j hj => ?_) (fun j _ => hI.free _) (zero32_one _), ?_⟩
  · rw [hzl] at hj
    rw [hI.cell, Array.getElem?_eq_getElem (by omega)]
    rfl
  · have hp := h2.pre (k := i) (by rw [rows32_length]; exact h1) (by omega)
    rw [rows32_take, h3, ← hl, List.take_length] at hp
    have hfl : (rows32 (l.filter fun x => x != n)).length = i := by
      have := congrArg List.length h3
      rw [List.length_take, ← hl, List.take_length] at this
      rw [rows32_length]
      omega
    have ht := own_tail hp hfl (Builtin.zeroCells zero32.cells (N - i)).toList (by rw [hzl]; omega)
    rw [Nat.mul_one] at ht
    exact ⟨ht.1, h.only.trans ht.2 (fun _ _ e => e)⟩
/-- A row with elements struck. -/
def Struck (B : Nat) (v : Value) (l : List Nat) (w : World) (e : Ending) (w' : World) : Prop := ∃ v', e = .returned v' ∧ OwnS w' B 30 1 v' (rows32 l) ∧ Only (fun k => v.ownBlock = some k) w w' ∧ v'.ownBlock = v.ownBlock
set_option maxRecDepth 20000 in
set_option maxHeartbeats 2000000 in
theorem delfunc_is (n ib B : Nat) (v : Value) (l : List Nat) (w : World) (hv : OwnS w B 30 1 v (rows32 l)) (hl : l.length ≤ 1000000) (hI : Is w ib 30 #[.int .u32 (n : Int)]) (hib : v.ownBlock ≠ some ib) :
    Calls Try.prog 56 #[v, isF ib] w (Struck B v (l.filter fun x => x != n) w) := by
  have HI := Lib.hid (index_is n ib v l w (own32 hv) hl (hI.cell 0))
  obtain ⟨A, c, rfl, hlc⟩ := hv.slice
  rw [rows32_length] at hlc hv HI hib ⊢
  obtain ⟨N, hN⟩ : ∃ N, l.length = N := ⟨_, rfl⟩
  have HN := Lib.hid hN
  have HV := Lib.hid hv
  have HII := Lib.hid hI
  rw [hN] at hl hlc HI HV ⊢
  rw [hN] at hib
  clear hN hv hI
  go_enter Try.func56, Try.ntmps56
  go_wp2_with fail
  refine HI.out.mono ?_
  rintro e w1 ⟨⟨z, rfl, hz⟩, rfl⟩
  rcases hz with ⟨rfl, hn⟩ | ⟨k, rfl, hk, hno⟩
  · have HD := Lib.hid (idx_none hn)
    clear hn HI
    go_wp2
    go_ret
    exact ⟨_, rfl, by rw [HD.out]; exact HV.out, (Only.refl _ w), rfl⟩
  · have hkN : k < N := by rw [← HN.out]; exact (List.getElem?_eq_some_iff.1 hk).1
    have hkI : ¬ (k : Int) = -1 := by omega
    obtain ⟨g, c', hgc, -⟩ := HV.out.place (by rw [rows32_length, HN.out]; omega)
    obtain ⟨hA, -, -⟩ := Value.slice.inj hgc
    subst hA
    clear hgc
    have HS := Lib.hid (Dl.start HV.out HN.out hk hno)
    have hne : ib ≠ g := fun e => hib (by rw [e]; rfl)
    have HM := Lib.hid (fun (wr : World) (ho : Only (fun k => k = g) w wr) (x : Nat) => fis1_is n x ib wr (((HII.out.only ho hne).cell 0)))
    clear hk hno HI HV HII hib hne
    have hkb : ((k : Int) == -1) = false := by
      simp
    go_wp2
    clear hkb
    go_loopw [5, 6] (fun s5 s6 wr => ∃ i j : Nat, s5 = .int .i64 (i : Int) ∧ s6 = .int .i64 (j : Int) ∧ Hid (Dl B g N c n l w i j wr)) (fun _ s6 _ => N - (intOf s6).toNat)
    case atStart => exact ⟨k, k + 1, rfl, by go_num, HS⟩
    case round =>
      obtain ⟨i, j, rfl, rfl, hD⟩ := hrel
      have hij := hD.out.lt
      have hjN := hD.out.le
      by_cases hlt : j < N
      · obtain ⟨cur, h1, h2, h3, h4⟩ := hD.out.cur
        have hjc : j < cur.length := by omega
        have hic : i < cur.length := by omega
        have r1 := own32_cell h2 (List.getElem?_eq_getElem hjc)
        have r2 := own32_cell h2 (List.getElem?_eq_getElem hic)
        have HH := Lib.hid (dl_hit (p := fun x => x != n) hij h3 h4 (List.getElem?_eq_getElem hjc))
        have HX := Lib.hid (dl_miss (p := fun x => x != n) h3 h4 (List.getElem?_eq_getElem hjc))
        have HP := Lib.hid (fun x => own32_put h2 x hic)
        have hf : wr.frozen? ⟨g, i, none⟩ = false := by
          obtain ⟨cells, hI, -⟩ := own_is h2
          exact hI.free _
        have HO := Lib.hid hD.out.only
        have HL := Lib.hid h1
        have H2 := Lib.hid h2
        generalize cur[j] = x at *
        generalize cur[i] = y at *
        have hjI : (j : Int) < (N : Int) := by omega
        have hiI : (i : Int) < (N : Int) := by omega
        clear h2 h3 h4 h1 hD hjc hic
        go_wp2_with fail
        refine (HM.out _ HO.out x).mono ?_
        rintro e w1 ⟨rfl, rfl⟩
        by_cases hx : x = n
        · have hd := HX.out (by simp [hx])
          have HD := Lib.hid (show Dl B g N c n l w i (j + 1) wr from ⟨by omega, by omega, ⟨cur, HL.out, H2.out, hd⟩, HO.out⟩)
          rw [decide_eq_true hx]
          clear hd hx HX HH HP
          go_wp2
          exact ⟨⟨i, j + 1, rfl, by go_num, HD⟩, by simp [intOf]; omega⟩
        · have hd := HH.out (by simp [hx])
          have HD := Lib.hid (show Dl B g N c n l w (i + 1) (j + 1) (wr.setCell ⟨g, i, none⟩ (.int .u32 (x : Int))) from ⟨by omega, by omega, ⟨cur.set i x, by rw [List.length_set]; exact HL.out, (HP.out x).1, hd⟩, HO.out.trans (HP.out x).2 (fun _ _ e => e)⟩)
          rw [decide_eq_false hx]
          clear hd hx HX HH HP
          go_wp2
          exact ⟨⟨i + 1, j + 1, by go_num, by go_num, HD⟩, by simp [intOf]; omega⟩
      · obtain rfl : j = N := by omega
        obtain ⟨hcl, h1, h2⟩ := Dl.fin hD.out HN.out hlc
        have H1 := Lib.hid h1
        have H2 := Lib.hid h2
        have hb1 : ¬ c = i := by omega
        have hb2 : i ≤ c := by omega
        clear h1 h2 hD HS HM
        go_wp2
        go_ret
        exact ⟨_, rfl, H1.out, H2.out.mono (fun k _ e => by rw [e]; rfl), rfl⟩
end Go.Proofs.Ytelfeedaadkhnaa
