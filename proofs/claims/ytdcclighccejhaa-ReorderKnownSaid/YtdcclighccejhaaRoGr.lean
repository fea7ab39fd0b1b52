/- Merged of RoA RoB RoC RoD RoE RoF RoG RoH WnAp RoI RoJ. Conditions: as each says. -/
import Derived.Test.YtdcclighccejhaaMkE
import Derived.Test.YtdcclighccejhaaStrW
import Derived.Test.YtdcclighccejhaaBase
import Derived.Laws.IdiomCopy
import Derived.Deep.DeepAppendRoom
import Derived.Deep.RegionLaw
import Derived.Lib.Overlaps
import Derived.Laws.Externs
import Derived.Lib.AppendZeros
import Derived.Lib.AppendZerosOnto
import Derived.Laws.NewBlocks
import Derived.Laws.AppendOwn
import Derived.Laws.OwnMore
/- reorder: a buffer plainly, and in memory; its small calls. Conditions: as each says. -/
set_option linter.unusedVariables false
set_option linter.unusedSimpArgs false
namespace Go.Proofs.Ytdcclighccejhaa
open Go Go.RowKit

/-- What is answered, and nothing that was there is written. -/
def SaysO (v : Value) (w : World) (e : Ending) (w' : World) : Prop := e = .returned v ∧ Only (fun _ => False) w w'
/-- A packet that waits. -/
structure Wt where
  n : Nat
  came : Nat
  p : Pk
/-- A buffer. -/
structure Bf where
  size : Nat
  hold : Nat
  some : Bool
  last : Nat
  ws : List Wt
abbrev V3 := Value × Value × Value
def Wt.cls (x : Wt) (u : V3) : List Value := .int .u64 (x.n : Int) :: .int .u64 (x.came : Int) :: (x.p.cls u.1 u.2.1 u.2.2).toList
theorem Wt.cls_length (x : Wt) (u : V3) : (x.cls u).length = 13 := rfl
def wtRows (ws : List Wt) (us : List V3) : List (List Value) := List.zipWith Wt.cls ws us
theorem wtRows_length {ws : List Wt} {us : List V3} (h : us.length = ws.length) : (wtRows ws us).length = ws.length := by
  simp [wtRows, h]
theorem wtRows_get {ws : List Wt} {us : List V3} {i : Nat} {x : Wt} {u : V3} (hx : ws[i]? = Option.some x) (hu : us[i]? = Option.some u) : (wtRows ws us)[i]? = Option.some (x.cls u) := by
  simp [wtRows, List.getElem?_zipWith, hx, hu]
/-- A block that a packet's rows hold. -/
def Blk (u : V3) (k : Nat) : Prop := u.1.ownBlock = Option.some k ∨ u.2.1.ownBlock = Option.some k ∨ u.2.2.ownBlock = Option.some k
/-- Packets whose rows are their own, no two in one place. -/
structure Pks (w : World) (B : Nat) (ws : List Wt) (us : List V3) : Prop where
  len : us.length = ws.length
  own : ∀ (i : Nat) (x : Wt) (u : V3), ws[i]? = Option.some x → us[i]? = Option.some u → OwnPk B x.p u.1 u.2.1 u.2.2 w
  apart : ∀ (i j : Nat) (a b : V3), i < j → us[i]? = Option.some a → us[j]? = Option.some b → ∀ k, Blk a k → ¬ Blk b k
def bfCells (m : Bf) (v : Value) : Array Value := #[.int .i64 (m.size : Int), .int .u64 (m.hold : Int), .bool m.some, .int .u64 (m.last : Int), v]
/-- A buffer lies there. -/
structure Bfr (w : World) (b : Nat) (m : Bf) (v : Value) (us : List V3) (B : Nat) : Prop where
  is : Is w b 65 (bfCells m v)
  row : OwnS w B 79 13 v (wtRows m.ws us)
  pks : Pks w B m.ws us
section
variable {w w1 : World} {b B : Nat} {m : Bf} {v : Value} {us : List V3}
theorem Bfr.size (h : Bfr w b m v us B) : w.cell? ⟨b, 0, none⟩ = Option.some (.int .i64 (m.size : Int)) := h.is.cell 0
theorem Bfr.hold (h : Bfr w b m v us B) : w.cell? ⟨b, 1, none⟩ = Option.some (.int .u64 (m.hold : Int)) := h.is.cell 1
theorem Bfr.went (h : Bfr w b m v us B) : w.cell? ⟨b, 2, none⟩ = Option.some (.bool m.some) := h.is.cell 2
theorem Bfr.last (h : Bfr w b m v us B) : w.cell? ⟨b, 3, none⟩ = Option.some (.int .u64 (m.last : Int)) := h.is.cell 3
theorem Bfr.list (h : Bfr w b m v us B) : w.cell? ⟨b, 4, none⟩ = Option.some v := h.is.cell 4
theorem OwnPk.only_of {p : Pk} {u : V3} (h : OwnPk B p u.1 u.2.1 u.2.2 w) {S : Nat → Prop} (ho : Only S w w1) (hs : ∀ k, Blk u k → ¬ S k) : OwnPk B p u.1 u.2.1 u.2.2 w1 :=
  ⟨own_only h.1 ho (fun k hk => hs k (.inl hk)), own_only h.2.1 ho (fun k hk => hs k (.inr (.inl hk))), own_only h.2.2 ho (fun k hk => hs k (.inr (.inr hk)))⟩
theorem Pks.only {ws : List Wt} (h : Pks w B ws us) {S : Nat → Prop} (ho : Only S w w1) (hs : ∀ u ∈ us, ∀ k, Blk u k → ¬ S k) : Pks w1 B ws us :=
  ⟨h.len, fun i x u hx hu => (h.own i x u hx hu).only_of ho (hs u (List.mem_of_getElem? hu)), h.apart⟩
theorem Bfr.only (h : Bfr w b m v us B) {S : Nat → Prop} (ho : Only S w w1) (hb : ¬ S b) (hv : ∀ k, v.ownBlock = Option.some k → ¬ S k) (hs : ∀ u ∈ us, ∀ k, Blk u k → ¬ S k) : Bfr w1 b m v us B :=
  ⟨h.is.only ho hb, h.row.only ho hv, h.pks.only ho hs⟩
theorem Bfr.pure (h : Bfr w b m v us B) (ho : Only (fun _ => False) w w1) : Bfr w1 b m v us B := h.only ho (by simp) (by simp) (by simp)
theorem Bfr.slice (h : Bfr w b m v us B) : ∃ A c, v = .slice A m.ws.length c ∧ m.ws.length ≤ c := by
  obtain ⟨A, c, e, hc⟩ := h.row.slice
  rw [wtRows_length h.pks.len] at e hc
  exact ⟨A, c, e, hc⟩
/-- Where a packet that waits lies. -/
theorem Bfr.at_ (h : Bfr w b m v us B) (hp : 0 < m.ws.length) : ∃ g c, v = .slice (Option.some ⟨g, 0, none⟩) m.ws.length c ∧ m.ws.length ≤ c ∧ g < w.heap.size ∧ B ≤ g ∧
    ∀ i x, m.ws[i]? = Option.some x → ∃ u, us[i]? = Option.some u ∧ ∀ j, j < 13 → w.cell? ⟨g, i * 13 + j, none⟩ = (x.cls u)[j]? := by
  obtain ⟨g, c, e, h1, h2, h3, h4⟩ := h.row.at_ (by rw [wtRows_length h.pks.len]; exact hp)
  rw [wtRows_length h.pks.len] at e h1
  refine ⟨g, c, e, h1, h2, h3, fun i x hx => ?_⟩
  have hi : i < us.length := by rw [h.pks.len]; exact (List.getElem?_eq_some_iff.1 hx).1
  have hu := List.getElem?_eq_getElem hi
  exact ⟨us[i], hu, fun j hj => h4 i j _ (wtRows_get hx hu) hj⟩
end
/-- What is right of a buffer. -/
structure Bf.Fit (m : Bf) : Prop where
  one : 1 ≤ m.size
  le : m.size ≤ 256
  hold : m.hold < 18446744073709551616
  last : m.last < 18446744073709551616
  len : m.ws.length ≤ 300
  nums : ∀ x ∈ m.ws, x.n < 18446744073709551616 ∧ x.came < 18446744073709551616
  rise : ∀ (i j : Nat) (x y : Wt), i < j → m.ws[i]? = Option.some x → m.ws[j]? = Option.some y → x.n < y.n

set_option maxRecDepth 100000 in
set_option maxHeartbeats 400000 in
theorem takes_nil (w : World) : Calls Try.prog 29 #[.pointer none] w fun e w' => e = .returned (.bool false) ∧ w = w' := by
  go_enter Try.func29, Try.ntmps29
  go_wp2
  go_ret
  exact ⟨rfl, rfl⟩
set_option maxRecDepth 100000 in
set_option maxHeartbeats 400000 in
theorem takes_is (b : Nat) (m : Bf) (v : Value) (us : List V3) (B : Nat) (w : World) (h : Bfr w b m v us B) (hf : m.Fit) : Calls Try.prog 29 #[ptr b] w fun e w' => e = .returned (.bool true) ∧ w = w' := by
  have c0 := h.size
  have h1 := hf.one
  generalize m.size = s at *
  clear h hf
  go_enter Try.func29, Try.ntmps29
  go_wp2
  go_ret
  exact ⟨by simp; omega, rfl⟩
set_option maxRecDepth 100000 in
set_option maxHeartbeats 400000 in
theorem rin_nil (n now : Nat) (x : Value) (w : World) (hx : ∃ cs : Array Value, x = .agg cs ∧ cs.size = 11) : Calls Try.prog 16 #[.pointer none, .int .u64 (n : Int), x, .int .u64 (now : Int)] w (SaysO (.tuple #[.slice none 0 0, .bool false]) w) := by
  obtain ⟨cs, rfl, hx⟩ := hx
  go_enter Try.func16, Try.ntmps16
  go_wp2_with fail
  refine (takes_nil _).mono ?_
  rintro e w1 ⟨rfl, rfl⟩
  go_wp2
  go_ret2
  exact ⟨rfl, (Only.refl _ w).alloc _⟩
set_option maxRecDepth 100000 in
set_option maxHeartbeats 400000 in
theorem rtick_nil (now : Nat) (w : World) : Calls Try.prog 13 #[.pointer none, .int .u64 (now : Int)] w (SaysO (.slice none 0 0) w) := by
  go_enter Try.func13, Try.ntmps13
  go_wp2_with fail
  refine (takes_nil _).mono ?_
  rintro e w1 ⟨rfl, rfl⟩
  go_wp2
  go_ret
  exact ⟨rfl, Only.refl _ w⟩
set_option maxRecDepth 100000 in
set_option maxHeartbeats 400000 in
theorem rflush_nil (w : World) : Calls Try.prog 15 #[.pointer none] w (SaysO (.slice none 0 0) w) := by
  go_enter Try.func15, Try.ntmps15
  go_wp2_with fail
  refine (takes_nil _).mono ?_
  rintro e w1 ⟨rfl, rfl⟩
  go_wp2
  go_ret
  exact ⟨rfl, Only.refl _ w⟩
set_option maxRecDepth 100000 in
set_option maxHeartbeats 400000 in
theorem rnext_nil (w : World) : Calls Try.prog 18 #[.pointer none] w (SaysO (.tuple #[.int .u64 0, .bool false]) w) := by
  go_enter Try.func18, Try.ntmps18
  go_wp2
  go_ret2
  exact ⟨rfl, Only.refl _ w⟩
set_option maxRecDepth 100000 in
set_option maxHeartbeats 400000 in
theorem rwait_nil (w : World) : Calls Try.prog 14 #[.pointer none] w (SaysO (.slice none 0 0) w) := by
  go_enter Try.func14, Try.ntmps14
  go_wp2
  go_ret
  exact ⟨rfl, Only.refl _ w⟩
/-- A new buffer. -/
def Bf.new (s h : Nat) : Bf := ⟨s, h, false, 0, []⟩
theorem Bf.Fit.new {s h : Nat} (h1 : 1 ≤ s) (h2 : s ≤ 256) (h3 : h < 18446744073709551616) : (Bf.new s h).Fit :=
  ⟨h1, h2, h3, by simp [Bf.new], by simp [Bf.new], by simp [Bf.new], fun i j x y _ hx => by simp [Bf.new] at hx⟩
def Made (s : Int) (h : Nat) (w : World) (e : Ending) (w' : World) : Prop :=
  ∃ b, e = .returned (.tuple #[ptr b, .int .i64 0]) ∧ Bfr w' b (Bf.new s.toNat h) (.slice none 0 0) [] w.heap.size ∧ b = w.heap.size ∧ Only (fun _ => False) w w'
set_option maxRecDepth 100000 in
set_option maxHeartbeats 400000 in
theorem new_no (s : Int) (h : Nat) (w : World) (hs : s < 1 ∨ 256 < s) : Calls Try.prog 9 #[.int .i64 s, .int .u64 (h : Int)] w (SaysO (.tuple #[.pointer none, .int .i64 2]) w) := by
  rcases Int.lt_or_le s 1 with h1 | h1
  · clear hs
    go_enter Try.func9, Try.ntmps9
    go_wp2
    go_ret2
    exact ⟨rfl, Only.refl _ w⟩
  · have h2 : 256 < s := by omega
    clear hs
    go_enter Try.func9, Try.ntmps9
    go_wp2
    go_ret2
    exact ⟨rfl, Only.refl _ w⟩
set_option maxRecDepth 100000 in
set_option maxHeartbeats 400000 in
theorem new_yes (s h : Nat) (w : World) (h1 : 1 ≤ s) (h2 : s ≤ 256) : Calls Try.prog 9 #[.int .i64 (s : Int), .int .u64 (h : Int)] w (Made s h w) := by
  go_enter Try.func9, Try.ntmps9
  go_wp2
  go_ret2
  exact ⟨_, rfl, ⟨Is.made w _ _, OwnS.nil _ _ _ _, ⟨rfl, by simp, by simp⟩⟩, rfl, (Only.refl _ w).alloc _⟩
set_option maxRecDepth 100000 in
set_option maxHeartbeats 400000 in
theorem rnext_is (b : Nat) (m : Bf) (v : Value) (us : List V3) (B : Nat) (w : World) (h : Bfr w b m v us B) (hl : m.some = true → m.last + 1 < 18446744073709551616) : Calls Try.prog 18 #[ptr b] w (SaysO (.tuple #[.int .u64 ((if m.some then m.last + 1 else 0 : Nat) : Int), .bool m.some]) w) := by
  have c2 := h.went
  have c3 := h.last
  generalize m.last = l at *
  generalize m.some = s at *
  clear h
  cases s
  · go_enter Try.func18, Try.ntmps18
    go_wp2
    go_ret2
    exact ⟨rfl, Only.refl _ w⟩
  · have e1 : IntKind.u64.wrap ((l : Int) + 1) = ((l + 1 : Nat) : Int) := by have := hl rfl; rw [IntKind.wrap_u64]; omega
    clear hl
    go_enter Try.func18, Try.ntmps18
    go_wp2
    go_ret2
    exact ⟨by simp, Only.refl _ w⟩
/-- How long it has waited. -/
def Wt.waits (x : Wt) (now : Nat) : Nat := max now x.came - x.came
set_option maxRecDepth 100000 in
set_option maxHeartbeats 400000 in
theorem waited_is (x : Wt) (u : V3) (now : Nat) (w : World) (hc : x.came < 18446744073709551616) (hn : now < 18446744073709551616) : Calls Try.prog 30 #[.agg (x.cls u).toArray, .int .u64 (now : Int)] w (SaysO (.int .u64 (x.waits now : Int)) w) := by
  have E2 := Lib.hid (show x.came ≤ now → IntKind.u64.wrap ((now : Int) - (x.came : Int)) = ((x.waits now : Nat) : Int) from fun h => by unfold Wt.waits; rw [IntKind.wrap_u64, Nat.max_eq_left h]; omega)
  have E1 := Lib.hid (show now ≤ x.came → x.waits now = 0 from fun h => by unfold Wt.waits; rw [Nat.max_eq_right h]; omega)
  generalize x.waits now = r at *
  have hsz : (x.cls u).toArray[1]? = some (.int .u64 (x.came : Int)) := rfl
  obtain ⟨cs, hcs⟩ : ∃ cs, (x.cls u).toArray = cs := ⟨_, rfl⟩
  have hs13 : cs.size = 13 := by rw [← hcs]; rfl
  rw [hcs] at hsz ⊢
  generalize x.came = c at *
  clear hcs hc hn
  have H1 := Lib.hid (fun (o : Obj) (ho : o = .cells cs 79) => show (w.alloc o).cell? ⟨w.heap.size, 1, none⟩ = some (.int .u64 (c : Int)) from by rw [ho, (Is.made w _ _).cell]; exact hsz)
  have c1 := H1.out _ rfl
  rcases Nat.lt_or_ge now c with h | h
  · have hi : (now : Int) < (c : Int) := by omega
    have e := E1.out (by omega)
    subst e
    go_enter Try.func30, Try.ntmps30
    go_wp2
    go_ret
    exact ⟨rfl, (Only.refl _ w).alloc _⟩
  · have hi : (c : Int) ≤ (now : Int) := by omega
    have e := E2.out h
    go_enter Try.func30, Try.ntmps30
    go_wp2
    all_goals go_ret
    all_goals (first | exact ⟨by simp [e], (Only.refl _ w).alloc _⟩ | (exfalso; omega))
end Go.Proofs.Ytdcclighccejhaa

/- reorder: sort.Search, place. Conditions: as each says. -/
set_option linter.unusedVariables false
set_option linter.unusedSimpArgs false
namespace Go.Proofs.Ytdcclighccejhaa
open Go Go.RowKit

/-- The first place where it holds. -/
def Found (n : Nat) (p : Nat → Bool) (w : World) (e : Ending) (w' : World) : Prop :=
  ∃ k : Nat, e = .returned (.int .i64 (k : Int)) ∧ k ≤ n ∧ (∀ i, i < k → p i = false) ∧ (∀ i, k ≤ i → i < n → p i = true) ∧ Only (fun _ => False) w w'
set_option maxRecDepth 100000 in
set_option maxHeartbeats 1000000 in
theorem search_is (cb : Array Value) (n : Nat) (p : Nat → Bool) (w : World) (hn : n ≤ 300)
    (hf : ∀ (W : World) (i : Nat), i < n → Only (fun _ => False) w W → Calls Try.prog 43 (#[.int .i64 (i : Int)] ++ cb) W (SaysO (.bool (p i)) W))
    (hm : ∀ a b, a ≤ b → b < n → p a = true → p b = true) :
    Calls Try.prog 42 #[.int .i64 (n : Int), .func (.func 43) #[] cb] w (Found n p w) := by
  have HF := Lib.hid hf
  have HM := Lib.hid hm
  clear hf hm
  go_enter Try.func42, Try.ntmps42
  go_wp2
  go_loopw [5, 6] (fun s5 s6 wr => ∃ i j : Nat, i ≤ j ∧ j ≤ n ∧ s5 = .int .i64 (i : Int) ∧ s6 = .int .i64 (j : Int) ∧ (∀ a, a < i → p a = false) ∧ (∀ a, j ≤ a → a < n → p a = true) ∧ Only (fun _ => False) w wr) (fun s5 s6 _ => (intOf s6).toNat - (intOf s5).toNat)
  case atStart => exact ⟨0, n, by omega, by omega, rfl, rfl, by omega, by omega, Only.refl _ w⟩
  case round =>
    obtain ⟨i, j, hij, hjn, rfl, rfl, hlo, hhi, ho⟩ := hrel
    have L := Lib.hid hlo
    have H := Lib.hid hhi
    have O := Lib.hid ho
    clear hlo hhi ho
    by_cases hlt : i < j
    · have hltI : (i : Int) < (j : Int) := by omega
      obtain ⟨k, hk⟩ : ∃ k, (i + j) / 2 = k := ⟨_, rfl⟩
      have ek : ((i : Int) + (j : Int)) / 2 = (k : Int) := by omega
      have e2 : i ≤ k := by omega
      have e3 : k < j := by omega
      clear hk
      go_wp2_with fail
      refine (HF.out wr k (by omega) O.out).mono ?_
      rintro e w1 ⟨rfl, ho1⟩
      have O1 := Lib.hid (O.out.trans ho1 (fun _ _ e => e))
      clear ho1 ek
      have hlo : p k = false → ∀ a, a < k + 1 → p a = false := fun hp a ha => by
        cases hq : p a with
        | false => rfl
        | true => rw [HM.out a k (by omega) (by omega) hq] at hp; cases hp
      have hhi : p k = true → ∀ a, k ≤ a → a < n → p a = true := fun hp a ha hb => HM.out k a ha hb hp
      have LO := Lib.hid hlo
      have HI := Lib.hid hhi
      clear hlo hhi
      cases hp : p k with
      | false =>
        have L1 := Lib.hid (LO.out hp)
        clear hp
        go_wp2
        exact ⟨⟨k + 1, j, by omega, hjn, by go_num, rfl, L1.out, H.out, O1.out⟩, by simp [intOf]; omega⟩
      | true =>
        have H1 := Lib.hid (HI.out hp)
        clear hp
        go_wp2
        exact ⟨⟨i, k, by omega, by omega, rfl, rfl, L.out, H1.out, O1.out⟩, by simp [intOf]; omega⟩
    · obtain rfl : i = j := by omega
      go_wp2
      go_ret
      exact ⟨i, rfl, hjn, L.out, H.out, O.out⟩
set_option maxRecDepth 100000 in
set_option maxHeartbeats 1000000 in
/-- The closure: is the number there not below? -/
theorem place1_is (b g c L ib ibn z i : Nat) (n : Nat) (W : World) (hi : i < L)
    (h0 : W.cell? ⟨ib, 0, none⟩ = some (ptr b)) (h1 : W.cell? ⟨ibn, 0, none⟩ = some (.int .u64 (n : Int))) (h2 : W.cell? ⟨b, 4, none⟩ = some (.slice (some ⟨g, 0, none⟩) L c)) (h3 : W.cell? ⟨g, i * 13, none⟩ = some (.int .u64 (z : Int))) :
    Calls Try.prog 43 (#[.int .i64 (i : Int)] ++ #[ptr ib, ptr ibn]) W (SaysO (.bool (decide (n ≤ z))) W) := by
  have hiI : (i : Int) < (L : Int) := by omega
  rw [show decide (n ≤ z) = decide ((n : Int) ≤ (z : Int)) from by simp]
  go_enter Try.func43, Try.ntmps43
  go_wp2
  go_quiet (fail)
  go_wp2
  go_ret
  exact ⟨by simp, (Only.refl _ W).drewN _⟩
/-- Where a packet of that number stands, or would stand. -/
def Placed (m : Bf) (n : Nat) (w : World) (e : Ending) (w' : World) : Prop :=
  ∃ k : Nat, e = .returned (.tuple #[.int .i64 (k : Int), .bool (decide (∃ x, m.ws[k]? = some x ∧ x.n = n))]) ∧ k ≤ m.ws.length ∧ (∀ i x, i < k → m.ws[i]? = some x → x.n < n) ∧ (∀ i x, k ≤ i → m.ws[i]? = some x → n ≤ x.n) ∧ Only (fun _ => False) w w'
theorem grown_cell {w w1 : World} (ho : Only (fun _ => False) w w1) {a : Addr} {v : Value} (h : w.cell? a = some v) (hl : a.block < w.heap.size) : w1.cell? a = some v := by
  rw [← h]
  exact ho.cell hl (by simp)
set_option maxRecDepth 20000 in
set_option maxHeartbeats 1000000 in
theorem place_is (b n : Nat) (m : Bf) (v : Value) (us : List V3) (B : Nat) (w : World) (h : Bfr w b m v us B) (hf : m.Fit) : Calls Try.prog 32 #[ptr b, .int .u64 (n : Int)] w (Placed m n w) := by
  obtain ⟨A, c, rfl, hc⟩ := h.slice
  obtain ⟨num, hnum⟩ : ∃ num : Nat → Nat, ∀ i x, m.ws[i]? = some x → num i = x.n := ⟨fun i => (m.ws[i]?.map Wt.n).getD 0, fun i x hx => by simp [hx]⟩
  have hmono : ∀ i j, i ≤ j → j < m.ws.length → num i ≤ num j := fun i j hij hj => by
    rcases Nat.lt_or_ge i j with hlt | hge
    · have h1 := List.getElem?_eq_getElem (show i < m.ws.length by omega)
      have h2 := List.getElem?_eq_getElem hj
      rw [hnum i _ h1, hnum j _ h2]
      exact Nat.le_of_lt (hf.rise i j _ _ hlt h1 h2)
    · rw [show i = j by omega]
      exact Nat.le_refl _
  have hget : ∀ i, i < m.ws.length → ∃ g, A = some ⟨g, 0, none⟩ ∧ g < w.heap.size ∧ w.cell? ⟨g, i * 13, none⟩ = some (.int .u64 (num i : Int)) := fun i hi => by
    obtain ⟨g, c', e, h1, h2, h3, h4⟩ := h.at_ (by omega)
    injection e with e1 e2 e3
    have hx := List.getElem?_eq_getElem hi
    obtain ⟨u, hu, hcell⟩ := h4 i _ hx
    have := hcell 0 (by decide)
    rw [Nat.add_zero] at this
    exact ⟨g, e1, h2, by rw [this, hnum i _ hx]; rfl⟩
  have R1 := Lib.hid (show ∀ k : Nat, (∀ i, i < k → decide (n ≤ num i) = false) → k ≤ m.ws.length → ∀ i x, i < k → m.ws[i]? = some x → x.n < n from fun k hk hkl i x hi hx => by
    have := hk i hi
    rw [hnum i x hx] at this
    simpa using this)
  have R2 := Lib.hid (show ∀ k : Nat, (∀ i, k ≤ i → i < m.ws.length → decide (n ≤ num i) = true) → ∀ i x, k ≤ i → m.ws[i]? = some x → n ≤ x.n from fun k hk i x hi hx => by
    have := hk i hi (List.getElem?_eq_some_iff.1 hx).1
    rw [hnum i x hx] at this
    simpa using this)
  have R3 := Lib.hid (show ∀ k : Nat, k < m.ws.length → decide (∃ x, m.ws[k]? = some x ∧ x.n = n) = decide ((num k : Int) = (n : Int)) from fun k hk => by
    have hx := List.getElem?_eq_getElem hk
    rw [hx, hnum k _ hx]
    simp
    omega)
  have R4 := Lib.hid (show ∀ k : Nat, k = m.ws.length → decide (∃ x, m.ws[k]? = some x ∧ x.n = n) = false from fun k hk => by
    rw [hk]
    simp)
  have hL := hf.len
  have c4 := h.list
  have hbl := h.is.lt
  obtain ⟨L, hLd⟩ : ∃ L, m.ws.length = L := ⟨_, rfl⟩
  have HLD := Lib.hid hLd
  rw [hLd] at c4 hL hget hmono
  have HG := Lib.hid hget
  have HM := Lib.hid hmono
  clear hget hmono h hf hc hnum hLd
  go_enter Try.func32, Try.ntmps32
  go_upto_region 1 with (fail)
  generalize hw0 : World.alloc (World.alloc _ _) _ = w0
  have P0 := Lib.hid (show Only (fun _ => False) w w0 from by rw [← hw0]; exact ((Only.refl _ w).alloc _).alloc _)
  have b0 : w0.cell? ⟨w.heap.size, 0, none⟩ = some (ptr b) := by rw [← hw0, ((Is.made w _ _).alloc _).cell]; rfl
  have b1 : w0.cell? ⟨w.heap.size + 1, 0, none⟩ = some (.int .u64 (n : Int)) := by
    rw [← hw0]
    have := (Is.made (w.alloc (.cells #[ptr b] 26)) 22 #[.int .u64 (n : Int)]).cell 0
    rw [World.size_alloc] at this
    exact this
  have hsz0 : w0.heap.size = w.heap.size + 2 := by rw [← hw0]; simp
  clear hw0
  obtain ⟨ib, hib⟩ : ∃ k, w.heap.size = k := ⟨_, rfl⟩
  obtain ⟨ibn, hibn⟩ : ∃ k, w.heap.size + 1 = k := ⟨_, rfl⟩
  have HZ := Lib.hid (show ib < w0.heap.size ∧ ibn < w0.heap.size ∧ b < w.heap.size from by omega)
  rw [hibn] at b1 ⊢
  rw [hib] at b0 ⊢
  clear hib hibn
  have d4 : w0.cell? ⟨b, 4, none⟩ = some (.slice A L c) := grown_cell P0.out c4 hbl
  have HS := Lib.hid (search_is #[ptr ib, ptr ibn] L (fun i => decide (n ≤ num i)) w0 hL (fun W i hi hO => by
    obtain ⟨g, rfl, hg, hcell⟩ := HG.out i hi
    have hz := P0.out.size
    exact place1_is b g c L ib ibn (num i) i n W hi (grown_cell hO b0 HZ.out.1) (grown_cell hO b1 HZ.out.2.1) (grown_cell hO d4 (Nat.lt_of_lt_of_le HZ.out.2.2 hz)) (grown_cell (P0.out.trans hO (fun _ _ e => e)) hcell hg))
    (fun i j hij hj hp => by
      have := HM.out i j hij hj
      simp at hp ⊢
      omega))
  have B0 := Lib.hid b0
  have B1 := Lib.hid b1
  have D4 := Lib.hid d4
  clear c4 b1 hbl hsz0
  go_wp2_with fail
  refine HS.out.mono ?_
  rintro e w1 ⟨k, rfl, hkL, hlo, hhi, ho⟩
  have b0' := grown_cell ho B0.out HZ.out.1
  have b1' := grown_cell ho B1.out HZ.out.2.1
  have d4' := grown_cell ho D4.out (Nat.lt_of_lt_of_le HZ.out.2.2 P0.out.size)
  have Q1 := Lib.hid (R1.out k hlo (by rw [HLD.out]; exact hkL))
  have Q2 := Lib.hid (R2.out k (by rw [HLD.out]; exact hhi))
  have OO := Lib.hid (P0.out.trans ho (fun _ _ e => e))
  clear b0 d4 hlo hhi ho HS
  by_cases hk : k < L
  · have hkI : (k : Int) < (L : Int) := by omega
    obtain ⟨g, rfl, hg, hcell⟩ := HG.out k hk
    have e0 := grown_cell OO.out hcell hg
    have Q3 := Lib.hid (R3.out k (by rw [HLD.out]; exact hk))
    clear hcell
    go_wp2
    go_quiet (fail)
    go_wp2
    go_ret2
    exact ⟨k, by rw [Q3.out]; rfl, by rw [HLD.out]; exact hkL, Q1.out, Q2.out, OO.out.drewN _⟩
  · obtain rfl : k = L := by omega
    have Q3 := Lib.hid (R4.out k HLD.out.symm)
    go_wp2
    go_quiet (fail)
    go_wp2
    go_ret2
    exact ⟨k, by rw [Q3.out]; rfl, by rw [HLD.out]; exact hkL, Q1.out, Q2.out, OO.out.drewN _⟩
end Go.Proofs.Ytdcclighccejhaa

/- reorder: a packet copied. Conditions: as each says. -/
set_option linter.unusedVariables false
set_option linter.unusedSimpArgs false
namespace Go.Proofs.Ytdcclighccejhaa
open Go Go.RowKit

/-- Amid copyOf: the copy in the making. -/
structure Cp (cs : Array Value) (ib : Nat) (ob : Nat) (w0 wx : World) : Prop where
  io : Is wx ib 42 cs
  out : Is wx ob 42 zeroPk
  ne : ib ≠ ob
  pure : Only (fun _ => False) w0 wx
theorem Cp.go {cs : Array Value} {ib ob : Nat} {w0 wx wy : World} (h : Cp cs ib ob w0 wx) (ho : Only (fun _ => False) wx wy) : Cp cs ib ob w0 wy := ⟨h.io.only ho (by simp), h.out.only ho (by simp), h.ne, h.pure.trans ho (fun _ _ e => e)⟩
theorem Cp.put {cs : Array Value} {ib ob : Nat} {w0 wx : World} (h : Cp cs ib ob w0 wx) (hob : w0.heap.size ≤ ib) (f : Nat) (v : Value) : Cp (cs.setIfInBounds f v) ib ob w0 (wx.setCell ⟨ib, f, none⟩ v) := by
  have ho : Only (fun k => k = ib) wx (wx.setCell ⟨ib, f, none⟩ v) := Only.set (S := fun k => k = ib) (p := ⟨ib, f, none⟩) (Only.refl _ wx) (fun _ => rfl) v
  exact ⟨h.io.put f v, h.out.only ho (fun e => h.ne e.symm), h.ne, h.pure.trans ho (fun i hi e => by omega)⟩
theorem cp_own {B n : Nat} {U : TypeId} {v : Value} {xs : List Value} {w : World} {ib : Nat} {cs : Array Value} (h : w.ownsRow B U 1 v n xs) (hI : Is w ib 42 cs) (hT : U ≠ 42) (i : Nat) (u : Value) : (w.setCell ⟨ib, i, none⟩ u).ownsRow B U 1 v n xs :=
  owned_only h (Only.set (S := fun k => k = ib) (p := ⟨ib, i, none⟩) (Only.refl _ w) (fun _ => rfl) u) (fun k hk e => owned_off h hI hT (by rw [hk, e]))
/-- What the three clones make. -/
structure Clones (p : Pk) (vc ve vp : Value) (w0 : World) : Prop where
  c : ∀ wx, Only (fun _ => False) w0 wx → Calls Try.prog 46 #[vc] wx (Own32 p.csrc wx)
  e : ∀ wx, Only (fun _ => False) w0 wx → Calls Try.prog 47 #[ve] wx (OwnRow wx.heap.size (cellsOf p.ext) wx)
  p : ∀ wx, Only (fun _ => False) w0 wx → Calls Try.prog 47 #[vp] wx (OwnRow wx.heap.size (cellsOf p.pay) wx)
def ro1_A : List (List Nat) := ([] :: [0] :: [1, 0] :: [] :: [3] :: [4, 2, 3, 1, 0] :: [] :: [6] :: (7 :: 5 :: 6 :: 4 :: 2 :: 3 :: 1 :: 0 :: []) :: [0, 1, 2, 3, 4, 6, 7] :: (9 :: 2 :: 8 :: 0 :: 1 :: 3 :: 4 :: 6 :: 7 :: 5 :: []) :: (0 :: 1 :: 2 :: 3 :: 4 :: 5 :: 6 :: 7 :: 9 :: 10 :: 8 :: []) :: (11 :: 5 :: 10 :: 0 :: 1 :: 2 :: 3 :: 4 :: 6 :: 7 :: 9 :: 8 :: []) :: (0 :: 1 :: 2 :: 3 :: 4 :: 5 :: 6 :: 7 :: 8 :: 9 :: 10 :: 11 :: 12 :: []) :: (13 :: 8 :: 12 :: 0 :: 1 :: 2 :: 3 :: 4 :: 5 :: 6 :: 7 :: 9 :: 10 :: 11 :: []) :: [])
def ro1_kill : List (List Nat) := ([] :: [] :: [] :: [] :: [] :: [] :: [] :: [] :: [] :: [] :: [2] :: [] :: [10, 2, 5] :: [] :: [10, 12, 2, 5, 8] :: [])
def ro1_uses : List (List Nat) := ([] :: [] :: [] :: [] :: [] :: [] :: [] :: [] :: [] :: [] :: [2] :: [] :: [10, 5] :: [] :: [12, 8] :: [])
noncomputable def ro1_code : Code := ((Try.f34.body.bind (codeRegion 1)).getD .skip)
set_option maxRecDepth 100000 in
set_option maxHeartbeats 4000000 in
theorem ro1_in (p : Pk) (vc ve vp : Value) (ib ob : Nat) (w0 : World) (hc : Clones p vc ve vp w0) (hib : w0.heap.size ≤ ib) (u0 u2 u3 u4 u5 u6 u7 u8 u9 u10 u11 u12 u13 u14 u15 : Value) (w : World) (hG : Cp (p.cls vc ve vp) ib ob w0 w) :
    Code.wp Try.prog ro1_code (fun e a w' => ∃ y3 y4 y5 y6 y7 y8 y9 y10 y11 y12 y13 y14 : Value, a = ⟨(List.toArray (u0 :: .pointer (some ⟨ib, 0, none⟩) :: u2 :: y3 :: y4 :: y5 :: y6 :: y7 :: y8 :: y9 :: y10 :: y11 :: y12 :: y13 :: y14 :: u15 :: [])), []⟩ ∧ e = .normal ∧ (∃ Aa ca Ab cb Ac cc, Cp (p.cls (.slice Aa p.csrc.length ca) (.slice Ab p.ext.length cb) (.slice Ac p.pay.length cc)) ib ob w0 w' ∧ w'.ownsRow w0.heap.size 38 1 (.slice Aa p.csrc.length ca) p.csrc.length (cells32 p.csrc) ∧ w'.ownsRow w0.heap.size 5 1 (.slice Ab p.ext.length cb) p.ext.length (cellsOf p.ext) ∧ w'.ownsRow w0.heap.size 5 1 (.slice Ac p.pay.length cc) p.pay.length (cellsOf p.pay))) ⟨(List.toArray (u0 :: .pointer (some ⟨ib, 0, none⟩) :: u2 :: u3 :: u4 :: u5 :: u6 :: u7 :: u8 :: u9 :: u10 :: u11 :: u12 :: u13 :: u14 :: u15 :: [])), []⟩ w := by
  conv => arg 2; whnf
  have HCL := Lib.hid hc
  clear hc
  refine wp_region_posts ro1_A [2, 5, 8, 10, 12, 14] [2, 5, 8, 10, 12, 14] ro1_kill ro1_uses [14] [10] [11, 12, 13, 14] []
      (some ?v0 :: some ?v1 :: none :: some ?v3 :: some ?v4 :: none :: some ?v6 :: some ?v7 :: none :: some ?v9 :: none :: some ?v11 :: none :: some ?v13 :: none :: [])
      ?T (fun wx => Cp (p.cls vc ve vp) ib ob w0 wx) ?W ?E (by kernel_rfl) (by kernel_rfl) (by kernel_rfl) (fun x => ?hT) ?hF ?hini (Reg.all_ops ?runs) ?pres ?fin
  case W => exact fun j x w' => match j with | 2 => ∃ Aa ca, x 2 = (.slice Aa p.csrc.length ca) ∧ w'.ownsRow w0.heap.size 38 1 (.slice Aa p.csrc.length ca) p.csrc.length (cells32 p.csrc) | 5 => ∃ Ab cb, x 5 = (.slice Ab p.ext.length cb) ∧ w'.ownsRow w0.heap.size 5 1 (.slice Ab p.ext.length cb) p.ext.length (cellsOf p.ext) | 8 => ∃ Ac cc, x 8 = (.slice Ac p.pay.length cc) ∧ w'.ownsRow w0.heap.size 5 1 (.slice Ac p.pay.length cc) p.pay.length (cellsOf p.pay) | 10 => ∃ Aa ca, Cp (p.cls (.slice Aa p.csrc.length ca) ve vp) ib ob w0 w' ∧ w'.ownsRow w0.heap.size 38 1 (.slice Aa p.csrc.length ca) p.csrc.length (cells32 p.csrc) | 12 => ∃ Aa ca Ab cb, Cp (p.cls (.slice Aa p.csrc.length ca) (.slice Ab p.ext.length cb) vp) ib ob w0 w' ∧ w'.ownsRow w0.heap.size 38 1 (.slice Aa p.csrc.length ca) p.csrc.length (cells32 p.csrc) ∧ w'.ownsRow w0.heap.size 5 1 (.slice Ab p.ext.length cb) p.ext.length (cellsOf p.ext) | 14 => ∃ Aa ca Ab cb Ac cc, Cp (p.cls (.slice Aa p.csrc.length ca) (.slice Ab p.ext.length cb) (.slice Ac p.pay.length cc)) ib ob w0 w' ∧ w'.ownsRow w0.heap.size 38 1 (.slice Aa p.csrc.length ca) p.csrc.length (cells32 p.csrc) ∧ w'.ownsRow w0.heap.size 5 1 (.slice Ab p.ext.length cb) p.ext.length (cellsOf p.ext) ∧ w'.ownsRow w0.heap.size 5 1 (.slice Ac p.pay.length cc) p.pay.length (cellsOf p.pay) | _ => True
  case E => exact fun i wx wy => match i with | 2 => Only (fun _ => False) wx wy | 5 => Only (fun _ => False) wx wy | 8 => Only (fun _ => False) wx wy | 10 => Only (fun k => k = ib) wx wy ∧ ∃ ds, Is wx ib 42 ds | 12 => Only (fun k => k = ib) wx wy ∧ ∃ ds, Is wx ib 42 ds | 14 => Only (fun k => k = ib) wx wy ∧ ∃ ds, Is wx ib 42 ds | _ => True
  case hT =>
    simp only [Reg.fillV, Act.put, List.setIfInBounds_toArray, List.set_cons_zero, List.set_cons_succ]
    rfl
  case runs =>
    refine And.intro ?_ ?_
    · refine Reg.ob_pure (fun _ => rfl) rfl rfl rfl rfl (fun x w1 hF => ?_)
      have c5 : w1.cell? ⟨ib, 5, none⟩ = some vc := hF.io.cell 5
      have c8 : w1.cell? ⟨ib, 8, none⟩ = some ve := hF.io.cell 8
      have c9 : w1.cell? ⟨ib, 9, none⟩ = some vp := hF.io.cell 9
      go_simp
      with_reducible rfl
    refine And.intro ?_ ?_
    · refine Reg.ob_pure (fun _ => rfl) rfl rfl rfl rfl (fun x w1 hF => ?_)
      have c5 : w1.cell? ⟨ib, 5, none⟩ = some vc := hF.io.cell 5
      have c8 : w1.cell? ⟨ib, 8, none⟩ = some ve := hF.io.cell 8
      have c9 : w1.cell? ⟨ib, 9, none⟩ = some vp := hF.io.cell 9
      go_simp
      with_reducible rfl
    refine And.intro ?_ ?_
    · refine Reg.ob_some (fun _ => rfl) rfl (fun x w1 hF hU K hK => ?_)
      replace hF := hF rfl
      have HT := HCL.out.c w1 hF.pure
      go_simp
      refine HT.mono ?_
      rintro e w5 ⟨v1, rfl, hv, ho⟩
      obtain ⟨A1, c1, rfl, -⟩ := own_slice hv
      exact hK _ w5 (fun _ _ _ => hF.go ho) ho ⟨A1, c1, rfl, owned_low hv hF.pure.size⟩
    refine And.intro ?_ ?_
    · refine Reg.ob_pure (fun _ => rfl) rfl rfl rfl rfl (fun x w1 hF => ?_)
      have c5 : w1.cell? ⟨ib, 5, none⟩ = some vc := hF.io.cell 5
      have c8 : w1.cell? ⟨ib, 8, none⟩ = some ve := hF.io.cell 8
      have c9 : w1.cell? ⟨ib, 9, none⟩ = some vp := hF.io.cell 9
      go_simp
      with_reducible rfl
    refine And.intro ?_ ?_
    · refine Reg.ob_pure (fun _ => rfl) rfl rfl rfl rfl (fun x w1 hF => ?_)
      have c5 : w1.cell? ⟨ib, 5, none⟩ = some vc := hF.io.cell 5
      have c8 : w1.cell? ⟨ib, 8, none⟩ = some ve := hF.io.cell 8
      have c9 : w1.cell? ⟨ib, 9, none⟩ = some vp := hF.io.cell 9
      go_simp
      with_reducible rfl
    refine And.intro ?_ ?_
    · refine Reg.ob_some (fun _ => rfl) rfl (fun x w1 hF hU K hK => ?_)
      replace hF := hF rfl
      have HT := HCL.out.e w1 hF.pure
      go_simp
      refine HT.mono ?_
      rintro e w5 ⟨v1, rfl, hv, ho, -⟩
      rw [length_cellsOf] at hv
      obtain ⟨A1, c1, rfl, -⟩ := own_slice hv
      exact hK _ w5 (fun _ _ _ => hF.go ho) ho ⟨A1, c1, rfl, owned_low hv hF.pure.size⟩
    refine And.intro ?_ ?_
    · refine Reg.ob_pure (fun _ => rfl) rfl rfl rfl rfl (fun x w1 hF => ?_)
      have c5 : w1.cell? ⟨ib, 5, none⟩ = some vc := hF.io.cell 5
      have c8 : w1.cell? ⟨ib, 8, none⟩ = some ve := hF.io.cell 8
      have c9 : w1.cell? ⟨ib, 9, none⟩ = some vp := hF.io.cell 9
      go_simp
      with_reducible rfl
    refine And.intro ?_ ?_
    · refine Reg.ob_pure (fun _ => rfl) rfl rfl rfl rfl (fun x w1 hF => ?_)
      have c5 : w1.cell? ⟨ib, 5, none⟩ = some vc := hF.io.cell 5
      have c8 : w1.cell? ⟨ib, 8, none⟩ = some ve := hF.io.cell 8
      have c9 : w1.cell? ⟨ib, 9, none⟩ = some vp := hF.io.cell 9
      go_simp
      with_reducible rfl
    refine And.intro ?_ ?_
    · refine Reg.ob_some (fun _ => rfl) rfl (fun x w1 hF hU K hK => ?_)
      replace hF := hF rfl
      have HT := HCL.out.p w1 hF.pure
      go_simp
      refine HT.mono ?_
      rintro e w5 ⟨v1, rfl, hv, ho, -⟩
      rw [length_cellsOf] at hv
      obtain ⟨A1, c1, rfl, -⟩ := own_slice hv
      exact hK _ w5 (fun _ _ _ => hF.go ho) ho ⟨A1, c1, rfl, owned_low hv hF.pure.size⟩
    refine And.intro ?_ ?_
    · refine Reg.ob_pure (fun _ => rfl) rfl rfl rfl rfl (fun x w1 hF => ?_)
      have c5 : w1.cell? ⟨ib, 5, none⟩ = some vc := hF.io.cell 5
      have c8 : w1.cell? ⟨ib, 8, none⟩ = some ve := hF.io.cell 8
      have c9 : w1.cell? ⟨ib, 9, none⟩ = some vp := hF.io.cell 9
      go_simp
      with_reducible rfl
    refine And.intro ?_ ?_
    · refine Reg.ob_some (fun _ => rfl) rfl (fun x w1 hF hU K hK => ?_)
      replace hF := hF rfl
      obtain ⟨⟨Aa, ca, hx, hv⟩, -⟩ := hU
      have hCp := hF
      have hx : x 2 = (.slice Aa p.csrc.length ca) := hx
      have hCp : Cp (p.cls vc ve vp) ib ob w0 w1 := hCp
      have ff := hCp.io.free 5
      have cf := hCp.io.cell 5
      have hcf : (p.cls vc ve vp)[5]? = some vc := rfl
      rw [hcf] at cf
      clear hcf
      revert hK
      simp only [Nat.reduceAdd, hx]
      intro hK
      go_simp
      exact hK undef _ (fun _ h h' => by first | exact absurd h (by decide) | exact absurd h' (by decide)) ⟨Only.set (S := fun k => k = ib) (p := ⟨ib, 5, none⟩) (Only.refl _ w1) (fun _ => rfl) _, _, hCp.io⟩ ⟨Aa, ca, hCp.put hib 5 _, cp_own hv hCp.io (by decide) 5 _⟩
    refine And.intro ?_ ?_
    · refine Reg.ob_bare (fun _ => rfl) rfl rfl rfl (fun x w1 => ?_)
      go_simp
      with_reducible rfl
    refine And.intro ?_ ?_
    · refine Reg.ob_some (fun _ => rfl) rfl (fun x w1 hF hU K hK => ?_)
      obtain ⟨⟨Aa, ca, hCp, h0⟩, ⟨Ab, cb, hx, hv⟩, -⟩ := hU
      have hx : x 5 = (.slice Ab p.ext.length cb) := hx
      have hCp : Cp (p.cls (.slice Aa p.csrc.length ca) ve vp) ib ob w0 w1 := hCp
      have ff := hCp.io.free 8
      have cf := hCp.io.cell 8
      have hcf : (p.cls (.slice Aa p.csrc.length ca) ve vp)[8]? = some ve := rfl
      rw [hcf] at cf
      clear hcf
      revert hK
      simp only [Nat.reduceAdd, hx]
      intro hK
      go_simp
      exact hK undef _ (fun _ h h' => by first | exact absurd h (by decide) | exact absurd h' (by decide)) ⟨Only.set (S := fun k => k = ib) (p := ⟨ib, 8, none⟩) (Only.refl _ w1) (fun _ => rfl) _, _, hCp.io⟩ ⟨Aa, ca, Ab, cb, hCp.put hib 8 _, cp_own h0 hCp.io (by decide) 8 _, cp_own hv hCp.io (by decide) 8 _⟩
    refine And.intro ?_ ?_
    · refine Reg.ob_bare (fun _ => rfl) rfl rfl rfl (fun x w1 => ?_)
      go_simp
      with_reducible rfl
    refine And.intro ?_ ?_
    · refine Reg.ob_some (fun _ => rfl) rfl (fun x w1 hF hU K hK => ?_)
      obtain ⟨⟨Aa, ca, Ab, cb, hCp, h0, h1⟩, ⟨Ac, cc, hx, hv⟩, -⟩ := hU
      have hx : x 8 = (.slice Ac p.pay.length cc) := hx
      have hCp : Cp (p.cls (.slice Aa p.csrc.length ca) (.slice Ab p.ext.length cb) vp) ib ob w0 w1 := hCp
      have ff := hCp.io.free 9
      have cf := hCp.io.cell 9
      have hcf : (p.cls (.slice Aa p.csrc.length ca) (.slice Ab p.ext.length cb) vp)[9]? = some vp := rfl
      rw [hcf] at cf
      clear hcf
      revert hK
      simp only [Nat.reduceAdd, hx]
      intro hK
      go_simp
      exact hK undef _ (fun _ h h' => by first | exact absurd h (by decide) | exact absurd h' (by decide)) ⟨Only.set (S := fun k => k = ib) (p := ⟨ib, 9, none⟩) (Only.refl _ w1) (fun _ => rfl) _, _, hCp.io⟩ ⟨Aa, ca, Ab, cb, Ac, cc, hCp.put hib 9 _, cp_own h0 hCp.io (by decide) 9 _, cp_own h1 hCp.io (by decide) 9 _, cp_own hv hCp.io (by decide) 9 _⟩
    exact trivial
  case hF =>
    exact hG.go ((Only.refl _ _).drewN 1)
  case hini =>
    exact trivial
  case pres =>
    intro i hi j hj hc x wx wy hF hE hW
    simp only [List.mem_cons, List.mem_nil_iff, or_false] at hi hj
    rcases hi with rfl | rfl | rfl | rfl | rfl | rfl <;> rcases hj with rfl | rfl | rfl | rfl | rfl | rfl
    all_goals first
      | (exfalso; revert hc; decide)
      | (obtain ⟨A1, c1, h0, h1⟩ := hW; exact ⟨A1, c1, h0, owned_only h1 hE (by simp)⟩)
      | (obtain ⟨h2, ds, h3⟩ := hE; obtain ⟨A1, c1, h0, h1⟩ := hW; exact ⟨A1, c1, h0, owned_only h1 h2 (fun k hk e => owned_off h1 h3 (by decide) (by rw [hk, e]))⟩)
  case fin =>
    rintro x w9 hF hU
    obtain ⟨hQ, -⟩ := hU
    repeat apply Exists.intro
    exact ⟨rfl, rfl, hQ⟩

set_option maxRecDepth 100000 in
set_option maxHeartbeats 4000000 in
theorem ro1 (p : Pk) (vc ve vp : Value) (ib ob : Nat) (w0 : World) (hc : Clones p vc ve vp w0) (hib : w0.heap.size ≤ ib) (u0 u2 u3 u4 u5 u6 u7 u8 u9 u10 u11 u12 u13 u14 u15 : Value) (Q : Exit → Act → World → Prop) (w : World) (hG : Cp (p.cls vc ve vp) ib ob w0 w)
    (hend : ∀ (y3 y4 y5 y6 y7 y8 y9 y10 y11 y12 y13 y14 : Value) (w' : World), (∃ Aa ca Ab cb Ac cc, Cp (p.cls (.slice Aa p.csrc.length ca) (.slice Ab p.ext.length cb) (.slice Ac p.pay.length cc)) ib ob w0 w' ∧ w'.ownsRow w0.heap.size 38 1 (.slice Aa p.csrc.length ca) p.csrc.length (cells32 p.csrc) ∧ w'.ownsRow w0.heap.size 5 1 (.slice Ab p.ext.length cb) p.ext.length (cellsOf p.ext) ∧ w'.ownsRow w0.heap.size 5 1 (.slice Ac p.pay.length cc) p.pay.length (cellsOf p.pay)) → Q .normal ⟨(List.toArray (u0 :: .pointer (some ⟨ib, 0, none⟩) :: u2 :: y3 :: y4 :: y5 :: y6 :: y7 :: y8 :: y9 :: y10 :: y11 :: y12 :: y13 :: y14 :: u15 :: [])), []⟩ w') :
    Code.wp Try.prog ro1_code Q ⟨(List.toArray (u0 :: .pointer (some ⟨ib, 0, none⟩) :: u2 :: u3 :: u4 :: u5 :: u6 :: u7 :: u8 :: u9 :: u10 :: u11 :: u12 :: u13 :: u14 :: u15 :: [])), []⟩ w := by
  refine wp_mono (ro1_in p vc ve vp ib ob w0 hc hib _ _ _ _ _ _ _ _ _ _ _ _ _ _ _ w hG) ?_
  rintro e a w' h
  obtain ⟨y3, h⟩ := h
  obtain ⟨y4, h⟩ := h
  obtain ⟨y5, h⟩ := h
  obtain ⟨y6, h⟩ := h
  obtain ⟨y7, h⟩ := h
  obtain ⟨y8, h⟩ := h
  obtain ⟨y9, h⟩ := h
  obtain ⟨y10, h⟩ := h
  obtain ⟨y11, h⟩ := h
  obtain ⟨y12, h⟩ := h
  obtain ⟨y13, h⟩ := h
  obtain ⟨y14, h⟩ := h
  obtain ⟨h, rfl, hq⟩ := h
  subst h
  exact hend y3 y4 y5 y6 y7 y8 y9 y10 y11 y12 y13 y14 w' hq
set_option maxRecDepth 100000 in
set_option maxHeartbeats 2000000 in
theorem copyof_is (p : Pk) (vc ve vp : Value) (w : World) (hc : Rd .u32 w vc (nats p.csrc)) (hn0 : vc = .slice none 0 0 ∨ ∃ ad n c, vc = .slice (some ad) n c) (he : Src w ve p.ext) (hp : Src w vp p.pay) (hl : p.csrc.length ≤ 1000000 ∧ p.ext.length ≤ 1000000 ∧ p.pay.length ≤ 1000000) :
    Calls Try.prog 34 #[.agg (p.cls vc ve vp)] w (GotCopy p w) := by
  have HCL := Lib.hid (show Clones p vc ve vp w from ⟨fun wx ho => clone32_is vc p.csrc wx (hc.only ho (by simp)) hn0 (by omega), fun wx ho => clone_src ve p.ext wx wx.heap.size (Nat.le_refl _) (he.of_only ho) (by omega), fun wx ho => clone_src vp p.pay wx wx.heap.size (Nat.le_refl _) (hp.of_only ho) (by omega)⟩)
  clear hc he hp hn0 hl
  go_enter Try.func34, Try.ntmps34
  go_upto_region 1 with (fail)
  generalize hw0 : World.alloc (World.alloc _ _) _ = w0
  have HI := Lib.hid (show Is w0 w.heap.size 42 (p.cls vc ve vp) from by rw [← hw0]; exact (Is.made w _ _).alloc _)
  have HO := Lib.hid (show Is w0 (w.heap.size + 1) 42 zeroPk from by rw [← hw0]; have := Is.made (w.alloc (.cells (p.cls vc ve vp) 42)) 42 zeroPk; rw [World.size_alloc] at this; exact this)
  have P0 := Lib.hid (show Only (fun _ => False) w w0 from by rw [← hw0]; exact ((Only.refl _ w).alloc _).alloc _)
  obtain ⟨ib, hib⟩ : ∃ k, w.heap.size = k := ⟨_, rfl⟩
  obtain ⟨ob, hob⟩ : ∃ k, w.heap.size + 1 = k := ⟨_, rfl⟩
  have HB := Lib.hid (show w.heap.size ≤ ib ∧ w.heap.size ≤ ob ∧ ib ≠ ob ∧ ob < w0.heap.size from by have h1 := HO.out.lt; omega)
  rw [hob] at HO ⊢
  rw [hib] at HI ⊢
  clear hw0 hib hob
  refine ro1 p vc ve vp ib ob w HCL.out HB.out.1 _ _ _ _ _ _ _ _ _ _ _ _ _ _ _ _ w0 ⟨HI.out, HO.out, HB.out.2.2.1, P0.out⟩ ?_
  rintro y3 y4 y5 y6 y7 y8 y9 y10 y11 y12 y13 y14 w1 ⟨Aa, ca, Ab, cb, Ac, cc, hCp, hva, hvb, hvc⟩
  have J3 := Lib.hid hCp.io
  have M3 := Lib.hid hCp.out
  have R3 := Lib.hid hCp.pure
  have W1 := Lib.hid hva
  have W2 := Lib.hid hvb
  have W3 := Lib.hid hvc
  clear hCp hva hvb hvc HCL HI HO P0
  have HV := Lib.hid (p.cls_one (vc := .slice Aa p.csrc.length ca) (ve := .slice Ab p.ext.length cb) (vp := .slice Ac p.pay.length cc) ⟨_, _, _, rfl⟩ ⟨_, _, _, rfl⟩ ⟨_, _, _, rfl⟩)
  go_wp2_with (first
    | (refine wpList_load_want rfl _ _ rfl ib rfl _ _ _ J3.out Try.underlying42 rfl Try.sizePq ?_)
    | (refine wpList_store_is (o := ⟨none, _, _, _, _, _⟩) rfl 42 _ _ rfl ob (p.cls (.slice Aa p.csrc.length ca) (.slice Ab p.ext.length cb) (.slice Ac p.pay.length cc)) rfl rfl 42 zeroPk M3.out Try.sizePq rfl HV.out ?_; intro w4 hi4 ho4))
  refine bodyPost_ret (res_one Try.results34 _ w4 ob 42 (p.cls (.slice Aa p.csrc.length ca) (.slice Ab p.ext.length cb) (.slice Ac p.pay.length cc)) _ rfl hi4 Try.underlying42 rfl Try.sizePq) rfl ⟨_, _, _, rfl, ⟨?_, ?_, ?_⟩, R3.out.trans ho4 (fun i hi e => by have := HB.out; omega)⟩
  · exact owned_only W1.out ho4 (fun k hk e => owned_off W1.out M3.out (by decide) (by rw [hk, e]))
  · exact owned_only W2.out ho4 (fun k hk e => owned_off W2.out M3.out (by decide) (by rw [hk, e]))
  · exact owned_only W3.out ho4 (fun k hk e => owned_off W3.out M3.out (by decide) (by rw [hk, e]))
end Go.Proofs.Ytdcclighccejhaa

/- Rows of structs: copy and clear of whole elements; slices.Delete. Conditions: as each says. -/
set_option linter.unusedVariables false
set_option linter.unusedSimpArgs false
namespace Go.Proofs.Ytdcclighccejhaa
open Go Go.RowKit

section
variable {P : Program}
theorem run_copy_wide (w : World) (dT sT ty elem : TypeId) (b o dLen dCap : Nat) (a : Addr) (sLen sCap sz k : Nat) (cs : List Value)
    (hu : P.underlying dT = some (.slice elem)) (hs : (P.info? elem).map (·.size) = some sz) (hk : Nat.min sLen dLen = k) (hn : cs.length = k * sz)
    (hsrc : ∀ j v, cs[j]? = some v → w.cell? (a.add j) = some v) (hc : ∀ j, j < cs.length → (w.cell? ⟨b, o + j, none⟩).isSome = true) (hf : ∀ j, j < cs.length → w.frozen? ⟨b, o + j, none⟩ = false) (h1 : ∀ v ∈ cs, v.oneCell' = true) :
    (Builtin.copy_ #[dT, sT] ty #[.slice (some ⟨b, o, none⟩) dLen dCap, .slice (some a) sLen sCap]).run P w = .ok (goInt k) (w.setCells b o cs) := by
  have hl := run_loadCells_list (P := P) w a cs hsrc
  have hst := run_storeCells_cells (P := P) b o cs 0 w (by simpa using hc) (by simpa using hf) h1
  cases hq : P.info? elem with
  | none => simp [hq] at hs
  | some i =>
    have hi : i.size = sz := by simpa [hq] using hs
    simp [Builtin.copy_, run_underlying hu, Builtin.lenOf, Builtin.firstCells, sizeOf, typeInfo, hq, hi, hk, ← hn, hl, hst]
theorem run_clear_wide (w : World) (t e ty : TypeId) (z : Value) (ht : P.underlying t = some (.slice e)) (hv : ∀ w, (zeroValue e).run P w = .ok z w) (b o n c : Nat) (hn : 0 < n)
    (hc : ∀ j, j < (Builtin.zeroCells z.cells n).toList.length → (w.cell? ⟨b, o + j, none⟩).isSome = true) (hf : ∀ j, j < (Builtin.zeroCells z.cells n).toList.length → w.frozen? ⟨b, o + j, none⟩ = false) (h1 : ∀ v ∈ (Builtin.zeroCells z.cells n).toList, v.oneCell' = true) :
    (Builtin.clear_ #[t] ty #[.slice (some ⟨b, o, none⟩) n c]).run P w = .ok (.tuple #[]) (w.setCells b o (Builtin.zeroCells z.cells n).toList) := by
  have hst := run_storeCells_cells (P := P) b o (Builtin.zeroCells z.cells n).toList 0 w (by simpa using hc) (by simpa using hf) h1
  obtain ⟨m, rfl⟩ : ∃ m, n = m + 1 := ⟨n - 1, by omega⟩
  simp [Builtin.clear_, run_underlying ht, hv, hst]
theorem wpList_copy_of {w : World} {ops : Array Oper} {rest : List Oper} {o : Oper} {a : Act} {Q : Exit → Act → World → Prop} (hgd : o.guard = none) (d s : Operand) (t t' : TypeId)
    (ho : o.op = .call { callee := .builtin .copy, args := #[d, s], argTypes := #[t, t'] }) (v u : Value) (hd : a.eval d = v) (hs : a.eval s = u) {v' : Value} {w' : World}
    (hr : ∀ ty, (Builtin.copy_ #[t, t'] ty #[v, u]).run P w = .ok v' w') (h : wpList P ops Q rest (a.put o.dst v') w') : wpList P ops Q (o :: rest) a w :=
  wpList_plain hgd fun _ hK => by
    unfold Oper.wp execOp
    simp only [ho, resolve, invoke, builtin, Sem.run_bind, Sem.run_pure, Result.andThen_ok, List.map_toArray, List.map_cons, List.map_nil, hd, hs, hr]
    exact hK _ _ h
theorem wpList_clear_of {w : World} {ops : Array Oper} {rest : List Oper} {o : Oper} {a : Act} {Q : Exit → Act → World → Prop} (hgd : o.guard = none) (s : Operand) (t : TypeId)
    (ho : o.op = .call { callee := .builtin .clear, args := #[s], argTypes := #[t] }) (u : Value) (hs : a.eval s = u) {v' : Value} {w' : World}
    (hr : ∀ ty, (Builtin.clear_ #[t] ty #[u]).run P w = .ok v' w') (h : wpList P ops Q rest (a.put o.dst v') w') : wpList P ops Q (o :: rest) a w :=
  wpList_plain hgd fun _ hK => by
    unfold Oper.wp execOp
    simp only [ho, resolve, invoke, builtin, Sem.run_bind, Sem.run_pure, Result.andThen_ok, List.map_toArray, List.map_cons, List.map_nil, hs, hr]
    exact hK _ _ h
end
theorem zeroCells_size (z : Array Value) : ∀ n, (Builtin.zeroCells z n).size = n * z.size := by
  intro n
  simp [Builtin.zeroCells]
def zeroWt : Array Value := #[.int .u64 0, .int .u64 0, .bool false, .int .u8 0, .int .u16 0, .int .u32 0, .int .u32 0, .slice none 0 0, .bool false, .int .u16 0, .slice none 0 0, .slice none 0 0, .int .u8 0]
theorem Try.infoWt : (Try.prog.info? 79).map (fun i => (i.zero, i.size, i.bytes)) = some (some (.agg zeroWt), 13, 120) := by kernel_rfl
theorem sty_wt : Sty 63 79 13 120 := by
  obtain ⟨i0, hi, hz0, hz1, hz2⟩ := info_parts Try.infoWt
  exact ⟨Try.underlying63, ⟨i0, _, hi, hz0, hz1, hz2, rfl⟩, by decide⟩
theorem Try.sizeWt : (Try.prog.info? 79).map (·.size) = some 13 := by kernel_rfl
theorem zeroWt_one : ∀ n, ∀ v ∈ (Builtin.zeroCells zeroWt n).toList, v.oneCell' = true := by
  intro n v hv
  simp only [Builtin.zeroCells, Array.toList_map, List.mem_map, Array.toList_range, List.mem_range] at hv
  obtain ⟨i, _, rfl⟩ := hv
  have : i % zeroWt.size < 13 := Nat.mod_lt _ (by decide)
  generalize i % zeroWt.size = j at *
  have : j = 0 ∨ j = 1 ∨ j = 2 ∨ j = 3 ∨ j = 4 ∨ j = 5 ∨ j = 6 ∨ j = 7 ∨ j = 8 ∨ j = 9 ∨ j = 10 ∨ j = 11 ∨ j = 12 := by omega
  rcases this with rfl | rfl | rfl | rfl | rfl | rfl | rfl | rfl | rfl | rfl | rfl | rfl | rfl <;> rfl
/-- The first elements of a row, as a row of its own in the same block. -/
theorem OwnS.pre {w : World} {B : Nat} {T : TypeId} {sz g n c k : Nat} {xss : List (List Value)} (h : OwnS w B T sz (.slice (some ⟨g, 0, none⟩) n c) xss) (hn : xss.length = n) (hk : k ≤ n) : OwnS w B T sz (.slice (some ⟨g, 0, none⟩) k c) (xss.take k) := by
  rcases h.1.2 with ⟨e, h0⟩ | ⟨g', cap, cur, e, hb, hg, hc, hm, hcs, ht⟩
  · cases e
  · injection e with e1 e2 e3
    injection e1 with e1
    injection e1 with e1
    subst e1 e3
    have hfl := flat_length xss h.2
    have htl : (xss.take k).length = k := by rw [List.length_take]; omega
    have h2 : ∀ xs ∈ xss.take k, xs.length = sz := fun xs hx => h.2 xs (List.mem_of_mem_take hx)
    have hf2 := flat_length (xss.take k) h2
    have hmul : k * sz ≤ xss.length * sz := Nat.mul_le_mul_right _ (by omega)
    have hpre : (xss.take k).flatten = xss.flatten.take (k * sz) := by
      have e0 : xss.flatten = (xss.take k).flatten ++ (xss.drop k).flatten := by rw [← List.flatten_append, List.take_append_drop]
      have hf3 : (xss.take k).flatten.length = k * sz := by rw [hf2, htl]
      rw [e0, List.take_append_of_le_length (by rw [hf3]; exact Nat.le_refl _)]
      exact (List.take_of_length_le (by rw [hf3]; exact Nat.le_refl _)).symm
    refine ⟨⟨hf2, .inr ⟨g, c, cur, by rw [htl], hb, hg, by omega, hm, hcs, ?_⟩⟩, h2⟩
    rw [htl, hpre, ← ht, List.take_take, Nat.min_eq_left hmul]
/-- Cells of a row, from an element on. -/
theorem OwnS.from_ {w : World} {B : Nat} {T : TypeId} {sz g n c k : Nat} {xss : List (List Value)} (h : OwnS w B T sz (.slice (some ⟨g, 0, none⟩) n c) xss) (j : Nat) (u : Value) (hj : ((xss.drop k).flatten)[j]? = some u) : w.cell? ⟨g, k * sz + j, none⟩ = some u := by
  have hkl : k < xss.length := by
    rcases Nat.lt_or_ge k xss.length with h | h
    · exact h
    · rw [List.drop_eq_nil_of_le h] at hj
      simp at hj
  rcases h.1.2 with ⟨e, h0⟩ | ⟨g', cap, cur, e, hb, hg, hc, hm, hcs, ht⟩
  · cases e
  · injection e with e1 e2 e3
    injection e1 with e1
    injection e1 with e1
    subst e1 e3
    have hfl := flat_length xss h.2
    have h2 : ∀ xs ∈ xss.take k, xs.length = sz := fun xs hx => h.2 xs (List.mem_of_mem_take hx)
    have hf2 := flat_length (xss.take k) h2
    rw [show (xss.take k).length = k by rw [List.length_take]; omega] at hf2
    have e0 : xss.flatten = (xss.take k).flatten ++ (xss.drop k).flatten := by rw [← List.flatten_append, List.take_append_drop]
    have hq : xss.flatten[k * sz + j]? = some u := by
      rw [e0, List.getElem?_append_right (by omega), hf2, Nat.add_sub_cancel_left]
      exact hj
    have hlt : k * sz + j < xss.length * sz := by rw [← hfl]; exact (List.getElem?_eq_some_iff.1 hq).1
    rw [cell_of_row w g (k * sz + j) cur T (0, 0) hg, ← hq, ← ht, List.getElem?_take_of_lt hlt]
    simp
/-- The first elements of what is left, when cells behind them are written. -/
theorem own_tail {w : World} {B : Nat} {T : TypeId} {sz g n c : Nat} {xss : List (List Value)} (h : OwnS w B T sz (.slice (some ⟨g, 0, none⟩) n c) xss) (hn : xss.length = n) (vs : List Value) (hv : n * sz + vs.length ≤ c * sz) : OwnS (w.setCells g (n * sz) vs) B T sz (.slice (some ⟨g, 0, none⟩) n c) xss ∧ Only (fun k => k = g) w (w.setCells g (n * sz) vs) := by
  rcases h.1.2 with ⟨e, h0⟩ | ⟨g', cap, cur, e, hb, hg, hc, hm, hcs, ht⟩
  · cases e
  · injection e with e1 e2 e3
    injection e1 with e1
    injection e1 with e1
    subst e1 e3
    refine ⟨⟨⟨h.1.1, .inr ⟨g, c, setA cur (n * sz) vs, by rw [hn], hb, Is.many vs _ _ _ _ hg, hc, hm, by rw [setA_size]; exact hcs, ?_⟩⟩, h.2⟩, Only.many vs _ _ (Only.refl _ w) (fun _ => rfl)⟩
    rw [← ht]
    apply List.ext_getElem?
    intro j
    rw [List.getElem?_take, List.getElem?_take, hn]
    by_cases hj : j < n * sz
    · rw [if_pos hj, if_pos hj, Array.getElem?_toList, Array.getElem?_toList, setA_get vs cur _ j (by omega), if_neg (by omega)]
    · rw [if_neg hj, if_neg hj]
theorem own_is {w : World} {B : Nat} {T : TypeId} {sz g n c : Nat} {xss : List (List Value)} (h : OwnS w B T sz (.slice (some ⟨g, 0, none⟩) n c) xss) : ∃ cur, Is w g T cur ∧ cur.size = c * sz ∧ xss.length ≤ c ∧ c ≤ maxLen ∧ n = xss.length := by
  rcases h.1.2 with ⟨e, h0⟩ | ⟨g', cap, cur, e, hb, hg, hc, hm, hcs, ht⟩
  · cases e
  · injection e with e1 e2 e3
    injection e1 with e1
    injection e1 with e1
    subst e1 e3
    exact ⟨cur, hg, hcs, hc, hm, e2⟩
end Go.Proofs.Ytdcclighccejhaa

/- slices.Delete of packets that wait. Conditions: as each says. -/
set_option linter.unusedVariables false
set_option linter.unusedSimpArgs false
namespace Go.Proofs.Ytdcclighccejhaa
open Go Go.RowKit

/-- The first elements are gone. -/
def Deleted (g m c k B : Nat) (xss : List (List Value)) (w : World) (e : Ending) (w' : World) : Prop :=
  e = .returned (.slice (some ⟨g, 0, none⟩) m c) ∧ OwnS w' B 79 13 (.slice (some ⟨g, 0, none⟩) m c) (xss.drop k) ∧ Only (fun j => j = g) w w'
/-- What an append over the first elements leaves. -/
theorem own_shift {w : World} {B g n c k m : Nat} {xss : List (List Value)} {T : TypeId} {sz : Nat} (h : OwnS w B T sz (.slice (some ⟨g, 0, none⟩) n c) xss) (hn : xss.length = n) (hm : n - k = m) (hkn : k ≤ n) :
    OwnS (w.setCells g 0 (xss.drop k).flatten) B T sz (.slice (some ⟨g, 0, none⟩) m c) (xss.drop k) ∧ Only (fun j => j = g) w (w.setCells g 0 (xss.drop k).flatten) := by
  have h2 : ∀ xs ∈ xss.drop k, xs.length = sz := fun xs hx => h.2 xs (List.mem_of_mem_drop hx)
  have hl : (xss.drop k).length = m := by rw [List.length_drop]; omega
  have hfl := flat_length _ h2
  rw [hl] at hfl
  rcases h.1.2 with ⟨e, h0⟩ | ⟨g', cap, cur, e, hb, hg, hc, hmx, hcs, ht⟩
  · cases e
  · injection e with e1 e2 e3
    injection e1 with e1
    injection e1 with e1
    subst e1 e3
    have hmc : m * sz ≤ c * sz := Nat.mul_le_mul_right _ (by omega)
    refine ⟨⟨⟨by rw [hl]; exact hfl, .inr ⟨g, c, setA cur 0 (xss.drop k).flatten, by rw [hl], hb, Is.many _ _ _ _ _ hg, by omega, hmx, by rw [setA_size]; exact hcs, ?_⟩⟩, h2⟩, Only.many _ _ _ (Only.refl _ w) (fun _ => rfl)⟩
    rw [hl]
    apply List.ext_getElem?
    intro j
    rw [List.getElem?_take, Array.getElem?_toList, setA_get _ cur 0 j (by omega)]
    by_cases hj : j < m * sz
    · rw [if_pos hj, if_pos (by omega), Nat.sub_zero]
    · rw [if_neg hj, List.getElem?_eq_none (by omega)]
set_option maxRecDepth 20000 in
set_option maxHeartbeats 2000000 in
theorem delete_is (g n c k m B : Nat) (xss : List (List Value)) (w : World) (h : OwnS w B 79 13 (.slice (some ⟨g, 0, none⟩) n c) xss) (hn : xss.length = n) (hk : 0 < k) (hkn : k ≤ n) (hm : n - k = m) (h1 : ∀ u ∈ xss.flatten, u.oneCell' = true) :
    Calls Try.prog 41 #[.slice (some ⟨g, 0, none⟩) n c, .int .i64 0, .int .i64 (k : Int)] w (Deleted g m c k B xss w) := by
  obtain ⟨cur, hI, hcs, hxc, hcm, -⟩ := own_is h
  rw [hn] at hxc
  unfold maxLen at hcm
  obtain ⟨i0, z, hi, hz0, hz1, hz2, hz3⟩ := sty_wt.info
  obtain ⟨news, hnews⟩ : ∃ news, (xss.drop k).flatten = news := ⟨_, rfl⟩
  have s1 := Lib.hid (show news.length = m * 13 from by
    rw [← hnews, flat_length _ (fun ys hy => h.2 ys (List.mem_of_mem_drop hy)), List.length_drop, hn, hm])
  have s2 := Lib.hid (show ∀ u ∈ news, u.oneCell' = true from fun u hu => h1 u (by
    rw [show xss.flatten = (xss.take k).flatten ++ (xss.drop k).flatten by rw [← List.flatten_append, List.take_append_drop]]
    rw [← hnews] at hu
    exact List.mem_append_right _ hu))
  have s3 := Lib.hid (show ∀ t, t < news.length → (w.drew.cell? ⟨g, 0 + 0 * 13 + t, none⟩).isSome = true ∧ w.drew.frozen? ⟨g, 0 + 0 * 13 + t, none⟩ = false from fun t ht => by
    rw [s1.out] at ht
    have hmc : m * 13 ≤ c * 13 := Nat.mul_le_mul_right _ (by omega)
    refine ⟨?_, hI.free _⟩
    have := hI.cell (0 + 0 * 13 + t)
    show (w.cell? _).isSome = true
    rw [this, Array.getElem?_eq_getElem (by omega)]
    rfl)
  obtain ⟨A, hA, hsrc⟩ : ∃ A : Addr, (if c = k then some (⟨g, 0, none⟩ : Addr) else some ⟨g, k * 13, none⟩) = some A ∧ (∀ t u, news[t]? = some u → w.drew.cell? (A.add t) = some u) := by
    by_cases hq : c = k
    · refine ⟨⟨g, 0, none⟩, by simp [hq], fun t u hu => ?_⟩
      have h0 : news.length = 0 := by rw [s1.out]; omega
      rw [List.length_eq_zero_iff.1 h0] at hu
      simp at hu
    · refine ⟨⟨g, k * 13, none⟩, by simp [hq], fun t u hu => ?_⟩
      rw [Addr.add_lit]
      rw [← hnews] at hu
      exact h.from_ t u hu
  replace hsrc := Lib.hid hsrc
  obtain ⟨hS, hO⟩ := own_shift (OwnS.only h ((Only.refl (fun _ => False) w).drewN 1) (by simp)) hn hm hkn
  rw [hnews] at hS hO
  obtain ⟨W1, hW1⟩ : ∃ W1, W1 = w.drew.setCells g (0 + 0 * 13) news := ⟨_, rfl⟩
  have hW := Lib.hid hW1
  have S1 := Lib.hid (show OwnS W1 B 79 13 (.slice (some ⟨g, 0, none⟩) m c) (xss.drop k) from by rw [hW1]; exact hS)
  have O1 := Lib.hid (show Only (fun j => j = g) w W1 from by rw [hW1]; exact ((Only.refl _ w).drewN 1).trans hO (fun i _ e => e))
  have hdl : (xss.drop k).length = m := by rw [List.length_drop]; omega
  have hzl : ∀ l, (Builtin.zeroCells zeroWt l).toList.length = l * 13 := fun l => by rw [Array.length_toList, zeroCells_size]; rfl
  obtain ⟨cur1, hI1, hcs1, -, -, -⟩ := own_is S1.out
  have hcl := fun ty => run_clear_wide (P := Try.prog) W1 63 79 ty _ Try.underlying63 Try.zeroValue79 g (m * 13) (n - m) (c - m) (by omega)
    (fun j hj => by
      have hj2 : j < (n - m) * 13 := by rw [← hzl (n - m)]; exact hj
      rw [hI1.cell, Array.getElem?_eq_getElem (by omega)]
      rfl)
    (fun j _ => hI1.free _) (zeroWt_one (n - m))
  have HT := Lib.hid (own_tail S1.out hdl (Builtin.zeroCells zeroWt (n - m)).toList (by rw [hzl]; omega))
  have hb1 : ¬ c = m := by omega
  have hb2 : ¬ (k : Int) = 0 := by omega
  have hb3 : (k : Int) ≤ (n : Int) := by omega
  have hb4 : (m : Int) ≤ (n : Int) := by omega
  have hb5 : (n : Int) ≤ (c : Int) := by omega
  have hb6 : k ≤ c := by omega
  clear hS hO hW1 hI hI1 hcs1 hnews hcs h1 h hdl hzl hcm hz0 hz2 hz3
  go_enter Try.func41, Try.ntmps41
  go_wp2_with fail
  go_region_law (refine step_append_room rfl (.tmp 22) (.tmp 25) 63 rfl 79 i0 13 Try.underlying63 hi hz1 g 0 0 c (by simp [Act.eval, Act.put]) A m (c - k) news (by simp [Act.eval, Act.put, hm, hA]) s1.out hsrc.out s2.out (by omega) s3.out ?_; rw [← hW.out, Nat.zero_add])
  go_wp2
  go_ret
  exact ⟨rfl, HT.out.1, O1.out.trans HT.out.2 (fun i _ e => e)⟩
end Go.Proofs.Ytdcclighccejhaa

/- slices.Insert of a packet that waits: at the end, and amid where there is room. Conditions: as each says. -/
set_option linter.unusedVariables false
set_option linter.unusedSimpArgs false
namespace Go.Proofs.Ytdcclighccejhaa
open Go Go.RowKit

/-- An element is in. -/
def Inserted (v : Value) (i B : Nat) (xss : List (List Value)) (xs : List Value) (w : World) (e : Ending) (w' : World) : Prop :=
  ∃ v', e = .returned v' ∧ OwnS w' B 79 13 v' (xss.take i ++ xs :: xss.drop i) ∧ Only (fun k => v.ownBlock = some k) w w'
theorem step_copy_of {P : Program} {ops : Array Oper} {o : Oper} {a : Act} {w : World} {K : Act → World → Prop} {Q : Exit → Act → World → Prop} {E : Prop}
    (hg : o.guard = none) (d x : Operand) (dT sT : TypeId) (hop : o.op = Op.call { callee := Callee.builtin Builtin.copy, args := #[d, x], argTypes := #[dT, sT] })
    (v u : Value) (hd : a.eval d = v) (hx : a.eval x = u) {v' : Value} {w' : World} (hr : ∀ ty, (Builtin.copy_ #[dT, sT] ty #[v, u]).run P w = .ok v' w') (hK : K (a.put o.dst v') w') :
    if Region.wanted o (yielded ops a.tmps) = true then Oper.wp P o a w K Q else E := by
  have hw : Region.wanted o (yielded ops a.tmps) = true := by simp [Region.wanted, hg]
  rw [if_pos hw]
  unfold Oper.wp
  simp [execOp, hop, resolve, invoke, builtin, hd, hx, hr, Result.andThen]
  exact hK
set_option maxRecDepth 20000 in
set_option maxHeartbeats 1000000 in
theorem insert_end (v : Value) (n gx B : Nat) (xss : List (List Value)) (xs : List Value) (w : World) (h : OwnS w B 79 13 v xss) (hn : xss.length = n) (hI : Is w gx 79 xs.toArray) (hx : xs.length = 13) (h1 : ∀ u ∈ xs, u.oneCell' = true) (hl : n ≤ 1000) (hB : B ≤ w.heap.size) :
    Calls Try.prog 33 #[v, .int .i64 (n : Int), .slice (some ⟨gx, 0, none⟩) 1 1] w (Inserted v n B xss xs w) := by
  obtain ⟨A, c, rfl, hc⟩ := h.slice
  rw [hn] at h hc ⊢
  have H := Lib.hid h
  have HI := Lib.hid hI
  have H1 := Lib.hid h1
  have HN := Lib.hid hn
  have hcI : (n : Int) ≤ (c : Int) := by omega
  clear h hI h1 hn
  by_cases hq : c = n
  · subst hq
    go_enter Try.func33, Try.ntmps33
    go_wp2_with (at_builtin; refine wpList_append_struct _ rfl _ _ sty_wt rfl B (.slice A c c) xss rfl (by have := H.out; exact this) gx xs rfl HI.out hx H1.out (by rw [HN.out]; omega) (by decide) hB ?_; intro v' w1 hown ho)
    go_ret
    exact ⟨_, rfl, by rw [List.take_of_length_le (by rw [HN.out]; omega), List.drop_eq_nil_of_le (by rw [HN.out]; omega)]; exact hown, ho⟩
  · go_enter Try.func33, Try.ntmps33
    go_wp2_with (at_builtin; refine wpList_append_struct _ rfl _ _ sty_wt rfl B (.slice A n c) xss rfl (by have := H.out; exact this) gx xs rfl HI.out hx H1.out (by rw [HN.out]; omega) (by decide) hB ?_; intro v' w1 hown ho)
    go_ret
    exact ⟨_, rfl, by rw [List.take_of_length_le (by rw [HN.out]; omega), List.drop_eq_nil_of_le (by rw [HN.out]; omega)]; exact hown, ho⟩
end Go.Proofs.Ytdcclighccejhaa

/- slices.Insert of a packet that waits: amid, where there is room. Conditions: as each says. -/
set_option linter.unusedVariables false
set_option linter.unusedSimpArgs false
namespace Go.Proofs.Ytdcclighccejhaa
open Go Go.RowKit

theorem ins_cells {cur : Array Value} {P xs D : List Value} {a b sz : Nat} (hP : P.length = a) (hD : D.length = b) (hx : xs.length = sz) (hs : a + sz + b ≤ cur.size) (ht : cur.toList.take a = P) :
    (setA (setA cur (a + sz) D) a xs).toList.take (a + sz + b) = P ++ (xs ++ D) := by
  apply List.ext_getElem?
  intro j
  rw [List.getElem?_take, Array.getElem?_toList]
  by_cases hj : j < a + sz + b
  · rw [if_pos hj, setA_get xs _ a j (by rw [setA_size]; omega)]
    by_cases h1 : j < a
    · rw [if_neg (by omega), setA_get D cur _ j (by omega), if_neg (by omega), List.getElem?_append_left (by omega), ← ht, List.getElem?_take_of_lt h1, Array.getElem?_toList]
    · rw [List.getElem?_append_right (by omega), hP]
      by_cases h2 : j < a + sz
      · rw [if_pos (by omega), List.getElem?_append_left (by omega)]
      · rw [if_neg (by omega), setA_get D cur _ j (by omega), if_pos (by omega), List.getElem?_append_right (by omega), hx, Nat.sub_sub]
  · rw [if_neg hj, List.getElem?_eq_none (by simp; omega)]
theorem flat_part {xss : List (List Value)} {sz i n : Nat} (h2 : ∀ xs ∈ xss, xs.length = sz) (hn : xss.length = n) (hi : i ≤ n) : (xss.take i).flatten.length = i * sz ∧ (xss.drop i).flatten.length = (n - i) * sz ∧ xss.flatten.take (i * sz) = (xss.take i).flatten := by
  have h3 : (xss.take i).flatten.length = i * sz := by
    rw [flat_length _ (fun ys hy => h2 ys (List.mem_of_mem_take hy)), List.length_take, hn, Nat.min_eq_left hi]
  have h4 : (xss.drop i).flatten.length = (n - i) * sz := by
    rw [flat_length _ (fun ys hy => h2 ys (List.mem_of_mem_drop hy)), List.length_drop, hn]
  refine ⟨h3, h4, ?_⟩
  have e0 : xss.flatten = (xss.take i).flatten ++ (xss.drop i).flatten := by rw [← List.flatten_append, List.take_append_drop]
  rw [e0, List.take_append_of_le_length (by rw [h3]; exact Nat.le_refl _)]
  exact List.take_of_length_le (by rw [h3]; exact Nat.le_refl _)
theorem own_ins {w : World} {B g n c i : Nat} {T : TypeId} {sz : Nat} {xss : List (List Value)} {xs : List Value} (h : OwnS w B T sz (.slice (some ⟨g, 0, none⟩) n c) xss) (hn : xss.length = n) (hi : i < n) (hx : xs.length = sz) (hroom : n + 1 ≤ c) :
    OwnS ((w.setCells g ((i + 1) * sz) (xss.drop i).flatten).setCells g (i * sz) xs) B T sz (.slice (some ⟨g, 0, none⟩) (n + 1) c) (xss.take i ++ xs :: xss.drop i) ∧ Only (fun j => j = g) w ((w.setCells g ((i + 1) * sz) (xss.drop i).flatten).setCells g (i * sz) xs) := by
  obtain ⟨hP, hD, hT⟩ := flat_part h.2 hn (Nat.le_of_lt hi)
  have hl : (xss.take i ++ xs :: xss.drop i).length = n + 1 := by rw [List.length_append, List.length_cons, List.length_take, List.length_drop]; omega
  have h2 : ∀ ys ∈ xss.take i ++ xs :: xss.drop i, ys.length = sz := fun ys hy => by
    rcases List.mem_append.1 hy with hy | hy
    · exact h.2 ys (List.mem_of_mem_take hy)
    · rcases List.mem_cons.1 hy with rfl | hy
      · exact hx
      · exact h.2 ys (List.mem_of_mem_drop hy)
  have hfl := flat_length _ h2
  have hff : (xss.take i ++ xs :: xss.drop i).flatten = (xss.take i).flatten ++ (xs ++ (xss.drop i).flatten) := by rw [List.flatten_append, List.flatten_cons]
  rcases h.1.2 with ⟨e, h0⟩ | ⟨g', cap, cur, e, hb, hg, hc, hmx, hcs, ht⟩
  · cases e
  · injection e with e1 e2 e3
    injection e1 with e1
    injection e1 with e1
    subst e1 e3
    have hin : i * sz ≤ xss.length * sz := Nat.mul_le_mul_right _ (by omega)
    have hcm : (n + 1) * sz ≤ c * sz := Nat.mul_le_mul_right _ hroom
    have hsum : (n + 1) * sz = i * sz + sz + (n - i) * sz := by
      rw [show n + 1 = i + 1 + (n - i) by omega, Nat.add_mul, Nat.succ_mul]
    have ht2 : cur.toList.take (i * sz) = (xss.take i).flatten := by rw [← hT, ← ht, List.take_take, Nat.min_eq_left hin]
    rw [Nat.succ_mul i sz]
    refine ⟨⟨⟨hfl, .inr ⟨g, c, setA (setA cur (i * sz + sz) (xss.drop i).flatten) (i * sz) xs, by rw [hl], hb, Is.many _ _ _ _ _ (Is.many _ _ _ _ _ hg), by rw [hl]; exact hroom, hmx, by rw [setA_size, setA_size]; exact hcs, ?_⟩⟩, h2⟩, Only.many _ _ _ (Only.many _ _ _ (Only.refl _ w) (fun _ => rfl)) (fun _ => rfl)⟩
    rw [hl, hff, hsum]
    exact ins_cells hP hD hx (by omega) ht2
set_option maxRecDepth 20000 in
set_option maxHeartbeats 4000000 in
theorem insert_room (g n c i gx B : Nat) (xss : List (List Value)) (xs : List Value) (w : World) (h : OwnS w B 79 13 (.slice (some ⟨g, 0, none⟩) n c) xss) (hn : xss.length = n) (hi : i < n) (hI : Is w gx 79 xs.toArray) (hx : xs.length = 13) (h1 : ∀ u ∈ xs, u.oneCell' = true) (h1s : ∀ u ∈ xss.flatten, u.oneCell' = true) (hne : gx ≠ g) (hroom : n + 1 ≤ c) :
    Calls Try.prog 33 #[.slice (some ⟨g, 0, none⟩) n c, .int .i64 (i : Int), .slice (some ⟨gx, 0, none⟩) 1 1] w (Inserted (.slice (some ⟨g, 0, none⟩) n c) i B xss xs w) := by
  obtain ⟨cur, hG, hcs, hxc, hcm, -⟩ := own_is h
  unfold maxLen at hcm
  obtain ⟨hP, hD, -⟩ := flat_part h.2 hn (Nat.le_of_lt hi)
  have hI1 := hI
  have hsize : ∀ w, (Go.sizeOf 79).run Try.prog w = .ok 13 w := fun w => Try.sizeOf79 w
  have hshA : w.shape? gx = some (79, 13) := by
    have hq : w.heap[gx]? = some (.cells xs.toArray 79 (0, 0)) := hI
    simp [World.shape?, hq, hx]
  have hshB : w.shape? g = some (79, c * 13) := by
    have hq : w.heap[g]? = some (.cells cur 79 (0, 0)) := hG
    simp [World.shape?, hq, hcs]
  have hov : ∀ lb cb, (callFunc 44 #[.slice (some ⟨gx, 0, none⟩) 1 1, .slice (some ⟨g, (i + 1) * 13, none⟩) lb cb]).run Try.prog w = .ok (.value (.bool false)) w := fun lb cb => by
    rw [run_callFunc_extern Try.func44 (by kernel_rfl) (by kernel_rfl) (by kernel_rfl) (e := Extern.SlicesOverlaps.overlaps #[63, 63] #[4]) (by kernel_rfl),
      Lib.run_overlaps_apart w 63 4 79 Try.underlying63 13 hsize ⟨gx, 0, none⟩ ⟨g, (i + 1) * 13, none⟩ 1 1 lb cb hne _ _ 13 (c * 13) hshA hshB (by omega) (hI.free 0) (hI.free 13)]
    rfl
  have hmul : (n + 1) * 13 ≤ c * 13 := Nat.mul_le_mul_right _ hroom
  have hcp1 := Lib.hid (fun ty => run_copy_wide (P := Try.prog) w.drew 63 63 ty 79 g ((i + 1) * 13) (n + 1 - (i + 1)) (c - (i + 1)) ⟨g, i * 13, none⟩ (n + 1 - i) (c - i) 13 (n - i) (xss.drop i).flatten Try.underlying63 Try.sizeWt (by simp only [Nat.min_def]; split <;> omega) hD
    (fun j u hj => by rw [Addr.add_lit]; exact h.from_ j u hj)
    (fun j hj => by
      rw [hD] at hj
      show (w.cell? _).isSome = true
      rw [hG.cell, Array.getElem?_eq_getElem (by omega)]
      rfl)
    (fun j _ => hG.free _)
    (fun u hu => h1s u (by rw [show xss.flatten = (xss.take i).flatten ++ (xss.drop i).flatten by rw [← List.flatten_append, List.take_append_drop]]; exact List.mem_append_right _ hu)))
  have HF := Lib.hid (own_ins (w := w.drew) (OwnS.only h ((Only.refl (fun _ => False) w).drewN 1) (by simp)) hn hi hx hroom)
  obtain ⟨W1, hW1⟩ : ∃ W1, W1 = w.drew.setCells g ((i + 1) * 13) (xss.drop i).flatten := ⟨_, rfl⟩
  have hW := Lib.hid hW1
  have hG1 : Is W1 g 79 (setA cur ((i + 1) * 13) (xss.drop i).flatten) := by rw [hW1]; exact Is.many _ _ _ _ _ hG
  have hX1 : Is W1 gx 79 xs.toArray := by
    rw [hW1]
    exact Is.only (w := w.drew) hI (Only.many (S := fun k => k = g) _ _ _ (Only.refl _ _) (fun _ => rfl)) hne
  have hcp2 := Lib.hid (fun ty => run_copy_wide (P := Try.prog) W1 63 63 ty 79 g (i * 13) (n + 1 - i) (c - i) ⟨gx, 0, none⟩ 1 1 13 1 xs Try.underlying63 Try.sizeWt (by simp only [Nat.min_def]; split <;> omega) (by omega)
    (fun j u hj => by rw [Addr.add_lit, Nat.zero_add, hX1.cell, ← hj]; simp)
    (fun j hj => by
      rw [hG1.cell, Array.getElem?_eq_getElem (by rw [setA_size]; omega)]
      rfl)
    (fun j _ => hG1.free _) h1)
  have hb1 : ¬ c = i + 1 := by omega
  have hb2 : ¬ c = i := by omega
  have hb3 : (i : Int) < (n : Int) := by omega
  have hb4 : (n : Int) + 1 ≤ (c : Int) := by omega
  have hw1 : IntKind.i64.wrap ((i : Int) + 1) = (i : Int) + 1 := by rw [IntKind.wrap_i64]; omega
  have hb5 : (0 : Int) ≤ (i : Int) + 1 := by omega
  have htn : ((i : Int) + 1).toNat = i + 1 := by omega
  have hb6 : (i : Int) ≤ (n : Int) + 1 := by omega
  have hb7 : (i : Int) + 1 ≤ (n : Int) + 1 := by omega
  have hb8 : i ≤ n := by omega
  have hb9 : (i : Int) ≤ (n : Int) := by omega
  clear hW1 hG1 hX1 hI1 hsize hshA hshB hP hD hcs hG h hI h1 h1s hmul
  go_enter Try.func33, Try.ntmps33
  go_wp2_with (simp only [hov])
  go_region_law (refine step_copy_of rfl _ _ 63 63 rfl _ _ (by simp [Act.eval, Act.put]) (by simp [Act.eval, Act.put]) hcp1.out ?_; rw [← hW.out])
  have e2 := hcp2.out
  go_wp2
  go_ret
  have HH := HF.out
  rw [← hW.out] at HH
  exact ⟨_, rfl, HH.1, ((Only.refl _ w).drewN 1).trans HH.2 (fun k _ e => by subst e; rfl)⟩
end Go.Proofs.Ytdcclighccejhaa

/- slices.Insert of a packet that waits: amid, where there is no room; in general. Conditions: as each says. -/
set_option linter.unusedVariables false
set_option linter.unusedSimpArgs false
namespace Go.Proofs.Ytdcclighccejhaa
open Go Go.RowKit

theorem ins_cells2 {cur : Array Value} {P xs D : List Value} {a b sz : Nat} (hP : P.length = a) (hD : D.length = b) (hx : xs.length = sz) (hs : a + sz + b ≤ cur.size) (ht : cur.toList.take a = P) :
    (setA (setA cur a xs) (a + sz) D).toList.take (a + sz + b) = P ++ (xs ++ D) := by
  apply List.ext_getElem?
  intro j
  rw [List.getElem?_take, Array.getElem?_toList]
  by_cases hj : j < a + sz + b
  · rw [if_pos hj, setA_get D _ _ j (by rw [setA_size]; omega)]
    by_cases h1 : j < a
    · rw [if_neg (by omega), setA_get xs cur _ j (by omega), if_neg (by omega), List.getElem?_append_left (by omega), ← ht, List.getElem?_take_of_lt h1, Array.getElem?_toList]
    · rw [List.getElem?_append_right (by omega), hP]
      by_cases h2 : j < a + sz
      · rw [if_neg (by omega), setA_get xs cur _ j (by omega), if_pos (by omega), List.getElem?_append_left (by omega)]
      · rw [if_pos (by omega), List.getElem?_append_right (by omega), hx, Nat.sub_sub]
  · rw [if_neg hj, List.getElem?_eq_none (by simp; omega)]
theorem own_grown {w : World} {B N n G i : Nat} {T : TypeId} {sz : Nat} {xss : List (List Value)} {xs : List Value} {ROW : Array Value} (h2s : ∀ ys ∈ xss, ys.length = sz) (hn : xss.length = n) (hi : i < n) (hx : xs.length = sz) (hR : Is w N T (setA ROW (i * sz) xs)) (hb : B ≤ N) (hGn : n + 1 ≤ G) (hG : G ≤ maxLen)
    (hP : (xss.take i).flatten.length = i * sz) (hD : (xss.drop i).flatten.length = (n - i) * sz) (hs : ROW.size = G * sz) (ht : ROW.toList.take (i * sz) = (xss.take i).flatten) :
    OwnS (w.setCells N ((i + 1) * sz) (xss.drop i).flatten) B T sz (.slice (some ⟨N, 0, none⟩) (n + 1) G) (xss.take i ++ xs :: xss.drop i) := by
  have hl : (xss.take i ++ xs :: xss.drop i).length = n + 1 := by rw [List.length_append, List.length_cons, List.length_take, List.length_drop]; omega
  have h2 : ∀ ys ∈ xss.take i ++ xs :: xss.drop i, ys.length = sz := fun ys hy => by
    rcases List.mem_append.1 hy with hy | hy
    · exact h2s ys (List.mem_of_mem_take hy)
    · rcases List.mem_cons.1 hy with rfl | hy
      · exact hx
      · exact h2s ys (List.mem_of_mem_drop hy)
  have hfl := flat_length _ h2
  have hff : (xss.take i ++ xs :: xss.drop i).flatten = (xss.take i).flatten ++ (xs ++ (xss.drop i).flatten) := by rw [List.flatten_append, List.flatten_cons]
  have hcm : (n + 1) * sz ≤ G * sz := Nat.mul_le_mul_right _ hGn
  have hsum : (n + 1) * sz = i * sz + sz + (n - i) * sz := by
    rw [show n + 1 = i + 1 + (n - i) by omega, Nat.add_mul, Nat.succ_mul]
  rw [Nat.succ_mul i sz]
  refine ⟨⟨hfl, .inr ⟨N, G, setA (setA ROW (i * sz) xs) (i * sz + sz) (xss.drop i).flatten, by rw [hl], hb, Is.many _ _ _ _ _ hR, by rw [hl]; exact hGn, hG, by rw [setA_size, setA_size]; exact hs, ?_⟩⟩, h2⟩
  rw [hl, hff, hsum]
  exact ins_cells2 hP hD hx (by omega) ht
set_option maxRecDepth 20000 in
set_option maxHeartbeats 4000000 in
theorem insert_grow (g n c i gx B : Nat) (xss : List (List Value)) (xs : List Value) (w : World) (h : OwnS w B 79 13 (.slice (some ⟨g, 0, none⟩) n c) xss) (hn : xss.length = n) (hi : i < n) (hI : Is w gx 79 xs.toArray) (hx : xs.length = 13) (h1 : ∀ u ∈ xs, u.oneCell' = true) (h1s : ∀ u ∈ xss.flatten, u.oneCell' = true) (hroom : c < n + 1) (hl : n ≤ 1000) (hB : B ≤ w.heap.size) :
    Calls Try.prog 33 #[.slice (some ⟨g, 0, none⟩) n c, .int .i64 (i : Int), .slice (some ⟨gx, 0, none⟩) 1 1] w (Inserted (.slice (some ⟨g, 0, none⟩) n c) i B xss xs w) := by
  obtain ⟨cur, hG, hcs, hxc, -, -⟩ := own_is h
  obtain ⟨hP, hD, hT⟩ := flat_part h.2 hn (Nat.le_of_lt hi)
  obtain ⟨i0, z, hi0, hz0, hzs, hzb, hz3⟩ := sty_wt.info
  obtain rfl : n = c := by omega
  have hgl : g < w.heap.size := hG.lt
  have hold : (Builtin.firstCells i0.size i (.slice (some ⟨g, 0, none⟩) i n)).run Try.prog w.drew = .ok (xss.take i).flatten.toArray w.drew := by
    rw [hzs]
    exact run_firstCells_some w.drew 13 i ⟨g, 0, none⟩ i n (xss.take i).flatten hP (fun j v hj => by
      rw [Addr.add_lit]
      have hp : OwnS w B 79 13 (.slice (some ⟨g, 0, none⟩) i n) (xss.take i) := h.pre hn (Nat.le_of_lt hi)
      have := hp.from_ (k := 0) j v (by simpa using hj)
      rw [Nat.zero_mul] at this
      exact this)
  have hrz : ∀ ty, (Builtin.append_ #[63, 3] ty #[.slice (some ⟨g, 0, none⟩) i n, .int .i64 ((n : Int) + 1 - (i : Int))]).run Try.prog w =
      .ok (.slice (some ⟨w.heap.size, 0, none⟩) (n + 1) (grownCap w (n + 1) n 79)) (w.drew.alloc (.cells ((xss.take i).flatten.toArray ++ Builtin.zeroCells z.cells (n + 1 - i) ++ Builtin.zeroCells z.cells (grownCap w (n + 1) n 79 - (n + 1))) 79)) := fun ty => by
    have hik : i + (n + 1 - i) = n + 1 := by omega
    have h := Lib.run_append_grow_zeros w 63 3 ty 79 i0 _ .i64 .i64 Try.underlying63 Try.underlying3 hi0 hz0 (some ⟨g, 0, none⟩) i n (xss.take i).flatten hold (n + 1 - i) (by omega) (by omega) (by omega) (by omega) (by rw [hzb]; omega) (by rw [hzb, hik]; exact growslice_fits hroom (by omega))
    rw [hik] at h
    rw [show (n : Int) + 1 - (i : Int) = ((n + 1 - i : Nat) : Int) by omega]
    exact h
  obtain ⟨G, hGd⟩ : ∃ G, G = grownCap w (n + 1) n 79 := ⟨_, rfl⟩
  have hGn : n + 1 ≤ G := by rw [hGd]; exact grownCap_ge w _ _ _
  have hG63 : G ≤ maxLen := by rw [hGd]; exact grownCap_le_maxLen w (n + 1) n 79 (by unfold maxLen; omega)
  rw [← hGd] at hrz
  obtain ⟨ROW, hROW⟩ : ∃ ROW : Array Value, ROW = (xss.take i).flatten.toArray ++ Builtin.zeroCells z.cells (n + 1 - i) ++ Builtin.zeroCells z.cells (G - (n + 1)) := ⟨_, rfl⟩
  rw [← hROW] at hrz
  have hRs : ROW.size = G * 13 := by
    rw [hROW, Array.size_append, Array.size_append, zeroCells_size, zeroCells_size, hz3, List.size_toArray, hP]
    omega
  have hRt : ROW.toList.take (i * 13) = (xss.take i).flatten := by
    rw [hROW, Array.append_assoc, Array.toList_append, List.take_append_of_le_length (by rw [List.toList_toArray, hP]; exact Nat.le_refl _), List.toList_toArray]
    exact List.take_of_length_le (by rw [hP]; exact Nat.le_refl _)
  obtain ⟨N, hN⟩ : ∃ N, N = w.heap.size := ⟨_, rfl⟩
  obtain ⟨W1, hW1⟩ : ∃ W1, W1 = w.drew.alloc (.cells ROW 79) := ⟨_, rfl⟩
  have hR1 : Is W1 N 79 ROW := by rw [hW1, hN]; exact Is.made w.drew _ _
  have hO1 : Only (fun _ => False) w W1 := by rw [hW1]; exact ((Only.refl _ w).drewN 1).alloc _
  rw [← hW1, ← hN] at hrz
  clear hW1
  obtain ⟨W2, hW2⟩ : ∃ W2, W2 = W1.setCells N (i * 13) xs := ⟨_, rfl⟩
  have hX1 : Is W1 gx 79 xs.toArray := hI.only hO1 (by simp)
  have hcpA := fun ty => run_copy_wide (P := Try.prog) W1 63 63 ty 79 N (i * 13) (n + 1 - i) (G - i) ⟨gx, 0, none⟩ 1 1 13 1 xs Try.underlying63 Try.sizeWt (by simp only [Nat.min_def]; split <;> omega) (by omega)
    (fun j u hj => by rw [Addr.add_lit, Nat.zero_add, hX1.cell, ← hj]; simp)
    (fun j hj => by
      rw [hR1.cell, Array.getElem?_eq_getElem (by omega)]
      rfl)
    (fun j _ => hR1.free _) h1
  rw [← hW2] at hcpA
  have hR2 : Is W2 N 79 (setA ROW (i * 13) xs) := by rw [hW2]; exact Is.many _ _ _ _ _ hR1
  have hO2 : Only (fun k => k = N) W1 W2 := by rw [hW2]; exact Only.many _ _ _ (Only.refl _ W1) (fun _ => rfl)
  have hgN : g ≠ N := by omega
  have hcpB := Lib.hid (fun ty => run_copy_wide (P := Try.prog) W2.drew 63 63 ty 79 N ((i + 1) * 13) (n + 1 - (i + 1)) (G - (i + 1)) ⟨g, i * 13, none⟩ (n - i) (n - i) 13 (n - i) (xss.drop i).flatten Try.underlying63 Try.sizeWt (by simp only [Nat.min_def]; split <;> omega) hD
    (fun j u hj => by
      rw [Addr.add_lit]
      exact OwnS.from_ (OwnS.only (OwnS.only h hO1 (by simp)) hO2 (fun k hk e => by simp [Value.ownBlock] at hk; omega)) j u hj)
    (fun j hj => by
      rw [hD] at hj
      show (W2.cell? _).isSome = true
      rw [hR2.cell, Array.getElem?_eq_getElem (by rw [setA_size]; omega)]
      rfl)
    (fun j _ => hR2.free _)
    (fun u hu => h1s u (by rw [show xss.flatten = (xss.take i).flatten ++ (xss.drop i).flatten by rw [← List.flatten_append, List.take_append_drop]]; exact List.mem_append_right _ hu)))
  have HR2 := Lib.hid hR2
  have HO := Lib.hid (show Only (fun _ => False) w W2 from hO1.trans hO2 (fun k hk e => by omega))
  have hb1 : ¬ G = i + 1 := by omega
  have hb2 : ¬ G = i := by omega
  have hb0 : ¬ n = i := by omega
  have hb3 : (i : Int) < (n : Int) := by omega
  have hw1 : IntKind.i64.wrap ((i : Int) + 1) = (i : Int) + 1 := by rw [IntKind.wrap_i64]; omega
  have hb5 : (0 : Int) ≤ (i : Int) + 1 := by omega
  have htn : ((i : Int) + 1).toNat = i + 1 := by omega
  have hb6 : (i : Int) ≤ (n : Int) + 1 := by omega
  have hb7 : (i : Int) + 1 ≤ (n : Int) + 1 := by omega
  have hb8 : i ≤ n := by omega
  have hb9 : (i : Int) ≤ (n : Int) := by omega
  have hG6 : G ≤ 9223372036854775807 := by unfold maxLen at hG63; omega
  have HX := Lib.hid (And.intro hP (And.intro hD (And.intro hRs hRt)))
  have HH := Lib.hid h
  have HG := Lib.hid (show B ≤ N ∧ N = w.heap.size from by omega)
  clear hR2 hO1 hO2 hX1 hR1 hW2 hP hD hT hRs hRt hROW hGd hold hG hcs h hI h1 h1s hz0 hzs hzb hz3 hi0 hgl hgN hB hN
  replace hrz := Lib.hid hrz
  replace hcpA := Lib.hid hcpA
  go_enter Try.func33, Try.ntmps33
  go_upto_region 10 with (at_builtin; refine Lib.wpList_append_run _ rfl _ _ _ _ rfl _ _ rfl rfl _ _ (hrz.out _) ?_)
  have e2 := hcpA.out
  go_wp2_with fail
  clear e2
  go_region_law (refine step_copy_of rfl _ _ 63 63 rfl (.slice (some ⟨N, (i + 1) * 13, none⟩) (n + 1 - (i + 1)) (G - (i + 1))) (.slice (some ⟨g, i * 13, none⟩) (n - i) (n - i)) (by simp [Act.eval, Act.put]) (by simp [Act.eval, Act.put]) hcpB.out ?_)
  go_wp2
  go_ret
  obtain ⟨q1, q2, q3, q4⟩ := HX.out
  have q5 := HG.out
  refine ⟨_, rfl, own_grown (w := W2.drew) HH.out.2 hn hi hx HR2.out q5.1 hGn hG63 q1 q2 q3 q4, ?_⟩
  exact ((HO.out.drewN 1).trans (Only.many (S := fun k => k = N) _ _ _ (Only.refl _ _) (fun _ => rfl)) (fun k hk e => by omega)).mono (fun k _ h => h.elim)
/-- slices.Insert of one packet that waits. -/
theorem insert_is (v : Value) (n i gx B : Nat) (xss : List (List Value)) (xs : List Value) (w : World) (h : OwnS w B 79 13 v xss) (hn : xss.length = n) (hi : i ≤ n) (hI : Is w gx 79 xs.toArray) (hx : xs.length = 13) (h1 : ∀ u ∈ xs, u.oneCell' = true) (h1s : ∀ u ∈ xss.flatten, u.oneCell' = true) (hne : v.ownBlock ≠ some gx) (hl : n ≤ 1000) (hB : B ≤ w.heap.size) :
    Calls Try.prog 33 #[v, .int .i64 (i : Int), .slice (some ⟨gx, 0, none⟩) 1 1] w (Inserted v i B xss xs w) := by
  rcases Nat.lt_or_ge i n with hlt | hge
  · obtain ⟨g, c, e, -, hc, -, -⟩ := h.place (by omega)
    rw [hn] at e hc
    subst e
    have hg : gx ≠ g := fun e => hne (by rw [e]; rfl)
    rcases Nat.lt_or_ge c (n + 1) with hr | hr
    · exact insert_grow g n c i gx B xss xs w h hn hlt hI hx h1 h1s hr hl hB
    · exact insert_room g n c i gx B xss xs w h hn hlt hI hx h1 h1s hg hr
  · obtain rfl : n = i := by omega
    exact insert_end v n gx B xss xs w h hn hI hx h1 hl hB
end Go.Proofs.Ytdcclighccejhaa

/- Rows of numbers of 64 digits: what is appended to nothing. Conditions: as each says. -/
set_option linter.unusedVariables false
namespace Go.Proofs.Ytdcclighccejhaa
open Go.RowKit

theorem length_cells64 (l : List Nat) : (cells64 l).length = l.length := by simp [cells64]
set_option maxRecDepth 100000 in
/-- Numbers are appended to nothing. -/
theorem app64 {o : Oper} {a : Act} {K : Act → World → Prop} {Q : Exit → Act → World → Prop} (w : World) (s x : Operand) (ho : o.op = .call { callee := .builtin .append, args := #[s, x], argTypes := #[49, 49] })
    (B : Nat) (vx : Value) (ns : List Nat) (hs : a.eval s = .slice none 0 0) (hx : a.eval x = vx) (hn0 : vx = .slice none 0 0 ∨ ∃ ad n c, vx = .slice (some ad) n c) (hr : Rd .u64 w vx (nats ns)) (hl : ns.length ≤ 1000000) (hB : B ≤ w.heap.size)
    (h : ∀ A c w', w'.ownsRow B 22 1 (.slice A ns.length c) ns.length (cells64 ns) → Only (fun _ => False) w w' → K (a.put o.dst (.slice A ns.length c)) w') : Oper.wp Try.prog o a w K Q := by
  obtain ⟨i0, hi, hz0, hz1, hz2⟩ := info_parts Try.infoU64
  obtain ⟨A, c, rfl, hc, hh⟩ := hr
  rw [nats_length] at hc hx
  have fin : ∀ v' w', w'.ownsRow B 22 1 v' ns.length (cells64 ns) → Only (fun _ => False) w w' → K (a.put o.dst v') w' := fun v' w' h1 h2 => by
    obtain ⟨A', c', rfl, _⟩ := own_slice h1
    exact h A' c' w' h1 h2
  rcases A with _ | ad
  · have h0 : ns.length = 0 := by
      rcases Nat.eq_zero_or_pos ns.length with e | e
      · exact e
      · obtain ⟨b, o, e1, _⟩ := hh (by rw [nats_length]; exact e)
        cases e1
    obtain rfl := List.eq_nil_of_length_eq_zero h0
    have hrun := run_append_owned_none (P := Try.prog) w B 49 o.type 22 i0 1 Try.underlying49 hi (.slice none 0 0) 0 [] (World.ownsRow_nil w B 22 1)
    obtain rfl : c = 0 := by rcases hn0 with e | ⟨_, _, _, e⟩ <;> cases e; rfl
    unfold Oper.wp
    simp [execOp, ho, resolve, invoke, builtin, hs, hx, hrun, Result.andThen]
    exact fin _ w (World.ownsRow_nil w B 22 1) (Only.refl _ w)
  · have hn : ∀ j u, (cells64 ns)[j]? = some u → w.cell? (ad.add j) = some u := by
      intro j u hu
      have hj : j < ns.length := by rw [← length_cells64]; exact (List.getElem?_eq_some_iff.1 hu).1
      obtain ⟨b, o, e1, hcell⟩ := hh (by rw [nats_length]; omega)
      injection e1 with e1
      subst e1
      have h1 := hcell j (by rw [nats_length]; exact hj)
      rw [add_plain, h1, ← hu]
      simp [cells64, nats, hj]
    exact wp_append_own w s x 49 ho B 22 i0 (.int .u64 0) 1 8 Try.underlying49 hi hz0 hz1 hz2 rfl (by decide) (.slice none 0 0) 0 [] hs (World.ownsRow_nil w B 22 1) ad ns.length c (cells64 ns) hx (by rw [length_cells64, Nat.mul_one]) hn (by simp [cells64, Value.oneCell']) (by unfold maxLen; omega) (by omega) hB
      (fun v' w' h1 h2 _ => fin v' w' (by simpa using h1) ((Only.refl _ w).grown h2 (fun i hi _ => by simp [Value.ownBlock] at hi)))
set_option maxRecDepth 100000 in
/-- A number is appended to an owned row. -/
theorem app64one {o : Oper} {a : Act} {K : Act → World → Prop} {Q : Exit → Act → World → Prop} (w : World) (s x : Operand) (ho : o.op = .call { callee := .builtin .append, args := #[s, x], argTypes := #[49, 49] })
    (B : Nat) (v : Value) (ns : List Nat) (y lb : Nat) (hs : a.eval s = v) (hown : w.ownsRow B 22 1 v ns.length (cells64 ns)) (hx : a.eval x = .slice (some ⟨lb, 0, none⟩) 1 1) (hi1 : Is w lb 22 #[.int .u64 (y : Int)]) (hl : ns.length ≤ 1000000) (hB : B ≤ w.heap.size)
    (h : ∀ A c w', w'.ownsRow B 22 1 (.slice A (ns ++ [y]).length c) (ns ++ [y]).length (cells64 (ns ++ [y])) → Only (fun k => v.ownBlock = some k) w w' → K (a.put o.dst (.slice A (ns ++ [y]).length c)) w') : Oper.wp Try.prog o a w K Q := by
  obtain ⟨i0, hi, hz0, hz1, hz2⟩ := info_parts Try.infoU64
  have fin : ∀ v' w', w'.ownsRow B 22 1 v' (ns ++ [y]).length (cells64 (ns ++ [y])) → Only (fun k => v.ownBlock = some k) w w' → K (a.put o.dst v') w' := fun v' w' h1 h2 => by
    obtain ⟨A', c', rfl, _⟩ := own_slice h1
    exact h A' c' w' h1 h2
  have hn : ∀ j u, (cells64 [y])[j]? = some u → w.cell? ((⟨lb, 0, none⟩ : Addr).add j) = some u := by
    intro j u hu
    have hj : j < 1 := by simpa [cells64] using (List.getElem?_eq_some_iff.1 hu).1
    obtain rfl : j = 0 := by omega
    rw [add_plain, hi1.cell, ← hu]
    rfl
  exact wp_append_own w s x 49 ho B 22 i0 (.int .u64 0) 1 8 Try.underlying49 hi hz0 hz1 hz2 rfl (by decide) v ns.length (cells64 ns) hs hown ⟨lb, 0, none⟩ 1 1 (cells64 [y]) hx (by simp [cells64]) hn (by simp [cells64, Value.oneCell']) (by unfold maxLen; omega) (by omega) hB
    (fun v' w' h1 h2 _ => fin v' w' (by simpa [cells64] using h1) ((Only.refl _ w).grown h2 (fun i hi _ => hi)))
theorem wpList_app64one {ops : Array Oper} {rest : List Oper} {o : Oper} {a : Act} {Q : Exit → Act → World → Prop} (w : World) (hgd : o.guard = none) (s x : Operand) (ho : o.op = .call { callee := .builtin .append, args := #[s, x], argTypes := #[49, 49] })
    (B : Nat) (v : Value) (ns : List Nat) (y lb : Nat) (hs : a.eval s = v) (hown : w.ownsRow B 22 1 v ns.length (cells64 ns)) (hx : a.eval x = .slice (some ⟨lb, 0, none⟩) 1 1) (hi1 : Is w lb 22 #[.int .u64 (y : Int)]) (hl : ns.length ≤ 1000000) (hB : B ≤ w.heap.size)
    (h : ∀ A c w', w'.ownsRow B 22 1 (.slice A (ns ++ [y]).length c) (ns ++ [y]).length (cells64 (ns ++ [y])) → Only (fun k => v.ownBlock = some k) w w' → wpList Try.prog ops Q rest (a.put o.dst (.slice A (ns ++ [y]).length c)) w') : wpList Try.prog ops Q (o :: rest) a w :=
  wpList_plain hgd fun _ hK => app64one w s x ho B v ns y lb hs hown hx hi1 hl hB fun A c w' h1 h2 => hK _ _ (h A c w' h1 h2)
theorem wpList_app64 {ops : Array Oper} {rest : List Oper} {o : Oper} {a : Act} {Q : Exit → Act → World → Prop} (w : World) (hgd : o.guard = none) (s x : Operand) (ho : o.op = .call { callee := .builtin .append, args := #[s, x], argTypes := #[49, 49] })
    (B : Nat) (vx : Value) (ns : List Nat) (hs : a.eval s = .slice none 0 0) (hx : a.eval x = vx) (hn0 : vx = .slice none 0 0 ∨ ∃ ad n c, vx = .slice (some ad) n c) (hr : Rd .u64 w vx (nats ns)) (hl : ns.length ≤ 1000000) (hB : B ≤ w.heap.size)
    (h : ∀ A c w', w'.ownsRow B 22 1 (.slice A ns.length c) ns.length (cells64 ns) → Only (fun _ => False) w w' → wpList Try.prog ops Q rest (a.put o.dst (.slice A ns.length c)) w') : wpList Try.prog ops Q (o :: rest) a w :=
  wpList_plain hgd fun _ hK => app64 w s x ho B vx ns hs hx hn0 hr hl hB fun A c w' h1 h2 => hK _ _ (h A c w' h1 h2)
end Go.Proofs.Ytdcclighccejhaa

/- reorder: Waiting. Conditions: as it says. -/
set_option linter.unusedVariables false
set_option linter.unusedSimpArgs false
namespace Go.Proofs.Ytdcclighccejhaa
open Go Go.RowKit

theorem Wt.cls_one (x : Wt) {B : Nat} {u : V3} {w : World} (h : OwnPk B x.p u.1 u.2.1 u.2.2 w) : ∀ v ∈ x.cls u, v.oneCell' = true := by
  have h1 := x.p.cls_one (own_isSl h.1) (own_isSl h.2.1) (own_isSl h.2.2)
  intro v hv
  rcases List.mem_cons.1 hv with rfl | hv
  · rfl
  · rcases List.mem_cons.1 hv with rfl | hv
    · rfl
    · rw [Array.all_eq_true'] at h1
      exact h1 v (by simpa using hv)
theorem Bfr.cells_one {w : World} {b B : Nat} {m : Bf} {v : Value} {us : List V3} (h : Bfr w b m v us B) : ∀ u ∈ (wtRows m.ws us).flatten, u.oneCell' = true := by
  intro c hc
  obtain ⟨l, hl, hc⟩ := List.mem_flatten.1 hc
  obtain ⟨i, hi⟩ := List.getElem?_of_mem hl
  have hil : i < (wtRows m.ws us).length := (List.getElem?_eq_some_iff.1 hi).1
  rw [wtRows_length h.pks.len] at hil
  have hx := List.getElem?_eq_getElem hil
  have hu := List.getElem?_eq_getElem (show i < us.length by rw [h.pks.len]; exact hil)
  rw [wtRows_get hx hu] at hi
  injection hi with hi
  subst hi
  exact Wt.cls_one _ (h.pks.own i _ _ hx hu) c hc
/-- The numbers of the packets that wait. -/
def Waits (m : Bf) (w : World) (e : Ending) (w' : World) : Prop := ∃ v, e = .returned v ∧ w'.ownsRow w.heap.size 22 1 v m.ws.length (cells64 (m.ws.map Wt.n)) ∧ Only (fun _ => False) w w'
set_option maxRecDepth 20000 in
set_option maxHeartbeats 2000000 in
theorem rwait_is (b : Nat) (m : Bf) (v : Value) (us : List V3) (B : Nat) (w : World) (h : Bfr w b m v us B) (hf : m.Fit) : Calls Try.prog 14 #[ptr b] w (Waits m w) := by
  obtain ⟨A, c, rfl, hc⟩ := h.slice
  have hL := hf.len
  have HB := Lib.hid h
  have c4 := h.list
  have hget : ∀ i, i < m.ws.length → ∃ (g : Nat) (x : Wt) (u : V3), A = some ⟨g, 0, none⟩ ∧ m.ws[i]? = some x ∧ us[i]? = some u ∧ w.rangeAt g (i * 13) (x.cls u) ∧ g < w.heap.size := fun i hi => by
    obtain ⟨g, c', e, h1, h2, h3, h4⟩ := h.at_ (by omega)
    injection e with e1 e2 e3
    have hx := List.getElem?_eq_getElem hi
    obtain ⟨u, hu, hcell⟩ := h4 i _ hx
    exact ⟨g, _, u, e1, hx, hu, fun j z hj => by
      have hjl : j < 13 := by rw [← Wt.cls_length m.ws[i] u]; exact (List.getElem?_eq_some_iff.1 hj).1
      rw [hcell j hjl, hj], h2⟩
  have hone : ∀ (i : Nat) (x : Wt) (u : V3), m.ws[i]? = some x → us[i]? = some u → ∀ v ∈ x.cls u, v.oneCell' = true := fun i x u hx hu => Wt.cls_one x (h.pks.own i x u hx hu)
  obtain ⟨ws, hws⟩ : ∃ ws, m.ws = ws := ⟨_, rfl⟩
  unfold Waits
  rw [hws] at hL hget hone c4 hc ⊢
  obtain ⟨L, hLd⟩ : ∃ L, ws.length = L := ⟨_, rfl⟩
  have HLD := Lib.hid hLd
  rw [hLd] at hL hget c4 hc ⊢
  have HG := Lib.hid hget
  have H1 := Lib.hid hone
  clear hget hone h hf hLd hws HB
  go_enter Try.func14, Try.ntmps14
  go_wp2
  go_loopw [3, 13] (fun s3 s13 wr => ∃ k : Nat, k ≤ L ∧ s13 = .int .i64 (k : Int) ∧ wr.ownsRow w.heap.size 22 1 s3 ((ws.take k).map Wt.n).length (cells64 ((ws.take k).map Wt.n)) ∧ Only (fun _ => False) w wr) (fun s3 s13 _ => L - (intOf s13).toNat)
  case atStart => exact ⟨0, by omega, rfl, World.ownsRow_nil w w.heap.size 22 1, Only.refl _ w⟩
  case round =>
    obtain ⟨k, hk, rfl, hr, ho⟩ := hrel
    have R := Lib.hid hr
    have O := Lib.hid ho
    by_cases hlt : k < L
    · have hltI : (k : Int) < (L : Int) := by omega
      obtain ⟨g, x, u, rfl, hx, hu, hra, hg⟩ := HG.out k hlt
      have RA := Lib.hid (show wr.rangeAt g (k * 13) (x.cls u) from fun j z hj => grown_cell ho (hra j z hj) hg)
      have H2 := Lib.hid (H1.out k x u hx hu)
      clear hr ho hra
      have HV := Lib.hid (show (x.cls u).toArray.all (·.oneCell') = true from all_oneCell_toArray H2.out)
      have hsz : (Try.prog.info? 79).map (·.size) = some (x.cls u).length := by rw [Try.sizeWt]; rfl
      have hsz2 : (Try.prog.info? 79).map (·.size) = some (x.cls u).toArray.size := by rw [Try.sizeWt]; rfl
      have hs3 : zeroWt.size = (x.cls u).toArray.size := rfl
      have hn0 : (x.cls u)[0]? = some (.int .u64 (x.n : Int)) := rfl
      generalize x.cls u = cs at *
      go_upto_region 7 with (first
        | (refine wpList_load_mid rfl 79 _ rfl g (k * 13) rfl cs _ RA.out Try.underlying79 rfl hsz ?_)
        | (refine wpList_store_is (o := ⟨none, _, _, _, _, _⟩) rfl 79 _ _ rfl wr.heap.size cs.toArray rfl rfl 79 _ (Is.made wr _ _) hsz2 hs3 HV.out ?_; intro w4 hi4 ho4))
      have O4 := Lib.hid (((O.out.alloc _).trans ho4 (fun i hi e => by have := O.out.size; omega)).mono (fun _ _ h => h.elim) : Only (fun _ => False) w w4)
      have R4 := Lib.hid (own_only (own_only R.out ((Only.refl (fun _ => False) wr).alloc _) (by simp)) ho4 (fun q hq e => by have := (R.out.lt q hq).2; omega))
      have cN : w4.cell? ⟨wr.heap.size, 0, none⟩ = some (.int .u64 (x.n : Int)) := by rw [hi4.cell, ← hn0]; simp
      have hnx : (ws.take (k + 1)).map Wt.n = (ws.take k).map Wt.n ++ [x.n] := by rw [List.take_add_one, hx]; simp
      have hnl : ((ws.take k).map Wt.n).length ≤ 300 := by rw [List.length_map, List.length_take]; omega
      generalize (ws.take k).map Wt.n = ns at *
      have HNX := Lib.hid hnx
      clear hnx hi4 ho4 RA HV
      go_wp2_with (refine wpList_plain rfl fun _ hK => app64one _ _ _ rfl w.heap.size u3 ns x.n w4.heap.size rfl (own_only R4.out ((Only.refl (fun _ => False) w4).alloc _) (by simp)) rfl (Is.made w4 _ _) (by omega) (by have := (O4.out.alloc (.cells #[.int .u64 (x.n : Int)] 22)).size; exact this) ?_; intro A' c' w6 hown ho6; refine hK _ _ ?_)
      refine ⟨⟨k + 1, by omega, by go_num, ?_, (O4.out.alloc _).trans ho6 (fun i hi e => by have := (R4.out.lt i e).1; omega)⟩, by simp [intOf]; omega⟩
      rw [HNX.out]
      rw [List.length_append] at hown ⊢
      exact hown
    · obtain rfl : k = L := by omega
      go_wp2
      go_ret
      refine ⟨_, rfl, ?_, O.out⟩
      have := R.out
      rw [List.take_of_length_le (by rw [HLD.out]; exact Nat.le_refl _), List.length_map, HLD.out] at this
      exact this
end Go.Proofs.Ytdcclighccejhaa

/- reorder: Tick and Flush, down to the call of leave. Conditions: as each says. -/
set_option linter.unusedVariables false
set_option linter.unusedSimpArgs false
namespace Go.Proofs.Ytdcclighccejhaa
open Go Go.RowKit

/-- Amid Tick. -/
structure Tk (b g L c hold k : Nat) (cs : List Value) (w0 wx : World) : Prop where
  list : wx.cell? ⟨b, 4, none⟩ = some (.slice (some ⟨g, 0, none⟩) L c)
  hold : wx.cell? ⟨b, 1, none⟩ = some (.int .u64 (hold : Int))
  ra : wx.rangeAt g (k * 13) cs
  bl : b < w0.heap.size
  gl : g < w0.heap.size
  pure : Only (fun _ => False) w0 wx
theorem Tk.go {b g L c hold k : Nat} {cs : List Value} {w0 wx wy : World} (h : Tk b g L c hold k cs w0 wx) (ho : Only (fun _ => False) wx wy) : Tk b g L c hold k cs w0 wy :=
  have hs := h.pure.size
  ⟨grown_cell ho h.list (Nat.lt_of_lt_of_le h.bl hs), grown_cell ho h.hold (Nat.lt_of_lt_of_le h.bl hs), fun j z hj => grown_cell ho (h.ra j z hj) (Nat.lt_of_lt_of_le h.gl hs), h.bl, h.gl, h.pure.trans ho (fun _ _ e => e)⟩
/-- How many must go. -/
def mustGo (f : Nat → Bool) : Nat → Nat
  | 0 => 0
  | k + 1 => if f k then mustGo f k else k + 1
def rj4_A : List (List Nat) := ([] :: [0] :: [1, 0] :: [2, 1, 0] :: [3, 2, 1, 0] :: [4, 2, 3, 1, 0] :: [5, 2, 4, 3, 1, 0] :: [2, 1, 0] :: [7, 2, 1, 0] :: (6 :: 8 :: 2 :: 5 :: 4 :: 3 :: 1 :: 0 :: 7 :: []) :: (9 :: 2 :: 6 :: 8 :: 5 :: 4 :: 3 :: 1 :: 0 :: 7 :: []) :: [2, 1, 0] :: (10 :: 11 :: 2 :: 9 :: 6 :: 8 :: 5 :: 4 :: 3 :: 1 :: 0 :: 7 :: []) :: [2, 1, 0] :: [13, 2, 1, 0] :: [14, 2, 13, 1, 0] :: [15, 2, 14, 13, 1, 0] :: (12 :: 16 :: 2 :: 10 :: 11 :: 9 :: 6 :: 8 :: 5 :: 4 :: 3 :: 1 :: 0 :: 7 :: 15 :: 14 :: 13 :: []) :: (2 :: 17 :: 1 :: 0 :: 12 :: 16 :: 10 :: 11 :: 9 :: 6 :: 8 :: 5 :: 4 :: 3 :: 7 :: 15 :: 14 :: 13 :: []) :: [])
def rj4_kill : List (List Nat) := ([] :: [] :: [] :: [] :: [] :: [] :: [] :: [] :: [] :: [] :: [] :: [] :: [] :: [] :: [] :: [] :: [] :: [] :: [] :: [])
def rj4_uses : List (List Nat) := ([] :: [] :: [] :: [] :: [] :: [] :: [] :: [] :: [] :: [] :: [] :: [] :: [] :: [] :: [] :: [] :: [] :: [] :: [] :: [])
noncomputable def rj4_code : Code := ((Try.f13.body.bind (codeRegion 4)).getD .skip)
set_option maxRecDepth 100000 in
set_option maxHeartbeats 4000000 in
theorem rj4_in (b g L c hold k now wv : Nat) (z : Int) (hz : z = (k : Int) + 1) (cs : List Value) (w0 : World) (hk : k < L) (hL : L ≤ 300) (hsz : (Try.prog.info? 79).map (·.size) = some cs.length) (hwt : ∀ w1, Calls Try.prog 30 #[.agg cs.toArray, .int .u64 (now : Int)] w1 (SaysO (.int .u64 (wv : Int)) w1)) (u2 u3 u4 u6 u7 u8 u9 u10 u11 u12 u13 u14 u15 u16 u17 u18 u19 u20 u21 u22 u23 u24 u25 u26 u27 u28 u29 u30 u31 u32 u33 u34 u35 u36 u37 : Value) (w : World) (hG : Tk b g L c hold k cs w0 w) :
    Code.wp Try.prog rj4_code (fun e a w' => ∃ y14 y15 y16 y17 y18 y19 y20 y21 y22 y23 y24 y25 y26 y27 y28 y29 y30 y31 : Value, a = ⟨(List.toArray (.pointer (some ⟨b, 0, none⟩) :: .int .u64 (now : Int) :: u2 :: u3 :: u4 :: .int .i64 z :: u6 :: u7 :: u8 :: u9 :: u10 :: u11 :: u12 :: u13 :: y14 :: y15 :: y16 :: y17 :: y18 :: y19 :: y20 :: y21 :: y22 :: y23 :: y24 :: y25 :: y26 :: y27 :: y28 :: y29 :: y30 :: y31 :: (.bool (decide (wv < hold))) :: u33 :: u34 :: u35 :: u36 :: u37 :: [])), []⟩ ∧ e = .normal ∧ (Tk b g L c hold k cs w0 w')) ⟨(List.toArray (.pointer (some ⟨b, 0, none⟩) :: .int .u64 (now : Int) :: u2 :: u3 :: u4 :: .int .i64 z :: u6 :: u7 :: u8 :: u9 :: u10 :: u11 :: u12 :: u13 :: u14 :: u15 :: u16 :: u17 :: u18 :: u19 :: u20 :: u21 :: u22 :: u23 :: u24 :: u25 :: u26 :: u27 :: u28 :: u29 :: u30 :: u31 :: u32 :: u33 :: u34 :: u35 :: u36 :: u37 :: [])), []⟩ w := by
  conv => arg 2; whnf
  subst hz
  have HWT := Lib.hid hwt
  clear hwt
  have hkI : (k : Int) < (L : Int) := by omega
  have hk0 : (0 : Int) < (k : Int) + 1 := by omega
  have hwk : IntKind.i64.wrap (k : Int) = (k : Int) := by rw [IntKind.wrap_i64]; omega
  have hkp : (0 : Int) ≤ (k : Int) := by omega
  refine wp_region_posts rj4_A [12] [] rj4_kill rj4_uses [] [] [] []
      (some ?v0 :: some (.bool true) :: some (.bool true) :: some ?v3 :: some ?v4 :: some ?v5 :: some ?v6 :: some ?v7 :: some (.int .i64 (k : Int)) :: some ?v9 :: some ((.agg cs.toArray)) :: some ?v11 :: some (.int .u64 (wv : Int)) :: some ?v13 :: some ?v14 :: some ?v15 :: some ?v16 :: some ?v17 :: some ?v18 :: [])
      ?T (fun wx => Tk b g L c hold k cs w0 wx) ?W ?E (by kernel_rfl) (by kernel_rfl) (by kernel_rfl) (fun x => ?hT) ?hF ?hini (Reg.all_ops ?runs) ?pres ?fin
  case W => exact fun j x w' => True
  case E => exact fun i wx wy => Only (fun _ => False) wx wy
  case hT =>
    simp only [Reg.fillV, Act.put, List.setIfInBounds_toArray, List.set_cons_zero, List.set_cons_succ]
    rfl
  case runs =>
    refine And.intro ?_ ?_
    · refine Reg.ob_pure (fun _ => rfl) rfl rfl rfl rfl (fun x w1 hF => ?_)
      have c4 := hF.list
      have c1 := hF.hold
      go_simp
      with_reducible rfl
    refine And.intro ?_ ?_
    · refine Reg.ob_pure (fun _ => rfl) rfl rfl rfl rfl (fun x w1 hF => ?_)
      go_simp
    refine And.intro ?_ ?_
    · refine Reg.ob_pure (fun _ => rfl) rfl rfl rfl rfl (fun x w1 hF => ?_)
      go_simp
    refine And.intro ?_ ?_
    · refine Reg.ob_pure (fun _ => rfl) rfl rfl rfl rfl (fun x w1 hF => ?_)
      have c4 := hF.list
      have c1 := hF.hold
      go_simp
      with_reducible rfl
    refine And.intro ?_ ?_
    · refine Reg.ob_pure (fun _ => rfl) rfl rfl rfl rfl (fun x w1 hF => ?_)
      have c4 := hF.list
      have c1 := hF.hold
      go_simp
      with_reducible rfl
    refine And.intro ?_ ?_
    · refine Reg.ob_pure (fun _ => rfl) rfl rfl rfl rfl (fun x w1 hF => ?_)
      have c4 := hF.list
      have c1 := hF.hold
      go_simp
      with_reducible rfl
    refine And.intro ?_ ?_
    · refine Reg.ob_pure (fun _ => rfl) rfl rfl rfl rfl (fun x w1 hF => ?_)
      have c4 := hF.list
      have c1 := hF.hold
      go_simp
      with_reducible rfl
    refine And.intro ?_ ?_
    · refine Reg.ob_pure (fun _ => rfl) rfl rfl rfl rfl (fun x w1 hF => ?_)
      have c4 := hF.list
      have c1 := hF.hold
      go_simp
      with_reducible rfl
    refine And.intro ?_ ?_
    · refine Reg.ob_pure (fun _ => rfl) rfl rfl rfl rfl (fun x w1 hF => ?_)
      go_simp
    refine And.intro ?_ ?_
    · refine Reg.ob_pure (fun _ => rfl) rfl rfl rfl rfl (fun x w1 hF => ?_)
      have c4 := hF.list
      have c1 := hF.hold
      go_simp
      with_reducible rfl
    refine And.intro ?_ ?_
    · refine Reg.ob_known (fun _ => rfl) rfl rfl (fun x w1 hF hU K hK => ?_)
      refine wp_load_mid 79 _ rfl g (k * 13) rfl cs _ (hF rfl).ra Try.underlying79 rfl hsz ?_
      exact hK w1 (fun h _ _ => absurd h (by decide)) rfl
    refine And.intro ?_ ?_
    · refine Reg.ob_pure (fun _ => rfl) rfl rfl rfl rfl (fun x w1 hF => ?_)
      have c4 := hF.list
      have c1 := hF.hold
      go_simp
      with_reducible rfl
    refine And.intro ?_ ?_
    · refine Reg.ob_known (fun _ => rfl) rfl rfl (fun x w1 hF hU K hK => ?_)
      replace hF := hF rfl
      go_simp
      refine (HWT.out w1).mono ?_
      rintro e w5 ⟨rfl, ho⟩
      exact hK w5 (fun _ _ _ => hF.go ho) ho
    refine And.intro ?_ ?_
    · refine Reg.ob_pure (fun _ => rfl) rfl rfl rfl rfl (fun x w1 hF => ?_)
      have c4 := hF.list
      have c1 := hF.hold
      go_simp
      with_reducible rfl
    refine And.intro ?_ ?_
    · refine Reg.ob_pure (fun _ => rfl) rfl rfl rfl rfl (fun x w1 hF => ?_)
      have c4 := hF.list
      have c1 := hF.hold
      go_simp
      with_reducible rfl
    refine And.intro ?_ ?_
    · refine Reg.ob_pure (fun _ => rfl) rfl rfl rfl rfl (fun x w1 hF => ?_)
      have c4 := hF.list
      have c1 := hF.hold
      go_simp
      with_reducible rfl
    refine And.intro ?_ ?_
    · refine Reg.ob_pure (fun _ => rfl) rfl rfl rfl rfl (fun x w1 hF => ?_)
      have c4 := hF.list
      have c1 := hF.hold
      go_simp
      with_reducible rfl
    refine And.intro ?_ ?_
    · refine Reg.ob_pure (fun _ => rfl) rfl rfl rfl rfl (fun x w1 hF => ?_)
      have c4 := hF.list
      have c1 := hF.hold
      go_simp
      with_reducible rfl
    refine And.intro ?_ ?_
    · refine Reg.ob_pure (fun _ => rfl) rfl rfl rfl rfl (fun x w1 hF => ?_)
      have c4 := hF.list
      have c1 := hF.hold
      go_simp
      with_reducible rfl
    exact trivial
  case hF =>
    exact hG.go ((Only.refl _ _).drewN 1)
  case hini =>
    exact trivial
  case pres =>
    intro i hi j hj
    simp at hj
  case fin =>
    rintro x w9 hF hU
    repeat apply Exists.intro
    exact ⟨rfl, rfl, hF rfl⟩

set_option maxRecDepth 100000 in
set_option maxHeartbeats 4000000 in
theorem rj4 (b g L c hold k now wv : Nat) (z : Int) (hz : z = (k : Int) + 1) (cs : List Value) (w0 : World) (hk : k < L) (hL : L ≤ 300) (hsz : (Try.prog.info? 79).map (·.size) = some cs.length) (hwt : ∀ w1, Calls Try.prog 30 #[.agg cs.toArray, .int .u64 (now : Int)] w1 (SaysO (.int .u64 (wv : Int)) w1)) (u2 u3 u4 u6 u7 u8 u9 u10 u11 u12 u13 u14 u15 u16 u17 u18 u19 u20 u21 u22 u23 u24 u25 u26 u27 u28 u29 u30 u31 u32 u33 u34 u35 u36 u37 : Value) (Q : Exit → Act → World → Prop) (w : World) (hG : Tk b g L c hold k cs w0 w)
    (hend : ∀ (y14 y15 y16 y17 y18 y19 y20 y21 y22 y23 y24 y25 y26 y27 y28 y29 y30 y31 : Value) (w' : World), (Tk b g L c hold k cs w0 w') → Q .normal ⟨(List.toArray (.pointer (some ⟨b, 0, none⟩) :: .int .u64 (now : Int) :: u2 :: u3 :: u4 :: .int .i64 z :: u6 :: u7 :: u8 :: u9 :: u10 :: u11 :: u12 :: u13 :: y14 :: y15 :: y16 :: y17 :: y18 :: y19 :: y20 :: y21 :: y22 :: y23 :: y24 :: y25 :: y26 :: y27 :: y28 :: y29 :: y30 :: y31 :: (.bool (decide (wv < hold))) :: u33 :: u34 :: u35 :: u36 :: u37 :: [])), []⟩ w') :
    Code.wp Try.prog rj4_code Q ⟨(List.toArray (.pointer (some ⟨b, 0, none⟩) :: .int .u64 (now : Int) :: u2 :: u3 :: u4 :: .int .i64 z :: u6 :: u7 :: u8 :: u9 :: u10 :: u11 :: u12 :: u13 :: u14 :: u15 :: u16 :: u17 :: u18 :: u19 :: u20 :: u21 :: u22 :: u23 :: u24 :: u25 :: u26 :: u27 :: u28 :: u29 :: u30 :: u31 :: u32 :: u33 :: u34 :: u35 :: u36 :: u37 :: [])), []⟩ w := by
  refine wp_mono (rj4_in b g L c hold k now wv z hz cs w0 hk hL hsz hwt _ _ _ _ _ _ _ _ _ _ _ _ _ _ _ _ _ _ _ _ _ _ _ _ _ _ _ _ _ _ _ _ _ _ _ w hG) ?_
  rintro e a w' h
  obtain ⟨y14, h⟩ := h
  obtain ⟨y15, h⟩ := h
  obtain ⟨y16, h⟩ := h
  obtain ⟨y17, h⟩ := h
  obtain ⟨y18, h⟩ := h
  obtain ⟨y19, h⟩ := h
  obtain ⟨y20, h⟩ := h
  obtain ⟨y21, h⟩ := h
  obtain ⟨y22, h⟩ := h
  obtain ⟨y23, h⟩ := h
  obtain ⟨y24, h⟩ := h
  obtain ⟨y25, h⟩ := h
  obtain ⟨y26, h⟩ := h
  obtain ⟨y27, h⟩ := h
  obtain ⟨y28, h⟩ := h
  obtain ⟨y29, h⟩ := h
  obtain ⟨y30, h⟩ := h
  obtain ⟨y31, h⟩ := h
  obtain ⟨h, rfl, hq⟩ := h
  subst h
  exact hend y14 y15 y16 y17 y18 y19 y20 y21 y22 y23 y24 y25 y26 y27 y28 y29 y30 y31 w' hq
def rj0_A : List (List Nat) := ([] :: [0] :: [1, 0] :: [2, 1, 0] :: [3, 2, 1, 0] :: [4, 2, 3, 1, 0] :: [5, 2, 4, 3, 1, 0] :: [2, 1, 0] :: [7, 2, 1, 0] :: (6 :: 8 :: 2 :: 5 :: 4 :: 3 :: 1 :: 0 :: 7 :: []) :: (9 :: 2 :: 6 :: 8 :: 5 :: 4 :: 3 :: 1 :: 0 :: 7 :: []) :: [2, 1, 0] :: (10 :: 11 :: 2 :: 9 :: 6 :: 8 :: 5 :: 4 :: 3 :: 1 :: 0 :: 7 :: []) :: [2, 1, 0] :: [13, 2, 1, 0] :: [14, 2, 13, 1, 0] :: [15, 2, 14, 13, 1, 0] :: (12 :: 16 :: 2 :: 10 :: 11 :: 9 :: 6 :: 8 :: 5 :: 4 :: 3 :: 1 :: 0 :: 7 :: 15 :: 14 :: 13 :: []) :: (2 :: 17 :: 1 :: 0 :: 12 :: 16 :: 10 :: 11 :: 9 :: 6 :: 8 :: 5 :: 4 :: 3 :: 7 :: 15 :: 14 :: 13 :: []) :: [])
def rj0_kill : List (List Nat) := ([] :: [] :: [] :: [] :: [] :: [] :: [] :: [] :: [] :: [] :: [] :: [] :: [] :: [] :: [] :: [] :: [] :: [] :: [] :: [])
def rj0_uses : List (List Nat) := ([] :: [] :: [] :: [] :: [] :: [] :: [] :: [] :: [] :: [] :: [] :: [] :: [] :: [] :: [] :: [] :: [] :: [] :: [] :: [])
noncomputable def rj0_code : Code := ((Try.f13.body.bind (codeRegion 4)).getD .skip)
set_option maxRecDepth 100000 in
set_option maxHeartbeats 4000000 in
theorem rj0_in (w0 : World) (k : Nat) (hz : (k : Int) ≤ 0) (u0 u1 u2 u3 u4 u6 u7 u8 u9 u10 u11 u12 u13 u14 u15 u16 u17 u18 u19 u20 u21 u22 u23 u24 u25 u26 u27 u28 u29 u30 u31 u32 u33 u34 u35 u36 u37 : Value) (w : World) (hG : Only (fun _ => False) w0 w) :
    Code.wp Try.prog rj0_code (fun e a w' => ∃ y14 y15 y16 y17 y18 y19 y20 y21 y22 y23 y24 y25 y26 y27 y28 y29 y30 y31 : Value, a = ⟨(List.toArray (u0 :: u1 :: u2 :: u3 :: u4 :: .int .i64 (k : Int) :: u6 :: u7 :: u8 :: u9 :: u10 :: u11 :: u12 :: u13 :: y14 :: y15 :: y16 :: y17 :: y18 :: y19 :: y20 :: y21 :: y22 :: y23 :: y24 :: y25 :: y26 :: y27 :: y28 :: y29 :: y30 :: y31 :: (.bool false) :: u33 :: u34 :: u35 :: u36 :: u37 :: [])), []⟩ ∧ e = .normal ∧ (Only (fun _ => False) w0 w')) ⟨(List.toArray (u0 :: u1 :: u2 :: u3 :: u4 :: .int .i64 (k : Int) :: u6 :: u7 :: u8 :: u9 :: u10 :: u11 :: u12 :: u13 :: u14 :: u15 :: u16 :: u17 :: u18 :: u19 :: u20 :: u21 :: u22 :: u23 :: u24 :: u25 :: u26 :: u27 :: u28 :: u29 :: u30 :: u31 :: u32 :: u33 :: u34 :: u35 :: u36 :: u37 :: [])), []⟩ w := by
  conv => arg 2; whnf
  refine wp_region_posts rj0_A [] [] rj0_kill rj0_uses [] [] [] []
      (some ?v0 :: some (.bool false) :: some (.bool false) :: some undef :: some undef :: some undef :: some undef :: some undef :: some undef :: some undef :: some undef :: some undef :: some undef :: some undef :: some undef :: some undef :: some undef :: some undef :: some ?v18 :: [])
      ?T (fun wx => Only (fun _ => False) w0 wx) ?W ?E (by kernel_rfl) (by kernel_rfl) (by kernel_rfl) (fun x => ?hT) ?hF ?hini (Reg.all_ops ?runs) ?pres ?fin
  case W => exact fun j x w' => True
  case E => exact fun i wx wy => True
  case hT =>
    simp only [Reg.fillV, Act.put, List.setIfInBounds_toArray, List.set_cons_zero, List.set_cons_succ]
    rfl
  case runs =>
    refine And.intro ?_ ?_
    · refine Reg.ob_pure (fun _ => rfl) rfl rfl rfl rfl (fun x w1 hF => ?_)
      go_simp
      with_reducible rfl
    refine And.intro ?_ ?_
    · refine Reg.ob_pure (fun _ => rfl) rfl rfl rfl rfl (fun x w1 hF => ?_)
      go_simp
      omega
    refine And.intro ?_ ?_
    · refine Reg.ob_pure (fun _ => rfl) rfl rfl rfl rfl (fun x w1 hF => ?_)
      go_simp
    refine And.intro ?_ ?_
    · exact Reg.ob_skip (fun _ => rfl) rfl rfl rfl
    refine And.intro ?_ ?_
    · exact Reg.ob_skip (fun _ => rfl) rfl rfl rfl
    refine And.intro ?_ ?_
    · exact Reg.ob_skip (fun _ => rfl) rfl rfl rfl
    refine And.intro ?_ ?_
    · exact Reg.ob_skip (fun _ => rfl) rfl rfl rfl
    refine And.intro ?_ ?_
    · exact Reg.ob_skip (fun _ => rfl) rfl rfl rfl
    refine And.intro ?_ ?_
    · exact Reg.ob_skip (fun _ => rfl) rfl rfl rfl
    refine And.intro ?_ ?_
    · exact Reg.ob_skip (fun _ => rfl) rfl rfl rfl
    refine And.intro ?_ ?_
    · exact Reg.ob_skip (fun _ => rfl) rfl rfl rfl
    refine And.intro ?_ ?_
    · exact Reg.ob_skip (fun _ => rfl) rfl rfl rfl
    refine And.intro ?_ ?_
    · exact Reg.ob_skip (fun _ => rfl) rfl rfl rfl
    refine And.intro ?_ ?_
    · exact Reg.ob_skip (fun _ => rfl) rfl rfl rfl
    refine And.intro ?_ ?_
    · exact Reg.ob_skip (fun _ => rfl) rfl rfl rfl
    refine And.intro ?_ ?_
    · exact Reg.ob_skip (fun _ => rfl) rfl rfl rfl
    refine And.intro ?_ ?_
    · exact Reg.ob_skip (fun _ => rfl) rfl rfl rfl
    refine And.intro ?_ ?_
    · exact Reg.ob_skip (fun _ => rfl) rfl rfl rfl
    refine And.intro ?_ ?_
    · refine Reg.ob_pure (fun _ => rfl) rfl rfl rfl rfl (fun x w1 hF => ?_)
      go_simp
      with_reducible rfl
    exact trivial
  case hF =>
    exact hG.drewN 1
  case hini =>
    exact trivial
  case pres =>
    intro i hi
    simp at hi
  case fin =>
    rintro x w9 hF hU
    repeat apply Exists.intro
    exact ⟨rfl, rfl, hF rfl⟩

set_option maxRecDepth 100000 in
set_option maxHeartbeats 4000000 in
theorem rj0 (w0 : World) (k : Nat) (hz : (k : Int) ≤ 0) (u0 u1 u2 u3 u4 u6 u7 u8 u9 u10 u11 u12 u13 u14 u15 u16 u17 u18 u19 u20 u21 u22 u23 u24 u25 u26 u27 u28 u29 u30 u31 u32 u33 u34 u35 u36 u37 : Value) (Q : Exit → Act → World → Prop) (w : World) (hG : Only (fun _ => False) w0 w)
    (hend : ∀ (y14 y15 y16 y17 y18 y19 y20 y21 y22 y23 y24 y25 y26 y27 y28 y29 y30 y31 : Value) (w' : World), (Only (fun _ => False) w0 w') → Q .normal ⟨(List.toArray (u0 :: u1 :: u2 :: u3 :: u4 :: .int .i64 (k : Int) :: u6 :: u7 :: u8 :: u9 :: u10 :: u11 :: u12 :: u13 :: y14 :: y15 :: y16 :: y17 :: y18 :: y19 :: y20 :: y21 :: y22 :: y23 :: y24 :: y25 :: y26 :: y27 :: y28 :: y29 :: y30 :: y31 :: (.bool false) :: u33 :: u34 :: u35 :: u36 :: u37 :: [])), []⟩ w') :
    Code.wp Try.prog rj0_code Q ⟨(List.toArray (u0 :: u1 :: u2 :: u3 :: u4 :: .int .i64 (k : Int) :: u6 :: u7 :: u8 :: u9 :: u10 :: u11 :: u12 :: u13 :: u14 :: u15 :: u16 :: u17 :: u18 :: u19 :: u20 :: u21 :: u22 :: u23 :: u24 :: u25 :: u26 :: u27 :: u28 :: u29 :: u30 :: u31 :: u32 :: u33 :: u34 :: u35 :: u36 :: u37 :: [])), []⟩ w := by
  refine wp_mono (rj0_in w0 k hz _ _ _ _ _ _ _ _ _ _ _ _ _ _ _ _ _ _ _ _ _ _ _ _ _ _ _ _ _ _ _ _ _ _ _ _ _ w hG) ?_
  rintro e a w' h
  obtain ⟨y14, h⟩ := h
  obtain ⟨y15, h⟩ := h
  obtain ⟨y16, h⟩ := h
  obtain ⟨y17, h⟩ := h
  obtain ⟨y18, h⟩ := h
  obtain ⟨y19, h⟩ := h
  obtain ⟨y20, h⟩ := h
  obtain ⟨y21, h⟩ := h
  obtain ⟨y22, h⟩ := h
  obtain ⟨y23, h⟩ := h
  obtain ⟨y24, h⟩ := h
  obtain ⟨y25, h⟩ := h
  obtain ⟨y26, h⟩ := h
  obtain ⟨y27, h⟩ := h
  obtain ⟨y28, h⟩ := h
  obtain ⟨y29, h⟩ := h
  obtain ⟨y30, h⟩ := h
  obtain ⟨y31, h⟩ := h
  obtain ⟨h, rfl, hq⟩ := h
  subst h
  exact hend y14 y15 y16 y17 y18 y19 y20 y21 y22 y23 y24 y25 y26 y27 y28 y29 y30 y31 w' hq
end Go.Proofs.Ytdcclighccejhaa
