/- reorder: a buffer plainly, and in memory; its small calls. Conditions: as each says. -/
import Derived.Test.YtcjbiiphjahjpaaMkE
import Derived.Test.YtcjbiiphjahjpaaStrW
import Derived.Test.YtcjbiiphjahjpaaBase
set_option linter.unusedVariables false
set_option linter.unusedSimpArgs false
namespace Go.Proofs.Ytcjbiiphjahjpaa
open Go Go.RowKit

/-- What is answered, and nothing that was there is written. -/
def SaysO (v : Value) (w : World) (e : Ending) (w' : World) : Prop := e = .returned v ∧ Only (fun _ => False) w w'
/-- A packet that waits. -/
structure Wt where
  n : Nat
  came : Nat
  p : Pk
/-- A buffer. -/
structure Bf where
  size : Nat
  hold : Nat
  some : Bool
  last : Nat
  ws : List Wt
abbrev V3 := Value × Value × Value
def Wt.cls (x : Wt) (u : V3) : List Value := .int .u64 (x.n : Int) :: .int .u64 (x.came : Int) :: (x.p.cls u.1 u.2.1 u.2.2).toList
theorem Wt.cls_length (x : Wt) (u : V3) : (x.cls u).length = 13 := rfl
def wtRows (ws : List Wt) (us : List V3) : List (List Value) := List.zipWith Wt.cls ws us
theorem wtRows_length {ws : List Wt} {us : List V3} (h : us.length = ws.length) : (wtRows ws us).length = ws.length := by
  simp [wtRows, h]
theorem wtRows_get {ws : List Wt} {us : List V3} {i : Nat} {x : Wt} {u : V3} (hx : ws[i]? = Option.some x) (hu : us[i]? = Option.some u) : (wtRows ws us)[i]? = Option.some (x.cls u) := by
  simp [wtRows, List.getElem?_zipWith, hx, hu]
/-- A block that a packet's rows hold. -/
def Blk (u : V3) (k : Nat) : Prop := u.1.ownBlock = Option.some k ∨ u.2.1.ownBlock = Option.some k ∨ u.2.2.ownBlock = Option.some k
/-- Packets whose rows are their own, no two in one place. -/
structure Pks (w : World) (B : Nat) (ws : List Wt) (us : List V3) : Prop where
  len : us.length = ws.length
  own : ∀ (i : Nat) (x : Wt) (u : V3), ws[i]? = Option.some x → us[i]? = Option.some u → OwnPk B x.p u.1 u.2.1 u.2.2 w
  apart : ∀ (i j : Nat) (a b : V3), i < j → us[i]? = Option.some a → us[j]? = Option.some b → ∀ k, Blk a k → ¬ Blk b k
def bfCells (m : Bf) (v : Value) : Array Value := #[.int .i64 (m.size : Int), .int .u64 (m.hold : Int), .bool m.some, .int .u64 (m.last : Int), v]
/-- A buffer lies there. -/
structure Bfr (w : World) (b : Nat) (m : Bf) (v : Value) (us : List V3) (B : Nat) : Prop where
  is : Is w b 65 (bfCells m v)
  row : OwnS w B 79 13 v (wtRows m.ws us)
  pks : Pks w B m.ws us
section
variable {w w1 : World} {b B : Nat} {m : Bf} {v : Value} {us : List V3}
theorem Bfr.size (h : Bfr w b m v us B) : w.cell? ⟨b, 0, none⟩ = Option.some (.int .i64 (m.size : Int)) := h.is.cell 0
theorem Bfr.hold (h : Bfr w b m v us B) : w.cell? ⟨b, 1, none⟩ = Option.some (.int .u64 (m.hold : Int)) := h.is.cell 1
theorem Bfr.went (h : Bfr w b m v us B) : w.cell? ⟨b, 2, none⟩ = Option.some (.bool m.some) := h.is.cell 2
theorem Bfr.last (h : Bfr w b m v us B) : w.cell? ⟨b, 3, none⟩ = Option.some (.int .u64 (m.last : Int)) := h.is.cell 3
theorem Bfr.list (h : Bfr w b m v us B) : w.cell? ⟨b, 4, none⟩ = Option.some v := h.is.cell 4
theorem OwnPk.only_of {p : Pk} {u : V3} (h : OwnPk B p u.1 u.2.1 u.2.2 w) {S : Nat → Prop} (ho : Only S w w1) (hs : ∀ k, Blk u k → ¬ S k) : OwnPk B p u.1 u.2.1 u.2.2 w1 :=
  ⟨own_only h.1 ho (fun k hk => hs k (.inl hk)), own_only h.2.1 ho (fun k hk => hs k (.inr (.inl hk))), own_only h.2.2 ho (fun k hk => hs k (.inr (.inr hk)))⟩
theorem Pks.only {ws : List Wt} (h : Pks w B ws us) {S : Nat → Prop} (ho : Only S w w1) (hs : ∀ u ∈ us, ∀ k, Blk u k → ¬ S k) : Pks w1 B ws us :=
  ⟨h.len, fun i x u hx hu => (h.own i x u hx hu).only_of ho (hs u (List.mem_of_getElem? hu)), h.apart⟩
theorem Bfr.only (h : Bfr w b m v us B) {S : Nat → Prop} (ho : Only S w w1) (hb : ¬ S b) (hv : ∀ k, v.ownBlock = Option.some k → ¬ S k) (hs : ∀ u ∈ us, ∀ k, Blk u k → ¬ S k) : Bfr w1 b m v us B :=
  ⟨h.is.only ho hb, h.row.only ho hv, h.pks.only ho hs⟩
theorem Bfr.pure (h : Bfr w b m v us B) (ho : Only (fun _ => False) w w1) : Bfr w1 b m v us B := h.only ho (by simp) (by simp) (by simp)
theorem Bfr.slice (h : Bfr w b m v us B) : ∃ A c, v = .slice A m.ws.length c ∧ m.ws.length ≤ c := by
  obtain ⟨A, c, e, hc⟩ := h.row.slice
  rw [wtRows_length h.pks.len] at e hc
  exact ⟨A, c, e, hc⟩
/-- Where a packet that waits lies. -/
theorem Bfr.at_ (h : Bfr w b m v us B) (hp : 0 < m.ws.length) : ∃ g c, v = .slice (Option.some ⟨g, 0, none⟩) m.ws.length c ∧ m.ws.length ≤ c ∧ g < w.heap.size ∧ B ≤ g ∧
    ∀ i x, m.ws[i]? = Option.some x → ∃ u, us[i]? = Option.some u ∧ ∀ j, j < 13 → w.cell? ⟨g, i * 13 + j, none⟩ = (x.cls u)[j]? := by
  obtain ⟨g, c, e, h1, h2, h3, h4⟩ := h.row.at_ (by rw [wtRows_length h.pks.len]; exact hp)
  rw [wtRows_length h.pks.len] at e h1
  refine ⟨g, c, e, h1, h2, h3, fun i x hx => ?_⟩
  have hi : i < us.length := by rw [h.pks.len]; exact (List.getElem?_eq_some_iff.1 hx).1
  have hu := List.getElem?_eq_getElem hi
  exact ⟨us[i], hu, fun j hj => h4 i j _ (wtRows_get hx hu) hj⟩
end
/-- What is right of a buffer. -/
structure Bf.Fit (m : Bf) : Prop where
  one : 1 ≤ m.size
  le : m.size ≤ 256
  hold : m.hold < 18446744073709551616
  last : m.last < 18446744073709551616
  len : m.ws.length ≤ 300
  nums : ∀ x ∈ m.ws, x.n < 18446744073709551616 ∧ x.came < 18446744073709551616
  rise : ∀ (i j : Nat) (x y : Wt), i < j → m.ws[i]? = Option.some x → m.ws[j]? = Option.some y → x.n < y.n

set_option maxHeartbeats 400000 in
theorem takes_nil (w : World) : Calls Try.prog 29 #[.pointer none] w fun e w' => e = .returned (.bool false) ∧ w = w' := by
  go_enter Try.func29, Try.ntmps29
  go_wp2
  go_ret
  exact ⟨rfl, rfl⟩
set_option maxHeartbeats 400000 in
theorem takes_is (b : Nat) (m : Bf) (v : Value) (us : List V3) (B : Nat) (w : World) (h : Bfr w b m v us B) (hf : m.Fit) : Calls Try.prog 29 #[ptr b] w fun e w' => e = .returned (.bool true) ∧ w = w' := by
  have c0 := h.size
  have h1 := hf.one
  generalize m.size = s at *
  clear h hf
  go_enter Try.func29, Try.ntmps29
  go_wp2
  go_ret
  exact ⟨by simp; omega, rfl⟩
set_option maxHeartbeats 400000 in
theorem rin_nil (n now : Nat) (x : Value) (w : World) (hx : ∃ cs : Array Value, x = .agg cs ∧ cs.size = 11) : Calls Try.prog 16 #[.pointer none, .int .u64 (n : Int), x, .int .u64 (now : Int)] w (SaysO (.tuple #[.slice none 0 0, .bool false]) w) := by
  obtain ⟨cs, rfl, hx⟩ := hx
  go_enter Try.func16, Try.ntmps16
  go_wp2_with fail
  refine (takes_nil _).mono ?_
  rintro e w1 ⟨rfl, rfl⟩
  go_wp2
  go_ret2
  exact ⟨rfl, (Only.refl _ w).alloc _⟩
set_option maxHeartbeats 400000 in
theorem rtick_nil (now : Nat) (w : World) : Calls Try.prog 13 #[.pointer none, .int .u64 (now : Int)] w (SaysO (.slice none 0 0) w) := by
  go_enter Try.func13, Try.ntmps13
  go_wp2_with fail
  refine (takes_nil _).mono ?_
  rintro e w1 ⟨rfl, rfl⟩
  go_wp2
  go_ret
  exact ⟨rfl, Only.refl _ w⟩
set_option maxHeartbeats 400000 in
theorem rflush_nil (w : World) : Calls Try.prog 15 #[.pointer none] w (SaysO (.slice none 0 0) w) := by
  go_enter Try.func15, Try.ntmps15
  go_wp2_with fail
  refine (takes_nil _).mono ?_
  rintro e w1 ⟨rfl, rfl⟩
  go_wp2
  go_ret
  exact ⟨rfl, Only.refl _ w⟩
set_option maxHeartbeats 400000 in
theorem rnext_nil (w : World) : Calls Try.prog 18 #[.pointer none] w (SaysO (.tuple #[.int .u64 0, .bool false]) w) := by
  go_enter Try.func18, Try.ntmps18
  go_wp2
  go_ret2
  exact ⟨rfl, Only.refl _ w⟩
set_option maxHeartbeats 400000 in
theorem rwait_nil (w : World) : Calls Try.prog 14 #[.pointer none] w (SaysO (.slice none 0 0) w) := by
  go_enter Try.func14, Try.ntmps14
  go_wp2
  go_ret
  exact ⟨rfl, Only.refl _ w⟩
/-- A new buffer. -/
def Bf.new (s h : Nat) : Bf := ⟨s, h, false, 0, []⟩
theorem Bf.Fit.new {s h : Nat} (h1 : 1 ≤ s) (h2 : s ≤ 256) (h3 : h < 18446744073709551616) : (Bf.new s h).Fit :=
  ⟨h1, h2, h3, by simp [Bf.new], by simp [Bf.new], by simp [Bf.new], fun i j x y _ hx => by simp [Bf.new] at hx⟩
def Made (s : Int) (h : Nat) (w : World) (e : Ending) (w' : World) : Prop :=
  ∃ b, e = .returned (.tuple #[ptr b, .int .i64 0]) ∧ Bfr w' b (Bf.new s.toNat h) (.slice none 0 0) [] w.heap.size ∧ b = w.heap.size ∧ Only (fun _ => False) w w'
set_option maxHeartbeats 400000 in
theorem new_no (s : Int) (h : Nat) (w : World) (hs : s < 1 ∨ 256 < s) : Calls Try.prog 9 #[.int .i64 s, .int .u64 (h : Int)] w (SaysO (.tuple #[.pointer none, .int .i64 2]) w) := by
  rcases Int.lt_or_le s 1 with h1 | h1
  · clear hs
    go_enter Try.func9, Try.ntmps9
    go_wp2
    go_ret2
    exact ⟨rfl, Only.refl _ w⟩
  · have h2 : 256 < s := by omega
    clear hs
    go_enter Try.func9, Try.ntmps9
    go_wp2
    go_ret2
    exact ⟨rfl, Only.refl _ w⟩
set_option maxHeartbeats 400000 in
theorem new_yes (s h : Nat) (w : World) (h1 : 1 ≤ s) (h2 : s ≤ 256) : Calls Try.prog 9 #[.int .i64 (s : Int), .int .u64 (h : Int)] w (Made s h w) := by
  go_enter Try.func9, Try.ntmps9
  go_wp2
  go_ret2
  exact ⟨_, rfl, ⟨Is.made w _ _, OwnS.nil _ _ _ _, ⟨rfl, by simp, by simp⟩⟩, rfl, (Only.refl _ w).alloc _⟩
set_option maxHeartbeats 400000 in
theorem rnext_is (b : Nat) (m : Bf) (v : Value) (us : List V3) (B : Nat) (w : World) (h : Bfr w b m v us B) (hl : m.some = true → m.last + 1 < 18446744073709551616) : Calls Try.prog 18 #[ptr b] w (SaysO (.tuple #[.int .u64 ((if m.some then m.last + 1 else 0 : Nat) : Int), .bool m.some]) w) := by
  have c2 := h.went
  have c3 := h.last
  generalize m.last = l at *
  generalize m.some = s at *
  clear h
  cases s
  · go_enter Try.func18, Try.ntmps18
    go_wp2
    go_ret2
    exact ⟨rfl, Only.refl _ w⟩
  · have e1 : IntKind.u64.wrap ((l : Int) + 1) = ((l + 1 : Nat) : Int) := by have := hl rfl; rw [IntKind.wrap_u64]; omega
    clear hl
    go_enter Try.func18, Try.ntmps18
    go_wp2
    go_ret2
    exact ⟨by simp, Only.refl _ w⟩
/-- How long it has waited. -/
def Wt.waits (x : Wt) (now : Nat) : Nat := max now x.came - x.came
set_option maxHeartbeats 400000 in
theorem waited_is (x : Wt) (u : V3) (now : Nat) (w : World) (hc : x.came < 18446744073709551616) (hn : now < 18446744073709551616) : Calls Try.prog 30 #[.agg (x.cls u).toArray, .int .u64 (now : Int)] w (SaysO (.int .u64 (x.waits now : Int)) w) := by
  have E2 := Lib.hid (show x.came ≤ now → IntKind.u64.wrap ((now : Int) - (x.came : Int)) = ((x.waits now : Nat) : Int) from fun h => by unfold Wt.waits; rw [IntKind.wrap_u64, Nat.max_eq_left h]; omega)
  have E1 := Lib.hid (show now ≤ x.came → x.waits now = 0 from fun h => by unfold Wt.waits; rw [Nat.max_eq_right h]; omega)
  generalize x.waits now = r at *
  have hsz : (x.cls u).toArray[1]? = some (.int .u64 (x.came : Int)) := rfl
  obtain ⟨cs, hcs⟩ : ∃ cs, (x.cls u).toArray = cs := ⟨_, rfl⟩
  have hs13 : cs.size = 13 := by rw [← hcs]; rfl
  rw [hcs] at hsz ⊢
  generalize x.came = c at *
  clear hcs hc hn
  have H1 := Lib.hid (fun (o : Obj) (ho : o = .cells cs 79) => show (w.alloc o).cell? ⟨w.heap.size, 1, none⟩ = some (.int .u64 (c : Int)) from by rw [ho, (Is.made w _ _).cell]; exact hsz)
  have c1 := H1.out _ rfl
  rcases Nat.lt_or_ge now c with h | h
  · have hi : (now : Int) < (c : Int) := by omega
    have e := E1.out (by omega)
    subst e
    go_enter Try.func30, Try.ntmps30
    go_wp2
    go_ret
    exact ⟨rfl, (Only.refl _ w).alloc _⟩
  · have hi : (c : Int) ≤ (now : Int) := by omega
    have e := E2.out h
    go_enter Try.func30, Try.ntmps30
    go_wp2
    all_goals go_ret
    all_goals (first | exact ⟨by simp [e], (Only.refl _ w).alloc _⟩ | (exfalso; omega))
end Go.Proofs.Ytcjbiiphjahjpaa
