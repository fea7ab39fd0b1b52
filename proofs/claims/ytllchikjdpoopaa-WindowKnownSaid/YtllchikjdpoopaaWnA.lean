/- A window's cells; the digits' calls. Conditions: as each says. -/
import Derived.Test.YtllchikjdpoopaaWnP
import Derived.Test.YtllchikjdpoopaaRegT
import Derived.Deep.DeepCutAuto
set_option linter.unusedVariables false
namespace Go.Proofs.Ytllchikjdpoopaa
open Go Go.RowKit

/-- What is answered, and nothing that was there is written. -/
def Says (v : Value) (w : World) (e : Ending) (w' : World) : Prop := e = .returned v ∧ Only (fun _ => False) w w'
def wnCells (m : Wm) (D : Nat → Nat) : Array Value := #[.int .u64 (m.size : Int), .bool m.some, .int .u64 (m.top : Int), .int .u64 (m.least : Int), .int .u64 (D 0 : Int), .int .u64 (D 1 : Int), .int .u64 (D 2 : Int), .int .u64 (D 3 : Int), .int .u64 (D 4 : Int), .int .u64 (D 5 : Int), .int .u64 (D 6 : Int), .int .u64 (D 7 : Int), .int .u64 (D 8 : Int), .int .u64 (D 9 : Int), .int .u64 (D 10 : Int), .int .u64 (D 11 : Int), .int .u64 (D 12 : Int), .int .u64 (D 13 : Int), .int .u64 (D 14 : Int), .int .u64 (D 15 : Int), .int .u64 (m.c 0 : Int), .int .u64 (m.c 1 : Int), .int .u64 (m.c 2 : Int)]
/-- A window lies there. -/
structure WIs (w : World) (b : Nat) (m : Wm) (D : Nat → Nat) : Prop where
  is : Is w b 54 (wnCells m D)
  dw : DW D m.f
theorem WIs.lt {w : World} {b : Nat} {m : Wm} {D : Nat → Nat} (h : WIs w b m D) : b < w.heap.size := h.is.lt
theorem WIs.size {w : World} {b : Nat} {m : Wm} {D : Nat → Nat} (h : WIs w b m D) : w.cell? ⟨b, 0, none⟩ = some (.int .u64 (m.size : Int)) := h.is.cell 0
theorem WIs.went {w : World} {b : Nat} {m : Wm} {D : Nat → Nat} (h : WIs w b m D) : w.cell? ⟨b, 1, none⟩ = some (.bool m.some) := h.is.cell 1
theorem WIs.top {w : World} {b : Nat} {m : Wm} {D : Nat → Nat} (h : WIs w b m D) : w.cell? ⟨b, 2, none⟩ = some (.int .u64 (m.top : Int)) := h.is.cell 2
theorem WIs.least {w : World} {b : Nat} {m : Wm} {D : Nat → Nat} (h : WIs w b m D) : w.cell? ⟨b, 3, none⟩ = some (.int .u64 (m.least : Int)) := h.is.cell 3
theorem sixteen {P : Nat → Prop} (h : P 0 ∧ P 1 ∧ P 2 ∧ P 3 ∧ P 4 ∧ P 5 ∧ P 6 ∧ P 7 ∧ P 8 ∧ P 9 ∧ P 10 ∧ P 11 ∧ P 12 ∧ P 13 ∧ P 14 ∧ P 15) (i : Nat) (hi : i < 16) : P i := by
  obtain ⟨h0, h1, h2, h3, h4, h5, h6, h7, h8, h9, h10, h11, h12, h13, h14, h15⟩ := h
  have : i = 0 ∨ i = 1 ∨ i = 2 ∨ i = 3 ∨ i = 4 ∨ i = 5 ∨ i = 6 ∨ i = 7 ∨ i = 8 ∨ i = 9 ∨ i = 10 ∨ i = 11 ∨ i = 12 ∨ i = 13 ∨ i = 14 ∨ i = 15 := by omega
  rcases this with rfl | rfl | rfl | rfl | rfl | rfl | rfl | rfl | rfl | rfl | rfl | rfl | rfl | rfl | rfl | rfl
  all_goals assumption
theorem WIs.word {w : World} {b : Nat} {m : Wm} {D : Nat → Nat} (h : WIs w b m D) (i : Nat) (hi : i < 16) : w.cell? ⟨b, 4 + i, none⟩ = Option.some (.int .u64 (D i : Int)) := by
  rw [h.is.cell]
  exact sixteen (P := fun i => (wnCells m D)[4 + i]? = Option.some (.int .u64 (D i : Int))) ⟨rfl, rfl, rfl, rfl, rfl, rfl, rfl, rfl, rfl, rfl, rfl, rfl, rfl, rfl, rfl, rfl⟩ i hi
theorem WIs.count {w : World} {b : Nat} {m : Wm} {D : Nat → Nat} (h : WIs w b m D) (i : Nat) (hi : i < 3) : w.cell? ⟨b, 20 + i, none⟩ = Option.some (.int .u64 (m.c i : Int)) := by
  rw [h.is.cell]
  have : i = 0 ∨ i = 1 ∨ i = 2 := by omega
  rcases this with rfl | rfl | rfl <;> rfl
theorem WIs.free {w : World} {b : Nat} {m : Wm} {D : Nat → Nat} (h : WIs w b m D) (i : Nat) : w.frozen? ⟨b, i, none⟩ = false := h.is.free i
theorem WIs.only {w w1 : World} {b : Nat} {m : Wm} {D : Nat → Nat} {S : Nat → Prop} (h : WIs w b m D) (ho : Only S w w1) (hn : ¬ S b) : WIs w1 b m D := ⟨h.is.only ho hn, h.dw⟩
theorem WIs.putWord {w : World} {b : Nat} {m : Wm} {D : Nat → Nat} (h : WIs w b m D) (i : Nat) (hi : i < 16) (v : Nat) (f : Nat → Bool) (hd : DW (upd D i v) f) : WIs (w.setCell ⟨b, 4 + i, none⟩ (.int .u64 (v : Int))) b { m with f := f } (upd D i v) := by
  refine ⟨?_, hd⟩
  have := h.is.put (4 + i) (.int .u64 (v : Int))
  have e : (wnCells m D).setIfInBounds (4 + i) (.int .u64 (v : Int)) = wnCells { m with f := f } (upd D i v) :=
    sixteen (P := fun i => (wnCells m D).setIfInBounds (4 + i) (.int .u64 (v : Int)) = wnCells { m with f := f } (upd D i v)) ⟨rfl, rfl, rfl, rfl, rfl, rfl, rfl, rfl, rfl, rfl, rfl, rfl, rfl, rfl, rfl, rfl⟩ i hi
  rwa [e] at this

theorem wrap_two (j : Nat) (h : j < 64) : IntKind.u64.wrap (2 ^ j) = ((2 ^ j : Nat) : Int) := by
  have h2 := two_lt j h
  rw [show (2 : Int) ^ j = ((2 ^ j : Nat) : Int) by simp, IntKind.wrap_u64]
  generalize 2 ^ j = x at *
  omega
set_option maxHeartbeats 1000000 in
theorem place_is (n : Nat) (w : World) : Calls Try.prog 29 #[.int .u64 (n : Int)] w fun e w' => e = .returned (.tuple #[.int .u64 ((n % 1024 / 64 : Nat) : Int), .int .u64 ((2 ^ (n % 1024 % 64) : Nat) : Int)]) ∧ w = w' := by
  have h3 := wrap_two (n % 1024 % 64) (Nat.mod_lt _ (by decide))
  have e1 : (n : Int) % 1024 = ((n % 1024 : Nat) : Int) := by omega
  have hp : n % 1024 < 1024 := Nat.mod_lt _ (by decide)
  generalize n % 1024 = p at *
  have e2 : (p : Int) % 64 = ((p % 64 : Nat) : Int) := by omega
  have e3 : (p : Int) / 64 = ((p / 64 : Nat) : Int) := by omega
  have hq : IntKind.u64.wrap ((p / 64 : Nat) : Int) = ((p / 64 : Nat) : Int) := by rw [IntKind.wrap_u64]; omega
  obtain ⟨d, hd⟩ : ∃ d, 2 ^ (p % 64) = d := ⟨_, rfl⟩
  rw [hd] at h3
  rw [hd]
  have hj : p % 64 < 64 := Nat.mod_lt _ (by decide)
  generalize p / 64 = q at *
  generalize p % 64 = j at *
  clear hd hp
  have E1 := Lib.hid e1
  have E2 := Lib.hid e2
  have E3 := Lib.hid e3
  clear e1 e2 e3
  go_enter Try.func29, Try.ntmps29
  go_upto_region 2 with (fail)
  rw [E1.out]
  have e2 := E2.out
  have e3 := E3.out
  go_wp2
  go_ret2
  exact ⟨by simp, rfl⟩

set_option maxRecDepth 20000 in
set_option maxHeartbeats 1000000 in
theorem has_is (b n : Nat) (m : Wm) (D : Nat → Nat) (w : World) (h : WIs w b m D) : Calls Try.prog 24 #[.pointer (some ⟨b, 4, none⟩), .int .u64 (n : Int)] w fun e w' => e = .returned (.bool (m.f (n % 1024))) ∧ w = w' := by
  have hp : n % 1024 < 1024 := Nat.mod_lt _ (by decide)
  have HP := Lib.hid (place_is n w)
  obtain ⟨x, hx, hb⟩ := h.dw.has (n % 1024) hp
  have hq : n % 1024 / 64 < 16 := by omega
  have c0 := h.word (n % 1024 / 64) hq
  have hz : decide ((x : Int) = 0) = !m.f (n % 1024) := by rw [← hb]; by_cases hx0 : x = 0 <;> simp [hx0]
  rw [← hb]
  generalize n % 1024 / 64 = q at *
  generalize 2 ^ (n % 1024 % 64) = d at *
  generalize (D q) = y at *
  clear hp hb hz h
  go_enter Try.func24, Try.ntmps24
  go_wp2_with fail
  refine HP.out.mono ?_
  rintro e w1 ⟨rfl, rfl⟩
  go_wp2
  go_ret
  exact ⟨by by_cases hx0 : x = 0 <;> simp [hx0], rfl⟩
theorem WIs.drew {w : World} {b : Nat} {m : Wm} {D : Nat → Nat} (h : WIs w b m D) : WIs w.drew b m D := h.only ((Only.refl (fun _ => False) w).drew) (by simp)

set_option maxRecDepth 20000 in
set_option maxHeartbeats 1000000 in
theorem dput_is (b n : Nat) (m : Wm) (D : Nat → Nat) (w : World) (h : WIs w b m D) : Calls Try.prog 31 #[.pointer (some ⟨b, 4, none⟩), .int .u64 (n : Int)] w fun e w' => e = .returned (.tuple #[]) ∧ (∃ D', WIs w' b { m with f := fun q => m.f q || n % 1024 == q } D') ∧ Only (fun k => k = b) w w' := by
  have hp : n % 1024 < 1024 := Nat.mod_lt _ (by decide)
  have HP := Lib.hid (place_is n w)
  obtain ⟨x, hx, hd⟩ := h.dw.put (n % 1024) hp
  have hq : n % 1024 / 64 < 16 := by omega
  have c0 := h.word (n % 1024 / 64) hq
  have f0 := h.free (4 + n % 1024 / 64)
  have HB := Lib.hid (fun (w1 : World) (h : WIs w1 b m D) => h.putWord _ hq _ _ hd)
  have H := Lib.hid h
  clear h hd
  generalize (fun (q : Nat) => m.f q || n % 1024 == q) = f at *
  generalize n % 1024 / 64 = q at *
  generalize 2 ^ (n % 1024 % 64) = d at *
  generalize hy : (D q) = y at *
  clear hp hy
  have hq2 : (q : Int) < 16 := by omega
  go_enter Try.func31, Try.ntmps31
  go_wp2_with fail
  refine HP.out.mono ?_
  rintro e w1 ⟨rfl, rfl⟩
  go_upto_region 1 with (fail)
  go_still_tail 9, (by kernel_rfl)
  go_wp2
  go_end0
  exact ⟨rfl, ⟨_, (HB.out _ H.out).drew⟩, ((Only.refl (fun k => k = b) w).set (p := ⟨b, 4 + q, none⟩) (fun _ => rfl) _).drew⟩

set_option maxRecDepth 20000 in
set_option maxHeartbeats 1000000 in
theorem blank_is (b n : Nat) (m : Wm) (D : Nat → Nat) (w : World) (h : WIs w b m D) : Calls Try.prog 33 #[.pointer (some ⟨b, 4, none⟩), .int .u64 (n : Int)] w fun e w' => e = .returned (.tuple #[]) ∧ (∃ D', WIs w' b { m with f := fun q => m.f q && !(n % 1024 == q) } D') ∧ Only (fun k => k = b) w w' := by
  have hp : n % 1024 < 1024 := Nat.mod_lt _ (by decide)
  have HP := Lib.hid (place_is n w)
  obtain ⟨x, hx, hd⟩ := h.dw.blank (n % 1024) hp
  have hq : n % 1024 / 64 < 16 := by omega
  have c0 := h.word (n % 1024 / 64) hq
  have f0 := h.free (4 + n % 1024 / 64)
  have HB := Lib.hid (fun (w1 : World) (h : WIs w1 b m D) => h.putWord _ hq _ _ hd)
  have H := Lib.hid h
  clear h hd
  generalize (fun q => m.f q && !(n % 1024 == q)) = f at *
  generalize n % 1024 / 64 = q at *
  generalize 2 ^ (n % 1024 % 64) = d at *
  generalize hy : (D q) = y at *
  clear hp hy
  have hq2 : (q : Int) < 16 := by omega
  go_enter Try.func33, Try.ntmps33
  go_wp2_with fail
  refine HP.out.mono ?_
  rintro e w1 ⟨rfl, rfl⟩
  go_upto_region 1 with (fail)
  go_still_tail 9, (by kernel_rfl)
  go_wp2
  go_end0
  exact ⟨rfl, ⟨_, (HB.out _ H.out).drew⟩, ((Only.refl (fun k => k = b) w).set (p := ⟨b, 4 + q, none⟩) (fun _ => rfl) _).drew⟩

end Go.Proofs.Ytllchikjdpoopaa
