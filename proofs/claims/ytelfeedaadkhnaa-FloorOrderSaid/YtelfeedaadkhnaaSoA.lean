/- slices.Sort of numbers of 32 digits: a row as a function of places; exchanges; what stays when a part is moved about; Less. Conditions: as each says. -/
import Derived.Test.YtelfeedaadkhnaaFlB
import Derived.Test.YtelfeedaadkhnaaFlBase
set_option linter.unusedVariables false
set_option linter.unusedSimpArgs false
namespace Go.Proofs.Ytelfeedaadkhnaa
open Go Go.RowKit

def updf (f : Nat → Nat) (i v : Nat) : Nat → Nat := fun k => if k = i then v else f k
def swp (f : Nat → Nat) (i j : Nat) : Nat → Nat := fun k => if k = i then f j else if k = j then f i else f k
theorem swp_two (f : Nat → Nat) (i j : Nat) : updf (updf f i (f j)) j (f i) = swp f i j := by
  funext k
  unfold updf swp
  repeat' split
  all_goals simp_all
/-- A row, as a function of places. -/
structure Rw (B g c N : Nat) (f : Nat → Nat) (w0 wx : World) : Prop where
  own : OwnS wx B 30 1 (.slice (some ⟨g, 0, none⟩) N c) (rows32 ((List.range N).map f))
  only : Only (fun k => k = g) w0 wx
section
variable {B g c N : Nat} {f : Nat → Nat} {w0 wx wy : World}
theorem Rw.go (h : Rw B g c N f w0 wx) (ho : Only (fun _ => False) wx wy) : Rw B g c N f w0 wy := ⟨OwnS.only h.own ho (by simp), h.only.trans ho (fun _ _ e => e.elim)⟩
theorem Rw.cell (h : Rw B g c N f w0 wx) (i : Nat) (hi : i < N) : wx.cell? ⟨g, i, none⟩ = some (.int .u32 (f i : Int)) := own32_cell h.own (by simp [hi])
theorem Rw.free (h : Rw B g c N f w0 wx) (i : Nat) : wx.frozen? ⟨g, i, none⟩ = false := by
  obtain ⟨cells, hI, -⟩ := own_is h.own
  exact hI.free _
theorem map_upd (f : Nat → Nat) (i v : Nat) (hi : i < N) : ((List.range N).map f).set i v = (List.range N).map (updf f i v) := by
  apply List.ext_getElem?
  intro k
  rw [List.getElem?_set]
  by_cases hk : k < N
  · by_cases e : i = k
    · subst e
      simp [updf, hk]
    · have e' : ¬ k = i := fun h => e h.symm
      simp [updf, hk, e, e']
  · by_cases e : i = k
    · omega
    · simp [e, hk]
theorem Rw.put (h : Rw B g c N f w0 wx) (i v : Nat) (hi : i < N) : Rw B g c N (updf f i v) w0 (wx.setCell ⟨g, i, none⟩ (.int .u32 (v : Int))) := by
  obtain ⟨h1, h2⟩ := own32_put h.own v (i := i) (by simpa using hi)
  rw [map_upd f i v hi] at h1
  exact ⟨h1, h.only.trans h2 (fun _ _ e => e)⟩
theorem Rw.put2 {i j : Nat} (h : Rw B g c N (updf f i (f j)) w0 wx) (hj : j < N) : Rw B g c N (swp f i j) w0 (wx.setCell ⟨g, j, none⟩ (.int .u32 (f i : Int))) := by
  rw [← swp_two]
  exact h.put j (f i) hj
theorem Rw.start (h : OwnS wx B 30 1 (.slice (some ⟨g, 0, none⟩) N c) (rows32 ((List.range N).map f))) : Rw B g c N f wx wx := ⟨h, Only.refl _ _⟩
theorem Rw.from_ {f' : Nat → Nat} (h : Rw B g c N f w0 wx) (k : Rw B g c N f' wx wy) : Rw B g c N f' w0 wy := ⟨k.own, h.only.trans k.only (fun _ _ e => e)⟩
theorem Rw.re (h : Rw B g c N f w0 wx) : Rw B g c N f wx wx := ⟨h.own, Only.refl _ _⟩
end
/-- A part is moved about. -/
def Mv (a b : Nat) (f f' : Nat → Nat) : Prop := ∃ s t : Nat → Nat, (∀ k, f' k = f (s k)) ∧ (∀ k, s (t k) = k) ∧ (∀ k, t (s k) = k) ∧ ∀ k, k < a ∨ b ≤ k → s k = k
section
variable {a b a' b' : Nat} {f f' f'' : Nat → Nat}
theorem Mv.refl (a b : Nat) (f : Nat → Nat) : Mv a b f f := ⟨id, id, fun _ => rfl, fun _ => rfl, fun _ => rfl, fun _ _ => rfl⟩
theorem Mv.trans (h : Mv a b f f') (k : Mv a b f' f'') : Mv a b f f'' := by
  obtain ⟨s, t, h1, h2, h3, h4⟩ := h
  obtain ⟨s', t', k1, k2, k3, k4⟩ := k
  exact ⟨fun x => s (s' x), fun x => t' (t x), fun x => by rw [k1, h1], fun x => by show s (s' (t' (t x))) = x; rw [k2, h2], fun x => by show t' (t (s (s' x))) = x; rw [h3, k3], fun x hx => by show s (s' x) = x; rw [k4 x hx, h4 x hx]⟩
theorem Mv.mono (h : Mv a b f f') (ha : a' ≤ a) (hb : b ≤ b') : Mv a' b' f f' := by
  obtain ⟨s, t, h1, h2, h3, h4⟩ := h
  exact ⟨s, t, h1, h2, h3, fun k hk => h4 k (by omega)⟩
theorem Mv.swap (f : Nat → Nat) {i j : Nat} (hi : a ≤ i ∧ i < b) (hj : a ≤ j ∧ j < b) : Mv a b f (swp f i j) := by
  refine ⟨swp id i j, swp id i j, fun k => ?_, fun k => ?_, fun k => ?_, fun k hk => ?_⟩
  · unfold swp
    split
    · rfl
    · split <;> rfl
  · unfold swp
    simp only [id]
    repeat' split
    all_goals omega
  · unfold swp
    simp only [id]
    repeat' split
    all_goals omega
  · unfold swp
    rw [if_neg (by omega), if_neg (by omega)]
    rfl
theorem Mv.out (h : Mv a b f f') (k : Nat) (hk : k < a ∨ b ≤ k) : f' k = f k := by
  obtain ⟨s, t, h1, h2, h3, h4⟩ := h
  rw [h1, h4 k hk]
theorem Mv.in_ (h : Mv a b f f') (k : Nat) (hk : a ≤ k ∧ k < b) : ∃ j, a ≤ j ∧ j < b ∧ f' k = f j := by
  obtain ⟨s, t, h1, h2, h3, h4⟩ := h
  refine ⟨s k, ?_, ?_, h1 k⟩
  · rcases Nat.lt_or_ge (s k) a with h | h
    · have e := h4 (s k) (.inl h)
      have := congrArg t e
      rw [h3, h3] at this
      omega
    · exact h
  · rcases Nat.lt_or_ge (s k) b with h | h
    · exact h
    · have e := h4 (s k) (.inr h)
      have := congrArg t e
      rw [h3, h3] at this
      omega
/-- What all in a part keep. -/
theorem Mv.all (h : Mv a b f f') {P : Nat → Prop} (hp : ∀ k, a ≤ k → k < b → P (f k)) : ∀ k, a ≤ k → k < b → P (f' k) := fun k h1 h2 => by
  obtain ⟨j, h3, h4, e⟩ := h.in_ k ⟨h1, h2⟩
  rw [e]
  exact hp j h3 h4
end
def Srt (a b : Nat) (f : Nat → Nat) : Prop := ∀ i j, a ≤ i → i < j → j < b → f i ≤ f j
set_option maxRecDepth 20000 in
set_option maxHeartbeats 400000 in
theorem nan_is (x : Nat) (w : World) : Calls Try.prog 82 #[.int .u32 (x : Int)] w fun e w' => e = .returned (.bool false) ∧ w = w' := by
  go_enter Try.func82, Try.ntmps82
  go_wp2
  go_ret
  exact ⟨by simp, rfl⟩
set_option maxRecDepth 20000 in
set_option maxHeartbeats 400000 in
theorem less_is (x y : Nat) (w : World) : Calls Try.prog 72 #[.int .u32 (x : Int), .int .u32 (y : Int)] w fun e w' => e = .returned (.bool (decide (x < y))) ∧ w = w' := by
  go_enter Try.func72, Try.ntmps72
  go_wp2_with fail
  refine (nan_is x _).mono ?_
  rintro e w1 ⟨rfl, rfl⟩
  go_wp2
  go_ret
  exact ⟨by simp, rfl⟩
end Go.Proofs.Ytelfeedaadkhnaa
