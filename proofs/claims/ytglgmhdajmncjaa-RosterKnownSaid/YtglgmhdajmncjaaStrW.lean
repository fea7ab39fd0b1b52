/- Rows of structs that are owned: an element is written anew, or read whole; many cells at once. Conditions: as each says. -/
import Derived.Test.YtglgmhdajmncjaaStr
import Derived.Deep.MidRow
set_option linter.unusedVariables false
namespace Go.Proofs.Ytglgmhdajmncjaa
open Go Go.RowKit

/-- Cells that are written from a place on. -/
def setA (cs : Array Value) : Nat → List Value → Array Value
  | _, [] => cs
  | o, v :: r => setA (cs.setIfInBounds o v) (o + 1) r
theorem setA_size : ∀ (vs : List Value) (cs : Array Value) (o : Nat), (setA cs o vs).size = cs.size
  | [], _, _ => rfl
  | v :: r, cs, o => by rw [setA, setA_size r]; simp
theorem setA_get : ∀ (vs : List Value) (cs : Array Value) (o k : Nat), o + vs.length ≤ cs.size → (setA cs o vs)[k]? = if o ≤ k ∧ k < o + vs.length then vs[k - o]? else cs[k]?
  | [], cs, o, k, _ => by
    rw [setA, if_neg (by intro h; have := h.1; have := h.2; simp at *; omega)]
  | v :: r, cs, o, k, h => by
    rw [List.length_cons] at h
    rw [setA, setA_get r _ _ k (by simp; omega), List.length_cons]
    by_cases h1 : o + 1 ≤ k ∧ k < o + 1 + r.length
    · rw [if_pos h1, if_pos (by omega), show k - o = (k - (o + 1)) + 1 by omega, List.getElem?_cons_succ]
    · rw [if_neg h1]
      by_cases h2 : k = o
      · subst h2
        rw [if_pos (by omega), Nat.sub_self, List.getElem?_cons_zero, Array.getElem?_setIfInBounds_self_of_lt (by omega)]
      · rw [if_neg (by omega), Array.getElem?_setIfInBounds_ne (fun e => h2 e.symm)]
theorem Is.many {t : TypeId} : ∀ (vs : List Value) (o : Nat) (w : World) (b : Nat) (cs : Array Value), Is w b t cs → Is (w.setCells b o vs) b t (setA cs o vs)
  | [], _, _, _, _, h => h
  | v :: r, o, w, b, cs, h => by
    rw [World.setCells, setA]
    exact Is.many r (o + 1) _ b _ (h.put o v)
theorem Only.many {S : Nat → Prop} {w : World} {b : Nat} : ∀ (vs : List Value) (o : Nat) (w1 : World), Only S w w1 → (b < w.heap.size → S b) → Only S w (w1.setCells b o vs)
  | [], _, _, h, _ => h
  | v :: r, o, w1, h, hb => by
    rw [World.setCells]
    exact Only.many r (o + 1) _ (h.set (p := ⟨b, o, none⟩) hb v) hb
theorem flat_set {sz : Nat} : ∀ (xss : List (List Value)) (i : Nat) (cs : List Value), (∀ xs ∈ xss, xs.length = sz) → cs.length = sz → i < xss.length → ∀ k, (xss.set i cs).flatten[k]? = if i * sz ≤ k ∧ k < i * sz + sz then cs[k - i * sz]? else xss.flatten[k]?
  | [], i, cs, _, _, hi, _ => by simp at hi
  | xs :: xss, 0, cs, h, hc, _, k => by
    have e := h xs (by simp)
    rw [List.set_cons_zero, List.flatten_cons, List.flatten_cons, Nat.zero_mul, Nat.zero_add]
    by_cases hk : k < sz
    · rw [if_pos ⟨Nat.zero_le _, hk⟩, List.getElem?_append_left (by omega), Nat.sub_zero]
    · rw [if_neg (by omega), List.getElem?_append_right (by omega), List.getElem?_append_right (by omega), hc, e]
  | xs :: xss, i + 1, cs, h, hc, hi, k => by
    have e := h xs (by simp)
    have hi' : i < xss.length := by simpa using hi
    have ih := flat_set xss i cs (fun y hy => h y (by simp [hy])) hc hi' (k - sz)
    rw [List.set_cons_succ, List.flatten_cons, List.flatten_cons]
    rw [Nat.succ_mul]
    by_cases hk : k < sz
    · rw [if_neg (by omega), List.getElem?_append_left (by omega), List.getElem?_append_left (by omega)]
    · rw [List.getElem?_append_right (by omega), List.getElem?_append_right (by omega), e, ih]
      by_cases hr : i * sz ≤ k - sz ∧ k - sz < i * sz + sz
      · rw [if_pos hr, if_pos (by omega)]
        congr 1
        omega
      · rw [if_neg hr, if_neg (by omega)]
section
variable {w w1 : World} {B : Nat} {T : TypeId} {sz : Nat} {v : Value} {xss : List (List Value)}
/-- Where a row lies. -/
theorem OwnS.place (h : OwnS w B T sz v xss) (hp : 0 < xss.length) : ∃ g c, v = .slice (some ⟨g, 0, none⟩) xss.length c ∧ B ≤ g ∧ xss.length ≤ c ∧ c ≤ maxLen ∧ ∃ cur, Is w g T cur ∧ cur.size = c * sz ∧ cur.toList.take (xss.length * sz) = xss.flatten := by
  rcases h.1.2 with ⟨_, h0⟩ | ⟨g, cap, cur, rfl, hb, hg, hc, hm, hcs, ht⟩
  · omega
  · exact ⟨g, cap, rfl, hb, hc, hm, cur, hg, hcs, ht⟩
theorem mul_in {i n sz : Nat} (h : i < n) : i * sz + sz ≤ n * sz := by
  have : (i + 1) * sz ≤ n * sz := Nat.mul_le_mul_right _ h
  rwa [Nat.succ_mul] at this
/-- An element is written anew. -/
theorem OwnS.write {g i : Nat} {cs : List Value} (h : OwnS w B T sz v xss) (hg : v.ownBlock = some g) (hi : i < xss.length) (hc : cs.length = sz) : OwnS (w.setCells g (i * sz) cs) B T sz v (xss.set i cs) ∧ Only (fun k => k = g) w (w.setCells g (i * sz) cs) := by
  obtain ⟨g', c, rfl, hb, hl, hm, cur, hI, hs, ht⟩ := h.place (by omega)
  obtain rfl : g' = g := by simpa [Value.ownBlock] using hg
  have hin := mul_in (sz := sz) hi
  have hcap : xss.length * sz ≤ c * sz := Nat.mul_le_mul_right _ hl
  have hfl := flat_length xss h.2
  refine ⟨⟨⟨?_, .inr ⟨g', c, setA cur (i * sz) cs, by rw [List.length_set], hb, Is.many cs _ _ _ _ hI, by rw [List.length_set]; exact hl, hm, by rw [setA_size]; exact hs, ?_⟩⟩, ?_⟩, Only.many cs _ _ (Only.refl _ w) (fun _ => rfl)⟩
  · rw [flat_length _ (fun y hy => ?_)]
    rcases List.mem_or_eq_of_mem_set hy with hy | rfl
    · exact h.2 y hy
    · exact hc
  · rw [List.length_set]
    apply List.ext_getElem?
    intro k
    rw [List.getElem?_take, flat_set xss i cs h.2 hc hi k, Array.getElem?_toList, setA_get cs cur _ k (by omega), hc]
    by_cases hk : k < xss.length * sz
    · rw [if_pos hk, ← ht, List.getElem?_take, if_pos hk]
      simp
    · rw [if_neg hk, if_neg (by omega), List.getElem?_eq_none (by omega)]
  · intro y hy
    rcases List.mem_or_eq_of_mem_set hy with hy | rfl
    · exact h.2 y hy
    · exact hc
/-- It may be written. -/
theorem OwnS.there {g i : Nat} (h : OwnS w B T sz v xss) (hg : v.ownBlock = some g) (hi : i < xss.length) : w.there g (i * sz) sz := by
  obtain ⟨g', c, rfl, hb, hl, hm, cur, hI, hs, ht⟩ := h.place (by omega)
  obtain rfl : g' = g := by simpa [Value.ownBlock] using hg
  have hin := mul_in (sz := sz) hi
  have hcap : xss.length * sz ≤ c * sz := Nat.mul_le_mul_right _ hl
  intro j hj
  refine ⟨?_, hI.free _⟩
  rw [hI.cell, Array.getElem?_eq_getElem (by omega)]
  rfl
/-- It is read whole. -/
theorem OwnS.range {g i : Nat} {xs : List Value} (h : OwnS w B T sz v xss) (hg : v.ownBlock = some g) (hi : xss[i]? = some xs) : w.rangeAt g (i * sz) xs := by
  have hil : i < xss.length := (List.getElem?_eq_some_iff.1 hi).1
  have hx := h.2 xs (List.mem_of_getElem? hi)
  obtain ⟨g', c', e, -, -, -, hc⟩ := h.at_ (by omega)
  have e2 := congrArg Value.ownBlock e
  rw [hg] at e2
  simp [Value.ownBlock] at e2
  subst e2
  intro j u hj
  have hjl : j < xs.length := (List.getElem?_eq_some_iff.1 hj).1
  rw [hc i j xs hi (by omega)]
  exact hj
end
end Go.Proofs.Ytglgmhdajmncjaa
