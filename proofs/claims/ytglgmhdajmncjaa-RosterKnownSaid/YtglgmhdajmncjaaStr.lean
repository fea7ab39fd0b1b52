/- Rows of structs: a row that is owned, whose elements are lists of cells; rows of bytes side by side. Conditions: as each says. -/
import Derived.Test.YtglgmhdajmncjaaCut
import Derived.Test.YtglgmhdajmncjaaStep
set_option linter.unusedVariables false
namespace Go.Proofs.Ytglgmhdajmncjaa
open Go Go.RowKit

theorem flat_length {sz : Nat} : ∀ (xss : List (List Value)), (∀ xs ∈ xss, xs.length = sz) → xss.flatten.length = xss.length * sz
  | [], _ => by simp
  | xs :: xss, h => by
    have e := h xs (by simp)
    have ih := flat_length xss (fun y hy => h y (by simp [hy]))
    rw [List.flatten_cons, List.length_append, ih, e, List.length_cons, Nat.succ_mul]
    omega
theorem flat_get {sz : Nat} : ∀ (xss : List (List Value)), (∀ xs ∈ xss, xs.length = sz) → ∀ (i j : Nat) (xs : List Value), xss[i]? = some xs → j < sz → xss.flatten[i * sz + j]? = xs[j]?
  | [], _, i, j, xs, hi, _ => by simp at hi
  | ys :: xss, h, 0, j, xs, hi, hj => by
    have e := h ys (by simp)
    simp at hi
    subst hi
    rw [List.flatten_cons, List.getElem?_append_left (by omega), Nat.zero_mul, Nat.zero_add]
  | ys :: xss, h, i + 1, j, xs, hi, hj => by
    have e := h ys (by simp)
    have ih := flat_get xss (fun y hy => h y (by simp [hy])) i j xs (by simpa using hi) hj
    rw [List.flatten_cons, List.getElem?_append_right (by rw [e, Nat.succ_mul]; omega), e, ← ih]
    congr 1
    rw [Nat.succ_mul]
    omega

/-- A row of structs that is owned. -/
def OwnS (w : World) (B : Nat) (T : TypeId) (sz : Nat) (v : Value) (xss : List (List Value)) : Prop :=
  w.ownsRow B T sz v xss.length xss.flatten ∧ ∀ xs ∈ xss, xs.length = sz
section
variable {w w1 : World} {B : Nat} {T : TypeId} {sz : Nat} {v : Value} {xss : List (List Value)}
theorem OwnS.nil (w : World) (B : Nat) (T : TypeId) (sz : Nat) : OwnS w B T sz (.slice none 0 0) [] := ⟨World.ownsRow_nil w B T sz, by simp⟩
theorem owned_only {n : Nat} {xs : List Value} (h : w.ownsRow B T sz v n xs) {S : Nat → Prop} (ho : Only S w w1) (hs : ∀ k, v.ownBlock = some k → ¬ S k) : w1.ownsRow B T sz v n xs := by
  refine ⟨h.1, ?_⟩
  rcases h.2 with q | ⟨g, cap, cur, r1, r2, r3, r4⟩
  · exact .inl q
  · exact .inr ⟨g, cap, cur, r1, r2, (ho.same g (lt_of_heap r3) (hs g (by rw [r1]; rfl))).trans r3, r4⟩
theorem owned_low {n : Nat} {xs : List Value} (h : w.ownsRow B T sz v n xs) {B' : Nat} (hB : B' ≤ B) : w.ownsRow B' T sz v n xs := by
  refine ⟨h.1, ?_⟩
  rcases h.2 with q | ⟨g, cap, cur, r1, r2, r3⟩
  · exact .inl q
  · exact .inr ⟨g, cap, cur, r1, Nat.le_trans hB r2, r3⟩
theorem owned_apart {n m sz' B' : Nat} {xs ys : List Value} {U : TypeId} {u : Value} (h : w.ownsRow B T sz v n xs) (k : w.ownsRow B' U sz' u m ys) (hne : T ≠ U) : ∀ b, v.ownBlock = some b → u.ownBlock ≠ some b := by
  intro b hb hu
  rcases h.2 with ⟨rfl, _⟩ | ⟨g, cap, cur, rfl, _, q, _⟩
  · simp [Value.ownBlock] at hb
  · rcases k.2 with ⟨rfl, _⟩ | ⟨g', cap', cur', rfl, _, q', _⟩
    · simp [Value.ownBlock] at hu
    · have e1 : g = b := by simpa [Value.ownBlock] using hb
      have e2 : g' = b := by simpa [Value.ownBlock] using hu
      subst e1 e2
      exact Is.apart (t := T) (u := U) q q' hne rfl
theorem owned_off {n : Nat} {xs : List Value} {U : TypeId} {ob : Nat} {cs : Array Value} (h : w.ownsRow B T sz v n xs) (hI : Is w ob U cs) (hne : T ≠ U) : v.ownBlock ≠ some ob := by
  intro hb
  rcases h.2 with ⟨rfl, _⟩ | ⟨g, cap, cur, rfl, _, q, _⟩
  · simp [Value.ownBlock] at hb
  · have e1 : g = ob := by simpa [Value.ownBlock] using hb
    subst e1
    exact Is.apart (t := T) (u := U) q hI hne rfl
theorem OwnS.only (h : OwnS w B T sz v xss) {S : Nat → Prop} (ho : Only S w w1) (hs : ∀ k, v.ownBlock = some k → ¬ S k) : OwnS w1 B T sz v xss := ⟨owned_only h.1 ho hs, h.2⟩
theorem OwnS.slice (h : OwnS w B T sz v xss) : ∃ A c, v = .slice A xss.length c ∧ xss.length ≤ c := by
  rcases h.1.2 with ⟨rfl, h0⟩ | ⟨g, cap, cur, rfl, _, _, hc, _⟩
  · exact ⟨none, 0, by rw [h0], by omega⟩
  · exact ⟨_, cap, rfl, hc⟩
theorem OwnS.lt (h : OwnS w B T sz v xss) : ∀ k, v.ownBlock = some k → B ≤ k ∧ k < w.heap.size := h.1.lt
/-- An element's cells, where they lie. -/
theorem OwnS.at_ (h : OwnS w B T sz v xss) (hp : 0 < xss.length) : ∃ g c, v = .slice (some ⟨g, 0, none⟩) xss.length c ∧ xss.length ≤ c ∧ g < w.heap.size ∧ B ≤ g ∧
    ∀ i j xs, xss[i]? = some xs → j < sz → w.cell? ⟨g, i * sz + j, none⟩ = xs[j]? := by
  rcases h.1.2 with ⟨_, h0⟩ | ⟨g, cap, cur, rfl, hb, hg, hc, _, hcs, ht⟩
  · omega
  · refine ⟨g, cap, rfl, hc, lt_of_heap hg, hb, fun i j xs hi hj => ?_⟩
    have hf := flat_get xss h.2 i j xs hi hj
    have hx := h.2 xs (List.mem_of_getElem? hi)
    have hil : i < xss.length := (List.getElem?_eq_some_iff.1 hi).1
    have hlt : i * sz + j < xss.length * sz := by
      have : (i + 1) * sz ≤ xss.length * sz := Nat.mul_le_mul_right _ hil
      rw [Nat.succ_mul] at this
      omega
    rw [cell_of_row w g (i * sz + j) cur T (0, 0) hg, ← hf, ← ht, List.getElem?_take_of_lt hlt]
    simp
end

/-- Of a struct's type what append wants. -/
structure Sty (t T : TypeId) (sz bytes : Nat) : Prop where
  und : Try.prog.underlying t = some (.slice T)
  info : ∃ i z, Try.prog.info? T = some i ∧ i.zero = some z ∧ i.size = sz ∧ i.bytes = bytes ∧ z.cells.size = sz
  pos : 0 < sz
theorem append_run {o : Oper} {a : Act} {K : Act → World → Prop} {Q : Exit → Act → World → Prop} (w : World) (s x : Operand) {t T : TypeId} {sz bytes : Nat} (st : Sty t T sz bytes)
    (ho : o.op = .call { callee := .builtin .append, args := #[s, x], argTypes := #[t, t] })
    (B : Nat) (v : Value) (xss : List (List Value)) (hs : a.eval s = v) (hown : OwnS w B T sz v xss) (g : Nat) (xs : List Value) (hx : a.eval x = .slice (some ⟨g, 0, none⟩) 1 1) (hsrc : Is w g T xs.toArray)
    (hxl : xs.length = sz) (h1 : ∀ u ∈ xs, u.oneCell' = true)
    (hl : xss.length ≤ 100000) (hby : bytes ≤ 100000) (hB : B ≤ w.heap.size)
    (h : ∀ v' w', OwnS w' B T sz v' (xss ++ [xs]) → Only (fun k => v.ownBlock = some k) w w' → K (a.put o.dst v') w') :
    Oper.wp Try.prog o a w K Q := by
  obtain ⟨i0, z, hi, hz0, hz1, hz2, hz3⟩ := st.info
  have hb1 : (xss.length + 1) * bytes ≤ 100001 * 100000 := Nat.mul_le_mul (by omega) hby
  refine wp_append_own w s x t ho B T i0 z sz bytes st.und hi hz0 hz1 hz2 hz3 st.pos v xss.length xss.flatten hs hown.1 ⟨g, 0, none⟩ 1 1 xs hx (by rw [hxl, Nat.one_mul]) (fun j u hu => ?_) h1 (by unfold maxLen; omega) (by omega) hB (fun v' w' h1 h2 _ => h v' w' ⟨?_, ?_⟩ ?_)
  · rw [add_plain, hsrc.cell]
    simpa using hu
  · rw [List.length_append, List.flatten_append]
    simpa using h1
  · intro ys hy
    rcases List.mem_append.1 hy with hy | hy
    · exact hown.2 ys hy
    · rw [List.mem_singleton.1 hy]; exact hxl
  · exact (Only.refl _ w).grown h2 (fun i hi _ => hi)
theorem step_append_struct {ops : Array Oper} {o : Oper} {a : Act} {K : Act → World → Prop} {Q : Exit → Act → World → Prop} {E : Prop} (w : World) (hgd : o.guard = none) (s x : Operand) {t T : TypeId} {sz bytes : Nat} (st : Sty t T sz bytes)
    (ho : o.op = .call { callee := .builtin .append, args := #[s, x], argTypes := #[t, t] })
    (B : Nat) (v : Value) (xss : List (List Value)) (hs : a.eval s = v) (hown : OwnS w B T sz v xss) (g : Nat) (xs : List Value) (hx : a.eval x = .slice (some ⟨g, 0, none⟩) 1 1) (hsrc : Is w g T xs.toArray)
    (hxl : xs.length = sz) (h1 : ∀ u ∈ xs, u.oneCell' = true)
    (hl : xss.length ≤ 100000) (hby : bytes ≤ 100000) (hB : B ≤ w.heap.size)
    (h : ∀ v' w', OwnS w' B T sz v' (xss ++ [xs]) → Only (fun k => v.ownBlock = some k) w w' → K (a.put o.dst v') w') :
    if Region.wanted o (yielded ops a.tmps) = true then Oper.wp Try.prog o a w K Q else E := by
  have hw : Region.wanted o (yielded ops a.tmps) = true := by simp [Region.wanted, hgd]
  rw [if_pos hw]
  exact append_run w s x st ho B v xss hs hown g xs hx hsrc hxl h1 hl hby hB h
theorem wpList_append_struct {ops : Array Oper} {rest : List Oper} {o : Oper} {a : Act} {Q : Exit → Act → World → Prop} (w : World) (hgd : o.guard = none) (s x : Operand) {t T : TypeId} {sz bytes : Nat} (st : Sty t T sz bytes)
    (ho : o.op = .call { callee := .builtin .append, args := #[s, x], argTypes := #[t, t] })
    (B : Nat) (v : Value) (xss : List (List Value)) (hs : a.eval s = v) (hown : OwnS w B T sz v xss) (g : Nat) (xs : List Value) (hx : a.eval x = .slice (some ⟨g, 0, none⟩) 1 1) (hsrc : Is w g T xs.toArray)
    (hxl : xs.length = sz) (h1 : ∀ u ∈ xs, u.oneCell' = true)
    (hl : xss.length ≤ 100000) (hby : bytes ≤ 100000) (hB : B ≤ w.heap.size)
    (h : ∀ v' w', OwnS w' B T sz v' (xss ++ [xs]) → Only (fun k => v.ownBlock = some k) w w' → wpList Try.prog ops Q rest (a.put o.dst v') w') :
    wpList Try.prog ops Q (o :: rest) a w :=
  wpList_plain hgd fun _ hK => append_run w s x st ho B v xss hs hown g xs hx hsrc hxl h1 hl hby hB fun v' w' h1 h2 => hK _ _ (h v' w' h1 h2)

/-- Rows of bytes side by side, each owned, no two in one place. -/
structure Bods (w : World) (B : Nat) (vs : List Value) (bss : List (List Nat)) : Prop where
  len : vs.length = bss.length
  own : ∀ (i : Nat) (v : Value) (bs : List Nat), vs[i]? = some v → bss[i]? = some bs → w.ownsRow B 5 1 v bs.length (cellsOf bs)
  apart : ∀ (i j : Nat) (a b : Value), i < j → vs[i]? = some a → vs[j]? = some b → ∀ k, a.ownBlock = some k → b.ownBlock ≠ some k
section
variable {w w1 : World} {B : Nat} {vs : List Value} {bss : List (List Nat)}
theorem Bods.nil (w : World) (B : Nat) : Bods w B [] [] := ⟨rfl, fun i v bs h => by simp at h, fun i j a b _ h => by simp at h⟩
theorem Bods.only (h : Bods w B vs bss) {S : Nat → Prop} (ho : Only S w w1) (hs : ∀ u ∈ vs, ∀ k, u.ownBlock = some k → ¬ S k) : Bods w1 B vs bss :=
  ⟨h.len, fun i v bs hv hb => own_only (h.own i v bs hv hb) ho (hs v (List.mem_of_getElem? hv)), h.apart⟩
theorem Bods.pure (h : Bods w B vs bss) (ho : Only (fun _ => False) w w1) : Bods w1 B vs bss := h.only ho (by simp)
/-- What a row of another type changes. -/
theorem Bods.far (h : Bods w B vs bss) {B' sz n : Nat} {T : TypeId} {v : Value} {xs : List Value} (hr : w.ownsRow B' T sz v n xs) (hne : T ≠ 5) (ho : Only (fun k => v.ownBlock = some k) w w1) : Bods w1 B vs bss :=
  h.only ho (fun u hu k hk hv => by
    obtain ⟨i, hi⟩ := List.getElem?_of_mem hu
    have hl := h.len
    have hib : i < bss.length := by rw [← hl]; exact (List.getElem?_eq_some_iff.1 hi).1
    exact owned_apart hr (h.own i u _ hi (List.getElem?_eq_getElem hib)) hne k hv hk)
theorem Bods.snoc (h : Bods w B vs bss) {u : Value} {bs : List Nat} (hB : B ≤ w.heap.size) (ho : Only (fun _ => False) w w1) (hu : w1.ownsRow w.heap.size 5 1 u bs.length (cellsOf bs)) : Bods w1 B (vs ++ [u]) (bss ++ [bs]) := by
  refine ⟨by simp [h.len], fun i v bs' hv hb => ?_, fun i j a b hij ha hb k hk hkb => ?_⟩
  · by_cases hi : i < vs.length
    · rw [List.getElem?_append_left hi] at hv
      rw [List.getElem?_append_left (by rw [← h.len]; exact hi)] at hb
      exact own_only (h.own i v bs' hv hb) ho (by simp)
    · rw [List.getElem?_append_right (by omega)] at hv
      rw [List.getElem?_append_right (by rw [← h.len]; omega)] at hb
      rw [← h.len] at hb
      have h0 : i - vs.length = 0 := by
        rcases Nat.eq_zero_or_pos (i - vs.length) with e | e
        · exact e
        · rw [List.getElem?_eq_none (by simp; omega)] at hv; cases hv
      rw [h0] at hv hb
      simp at hv hb
      subst hv hb
      exact owned_low hu hB
  · by_cases hj : j < vs.length
    · rw [List.getElem?_append_left hj] at hb
      rw [List.getElem?_append_left (by omega)] at ha
      exact h.apart i j a b hij ha hb k hk hkb
    · rw [List.getElem?_append_right (by omega)] at hb
      have h0 : j - vs.length = 0 := by
        rcases Nat.eq_zero_or_pos (j - vs.length) with e | e
        · exact e
        · rw [List.getElem?_eq_none (by simp; omega)] at hb; cases hb
      rw [h0] at hb
      simp at hb
      subst hb
      have hi : i < vs.length := by omega
      rw [List.getElem?_append_left hi] at ha
      have h1 := ((h.own i a _ ha (List.getElem?_eq_getElem (by rw [← h.len]; exact hi))).lt k hk).2
      have h2 := (hu.lt k hkb).1
      omega
theorem Bods.src (h : Bods w B vs bss) {i : Nat} {v : Value} {bs : List Nat} (hv : vs[i]? = some v) (hb : bss[i]? = some bs) : Src w v bs := Src.of_own (h.own i v bs hv hb)
end
end Go.Proofs.Ytglgmhdajmncjaa
