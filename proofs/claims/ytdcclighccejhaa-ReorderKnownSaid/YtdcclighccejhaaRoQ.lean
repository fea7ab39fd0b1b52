/- reorder: what goes, plainly; the calls once more. Conditions: as each says. -/
import Derived.Test.YtdcclighccejhaaRoO
set_option linter.unusedVariables false
set_option linter.unusedSimpArgs false
namespace Go.Proofs.Ytdcclighccejhaa
open Go Go.RowKit

/-- How many go, if so many must. -/
def gn (must : Int) : Nat → Nat → List Wt → Nat
  | g, _, [] => g
  | g, next, x :: t => if x.n = next then gn must (g + 1) (x.n + 1) t else if must ≤ (g : Int) then g else gn must (g + 1) (x.n + 1) t
theorem gn_ge (must : Int) : ∀ (ws : List Wt) (g next : Nat), g ≤ gn must g next ws
  | [], g, next => Nat.le_refl _
  | x :: t, g, next => by
    rw [gn]
    have h := gn_ge must t (g + 1) (x.n + 1)
    split
    · omega
    · split <;> omega
theorem gn_le (must : Int) : ∀ (ws : List Wt) (g next : Nat), gn must g next ws ≤ g + ws.length
  | [], g, next => Nat.le_refl _
  | x :: t, g, next => by
    rw [gn, List.length_cons]
    have h := gn_le must t (g + 1) (x.n + 1)
    split
    · omega
    · split <;> omega
theorem gn_must (must : Int) : ∀ (ws : List Wt) (g next : Nat), must ≤ (gn must g next ws : Int) ∨ gn must g next ws = g + ws.length
  | [], g, next => .inr rfl
  | x :: t, g, next => by
    rw [gn, List.length_cons]
    have h := gn_must must t (g + 1) (x.n + 1)
    split
    · rcases h with h | h
      · exact .inl h
      · exact .inr (by omega)
    · split
      · rename_i hm
        exact .inl hm
      · rcases h with h | h
        · exact .inl h
        · exact .inr (by omega)
theorem lv_step (must : Int) (g next : Nat) (x : Wt) (u : V3) (t : List It) : lvOf must g (stepIt next x u ++ t) = if x.n = next then pkIt x u :: lvOf must (g + 1) t else if must ≤ (g : Int) then [] else gapIt next (x.n - 1) :: pkIt x u :: lvOf must (g + 1) t := by
  unfold stepIt
  split
  · rw [List.singleton_append, lvOf]
    simp [pkIt]
  · rw [List.cons_append, List.singleton_append, lvOf]
    split
    · rfl
    · simp [gapIt, pkIt, lvOf] at *
theorem lv_items (must : Int) : ∀ (ws : List Wt) (us : List V3) (g next : Nat), us.length = ws.length → lvOf must g (items next ws us) = items next (ws.take (gn must g next ws - g)) (us.take (gn must g next ws - g))
  | [], us, g, next, _ => by rw [items_nil, lvOf, List.take_nil, items_nil]
  | x :: ws, [], g, next, h => by simp at h
  | x :: ws, u :: us, g, next, h => by
    have ih := lv_items must ws us (g + 1) (x.n + 1) (by simpa using h)
    have hge := gn_ge must ws (g + 1) (x.n + 1)
    rw [items, lv_step, gn]
    by_cases h1 : x.n = next
    · rw [if_pos h1, if_pos h1, ih]
      have e : gn must (g + 1) (x.n + 1) ws - g = (gn must (g + 1) (x.n + 1) ws - (g + 1)) + 1 := by omega
      rw [e, List.take_succ_cons, List.take_succ_cons, items, stepIt, if_pos h1]
      rfl
    · rw [if_neg h1, if_neg h1]
      by_cases h2 : must ≤ (g : Int)
      · rw [if_pos h2, if_pos h2, Nat.sub_self, List.take_zero, items_nil]
      · rw [if_neg h2, if_neg h2, ih]
        have e : gn must (g + 1) (x.n + 1) ws - g = (gn must (g + 1) (x.n + 1) ws - (g + 1)) + 1 := by omega
        rw [e, List.take_succ_cons, List.take_succ_cons, items, stepIt, if_neg h1]
        rfl
/-- What goes tells, without the packets. -/
def itemsN : Nat → List Wt → List (Bool × Nat × Nat)
  | _, [] => []
  | next, x :: ws => (if x.n = next then [(false, x.n, x.n)] else [(true, next, x.n - 1), (false, x.n, x.n)]) ++ itemsN (x.n + 1) ws
theorem itemsN_eq : ∀ (ws : List Wt) (us : List V3) (next : Nat), us.length = ws.length → (items next ws us).map (fun x => (x.gap, x.a, x.z)) = itemsN next ws
  | [], us, next, _ => by rw [items_nil]; rfl
  | x :: ws, [], next, h => by simp at h
  | x :: ws, u :: us, next, h => by
    rw [items, itemsN, List.map_append, itemsN_eq ws us (x.n + 1) (by simpa using h)]
    congr 1
    unfold stepIt
    split <;> rfl
def Bf.goes (m : Bf) (must : Int) : Nat := gn must 0 m.nx m.ws
theorem Bf.goes_le (m : Bf) (must : Int) : m.goes must ≤ m.ws.length := by have := gn_le must m.ws 0 m.nx; unfold Bf.goes; omega
theorem lv_goes {m : Bf} {us : List V3} (must : Int) (h : us.length = m.ws.length) : lvOf must 0 (items m.nx m.ws us) = items m.nx (m.ws.take (m.goes must)) (us.take (m.goes must)) := by
  have := lv_items must m.ws us 0 m.nx h
  rw [Nat.sub_zero] at this
  exact this
theorem cnt_goes {m : Bf} {us : List V3} (must : Int) (h : us.length = m.ws.length) : cnt (lvOf must 0 (items m.nx m.ws us)) = m.goes must := by
  have hl := m.goes_le must
  rw [lv_goes must h, cnt_items _ _ _ (by rw [List.length_take, List.length_take, h]), List.length_take]
  omega
/-- A call has let j packets go. -/
def WentO (b B : Nat) (m : Bf) (us : List V3) (j : Nat) (w w' : World) (vo : Value) : Prop :=
  OwnS w' w.heap.size 62 14 vo ((items m.nx (m.ws.take j) (us.take j)).map It.cls) ∧ (∃ v', Bfr w' b (m.gone j) v' (us.drop j) B) ∧ Pks w' B m.ws us ∧ Only (fun k => k = b ∨ (B ≤ k ∧ ∃ cs, Is w k 79 cs)) w w'
theorem WentO.of {b B : Nat} {m : Bf} {v : Value} {us : List V3} {w w' : World} {must : Int} {e : Ending} (hB : Bfr w b m v us B) (h : Left3 b B m v us (lvOf must 0 (items m.nx m.ws us)) w e w') : ∃ vo, e = .returned vo ∧ WentO b B m us (m.goes must) w w' vo := by
  obtain ⟨vo, rfl, h1, h2, h3, h4⟩ := h
  rw [cnt_goes must hB.pks.len] at h2
  rw [lv_goes must hB.pks.len] at h1
  exact ⟨vo, rfl, h1, h2, h3, h4.mono (fun k _ e => e.elim .inl (fun e => .inr ⟨(hB.row.lt k e).1, own_blk_is hB.row.1 e⟩))⟩
theorem rtick_is (b now B : Nat) (m : Bf) (v : Value) (us : List V3) (w : World) (h : Bfr w b m v us B) (hg : m.Good) (hnow : now < 18446744073709551616) :
    Calls Try.prog 13 #[ptr b, .int .u64 (now : Int)] w fun e w' => ∃ vo, e = .returned vo ∧ WentO b B m us (m.goes (m.must now)) w w' vo :=
  (tick_is b now B m v us w h hg.ok hnow).mono fun _ _ hl => WentO.of h hl
theorem rflush_is (b B : Nat) (m : Bf) (v : Value) (us : List V3) (w : World) (h : Bfr w b m v us B) (hg : m.Good) :
    Calls Try.prog 15 #[ptr b] w fun e w' => ∃ vo, e = .returned vo ∧ WentO b B m us (m.goes m.ws.length) w w' vo :=
  (flush_is b B m v us w h hg.ok).mono fun _ _ hl => WentO.of h hl
/-- How many must go when one comes. -/
def Bf.much (m : Bf) : Int := (m.ws.length : Int) + 1 - m.size
def InDone (b B : Nat) (m : Bf) (us : List V3) (x : Wt) (w : World) (e : Ending) (w' : World) : Prop :=
  ∃ vo u, e = .returned (.tuple #[vo, .bool true]) ∧ (∀ k, Blk u k → w.heap.size ≤ k) ∧ WentO b B (m.ins x) (insAt us (m.pos x.n) u) ((m.ins x).goes m.much) w w' vo
theorem rin_done (b n now B : Nat) (p : Pk) (vc ve vp : Value) (m : Bf) (v : Value) (us : List V3) (w : World) (h : Bfr w b m v us B) (hg : m.Good) (hyes : m.takes n) (hn : n ≤ 4611686018427387904) (hnow : now < 18446744073709551616) (hBs : B ≤ w.heap.size)
    (hc : Rd .u32 w vc (nats p.csrc)) (hn0 : vc = .slice none 0 0 ∨ ∃ ad n c, vc = .slice (some ad) n c) (he : Src w ve p.ext) (hp : Src w vp p.pay) (hl : p.csrc.length ≤ 1000000 ∧ p.ext.length ≤ 1000000 ∧ p.pay.length ≤ 1000000) (hfar : ¬ Blk (vc, ve, vp) b) :
    Calls Try.prog 16 #[ptr b, .int .u64 (n : Int), .agg (p.cls vc ve vp), .int .u64 (now : Int)] w (InDone b B m us ⟨n, now, p⟩ w) := by
  refine (rin_yes b n now B p vc ve vp m v us w h hg hyes hn hnow hBs hc hn0 he hp hl hfar).mono ?_
  rintro e w' ⟨vo, u, rfl, hb, out, rfl, h1, h2, h3, h4⟩
  have hlen : (insAt us (m.pos n) u).length = (m.ins ⟨n, now, p⟩).ws.length := by
    show _ = (insAt m.ws (m.pos n) _).length
    rw [insAt_length _ _ _ (pos_le m n), insAt_length _ _ _ (by rw [h.pks.len]; exact pos_le m n), h.pks.len]
  rw [cnt_goes _ hlen] at h2
  rw [lv_goes _ hlen] at h1
  exact ⟨vo, u, rfl, hb, h1, h2, h3, h4⟩
/-! Good buffers stay good. -/
theorem gone_good {m : Bf} (hok : m.Ok) (hs : m.some = true) (hn : ∀ x ∈ m.ws, x.n ≤ 4611686018427387904) {g : Nat} (h0 : g = 0 → m.last ≤ 4611686018427387904 ∧ ∀ x ∈ m.ws, m.last < x.n) (hg : g ≤ m.ws.length) (hl : m.ws.length ≤ m.size + g) : (m.gone g).Good := by
  have hw : (m.gone g).ws = m.ws.drop g := rfl
  have hla : (m.gone g).last = if g = 0 then m.last else (m.ws[g - 1]?.map Wt.n).getD 0 := rfl
  have hlast : g ≠ 0 → ∃ y, m.ws[g - 1]? = some y ∧ (m.gone g).last = y.n := fun hne => by
    have hx : m.ws[g - 1]? = some m.ws[g - 1] := List.getElem?_eq_getElem (by omega)
    exact ⟨_, hx, by rw [hla, if_neg hne, hx]; rfl⟩
  have htop : (m.gone g).last ≤ 4611686018427387904 := by
    by_cases hz : g = 0
    · rw [hla, if_pos hz]
      exact (h0 hz).1
    · obtain ⟨y, hy, e⟩ := hlast hz
      rw [e]
      exact hn y (List.mem_of_getElem? hy)
  refine ⟨hok.fit.one, hok.fit.le, hok.fit.hold, ?_, ?_, ?_, ?_, ?_, fun _ => htop, by omega⟩
  · rw [hw, List.length_drop]
    show m.ws.length - g ≤ m.size
    omega
  · intro x hx
    have := List.mem_of_mem_drop hx
    exact ⟨hn x this, (hok.fit.nums x this).2⟩
  · intro i j x y hij hx hy
    rw [hw, List.getElem?_drop] at hx hy
    exact hok.fit.rise _ _ x y (by omega) hx hy
  · intro h
    rw [show (m.gone g).some = m.some from rfl, hs] at h
    cases h
  · intro _ x hx
    by_cases hz : g = 0
    · rw [hla, if_pos hz]
      exact (h0 hz).2 x (List.mem_of_mem_drop hx)
    · obtain ⟨y, hy, e⟩ := hlast hz
      rw [e]
      obtain ⟨i, hi⟩ := List.getElem?_of_mem hx
      rw [hw, List.getElem?_drop] at hi
      exact hok.fit.rise _ _ y x (by omega) hy hi
theorem goes_good {m : Bf} (h : m.Good) (must : Int) : (m.gone (m.goes must)).Good := by
  cases hs : m.some with
  | true =>
    refine gone_good h.ok hs (fun x hx => (h.nums x hx).1) (fun _ => ⟨h.top hs, h.lt hs⟩) (m.goes_le must) (by have := h.len; omega)
  | false =>
    have he := h.emp hs
    have hg : m.goes must = 0 := by have := m.goes_le must; rw [he] at this; simpa using this
    rw [hg, Bf.gone_zero]
    exact h
theorem ins_some (m : Bf) (x : Wt) : (m.ins x).some = true := by
  show (m.begun x.n).some = true
  unfold Bf.begun
  cases hs : m.some with
  | true => simp [hs]
  | false => simp
theorem in_good {m : Bf} (h : m.Good) (x : Wt) (hx : x.n ≤ 4611686018427387904) (hc : x.came < 18446744073709551616) (ht : m.takes x.n) : ((m.ins x).gone ((m.ins x).goes m.much)).Good := by
  have hok := ins_ok h x hx hc ht
  have hpl := pos_le m x.n
  have hw : (m.ins x).ws = insAt m.ws (m.pos x.n) x := rfl
  have hlen : (m.ins x).ws.length = m.ws.length + 1 := by rw [hw, insAt_length _ _ _ hpl]
  have hsz : (m.ins x).size = m.size := begun_size m x.n
  have hmem : ∀ y ∈ (m.ins x).ws, y = x ∨ y ∈ m.ws := fun y hy => mem_insAt (by rw [← hw]; exact hy)
  refine gone_good hok (ins_some m x) (fun y hy => ?_) (fun hz => ?_) (Bf.goes_le _ _) ?_
  · rcases hmem y hy with rfl | hy
    · exact hx
    · exact (h.nums y hy).1
  · cases hs : m.some with
    | true =>
      have hla : (m.ins x).last = m.last := by show (m.begun x.n).last = _; unfold Bf.begun; rw [hs, if_pos rfl]
      rw [hla]
      refine ⟨h.top hs, fun y hy => ?_⟩
      rcases hmem y hy with rfl | hy
      · exact ht.2 hs
      · exact h.lt hs y hy
    | false =>
      exfalso
      have hnx := ins_nx h x hx
      rw [hs, if_neg (by simp)] at hnx
      have hw2 : (m.ins x).ws = [x] := by
        rw [hw]
        unfold insAt
        rw [h.emp hs, List.take_nil, List.drop_nil]
        rfl
      unfold Bf.goes at hz
      rw [hw2, hnx, gn, if_pos rfl, gn] at hz
      omega
  · rw [hlen, hsz]
    have h1 := gn_must m.much (m.ins x).ws 0 (m.ins x).nx
    unfold Bf.goes
    unfold Bf.much at h1 ⊢
    have := h.one
    rcases h1 with h1 | h1 <;> omega
theorem new_good {s h : Nat} (h1 : 1 ≤ s) (h2 : s ≤ 256) (h3 : h < 18446744073709551616) : (Bf.new s h).Good :=
  ⟨h1, h2, h3, Nat.zero_le _, fun x hx => by simp [Bf.new] at hx, fun i j x y _ hx => by simp [Bf.new] at hx, fun _ => rfl, fun h => by simp [Bf.new] at h, fun h => by simp [Bf.new] at h, by simp [Bf.new]⟩
end Go.Proofs.Ytdcclighccejhaa
