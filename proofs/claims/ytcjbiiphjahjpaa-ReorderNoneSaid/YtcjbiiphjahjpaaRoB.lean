/- reorder: sort.Search, place. Conditions: as each says. -/
import Derived.Test.YtcjbiiphjahjpaaRoA
set_option linter.unusedVariables false
set_option linter.unusedSimpArgs false
namespace Go.Proofs.Ytcjbiiphjahjpaa
open Go Go.RowKit

/-- The first place where it holds. -/
def Found (n : Nat) (p : Nat → Bool) (w : World) (e : Ending) (w' : World) : Prop :=
  ∃ k : Nat, e = .returned (.int .i64 (k : Int)) ∧ k ≤ n ∧ (∀ i, i < k → p i = false) ∧ (∀ i, k ≤ i → i < n → p i = true) ∧ Only (fun _ => False) w w'
set_option maxHeartbeats 1000000 in
theorem search_is (cb : Array Value) (n : Nat) (p : Nat → Bool) (w : World) (hn : n ≤ 300)
    (hf : ∀ (W : World) (i : Nat), i < n → Only (fun _ => False) w W → Calls Try.prog 43 (#[.int .i64 (i : Int)] ++ cb) W (SaysO (.bool (p i)) W))
    (hm : ∀ a b, a ≤ b → b < n → p a = true → p b = true) :
    Calls Try.prog 42 #[.int .i64 (n : Int), .func (.func 43) #[] cb] w (Found n p w) := by
  have HF := Lib.hid hf
  have HM := Lib.hid hm
  clear hf hm
  go_enter Try.func42, Try.ntmps42
  go_wp2
  go_loopw [5, 6] (fun s5 s6 wr => ∃ i j : Nat, i ≤ j ∧ j ≤ n ∧ s5 = .int .i64 (i : Int) ∧ s6 = .int .i64 (j : Int) ∧ (∀ a, a < i → p a = false) ∧ (∀ a, j ≤ a → a < n → p a = true) ∧ Only (fun _ => False) w wr) (fun s5 s6 _ => (intOf s6).toNat - (intOf s5).toNat)
  case atStart => exact ⟨0, n, by omega, by omega, rfl, rfl, by omega, by omega, Only.refl _ w⟩
  case round =>
    obtain ⟨i, j, hij, hjn, rfl, rfl, hlo, hhi, ho⟩ := hrel
    have L := Lib.hid hlo
    have H := Lib.hid hhi
    have O := Lib.hid ho
    clear hlo hhi ho
    by_cases hlt : i < j
    · have hltI : (i : Int) < (j : Int) := by omega
      obtain ⟨k, hk⟩ : ∃ k, (i + j) / 2 = k := ⟨_, rfl⟩
      have ek : ((i : Int) + (j : Int)) / 2 = (k : Int) := by omega
      have e2 : i ≤ k := by omega
      have e3 : k < j := by omega
      clear hk
      go_wp2_with fail
      refine (HF.out wr k (by omega) O.out).mono ?_
      rintro e w1 ⟨rfl, ho1⟩
      have O1 := Lib.hid (O.out.trans ho1 (fun _ _ e => e))
      clear ho1 ek
      have hlo : p k = false → ∀ a, a < k + 1 → p a = false := fun hp a ha => by
        cases hq : p a with
        | false => rfl
        | true => rw [HM.out a k (by omega) (by omega) hq] at hp; cases hp
      have hhi : p k = true → ∀ a, k ≤ a → a < n → p a = true := fun hp a ha hb => HM.out k a ha hb hp
      have LO := Lib.hid hlo
      have HI := Lib.hid hhi
      clear hlo hhi
      cases hp : p k with
      | false =>
        have L1 := Lib.hid (LO.out hp)
        clear hp
        go_wp2
        exact ⟨⟨k + 1, j, by omega, hjn, by go_num, rfl, L1.out, H.out, O1.out⟩, by simp [intOf]; omega⟩
      | true =>
        have H1 := Lib.hid (HI.out hp)
        clear hp
        go_wp2
        exact ⟨⟨i, k, by omega, by omega, rfl, rfl, L.out, H1.out, O1.out⟩, by simp [intOf]; omega⟩
    · obtain rfl : i = j := by omega
      go_wp2
      go_ret
      exact ⟨i, rfl, hjn, L.out, H.out, O.out⟩
set_option maxHeartbeats 1000000 in
/-- The closure: is the number there not below? -/
theorem place1_is (b g c L ib ibn z i : Nat) (n : Nat) (W : World) (hi : i < L)
    (h0 : W.cell? ⟨ib, 0, none⟩ = some (ptr b)) (h1 : W.cell? ⟨ibn, 0, none⟩ = some (.int .u64 (n : Int))) (h2 : W.cell? ⟨b, 4, none⟩ = some (.slice (some ⟨g, 0, none⟩) L c)) (h3 : W.cell? ⟨g, i * 13, none⟩ = some (.int .u64 (z : Int))) :
    Calls Try.prog 43 (#[.int .i64 (i : Int)] ++ #[ptr ib, ptr ibn]) W (SaysO (.bool (decide (n ≤ z))) W) := by
  have hiI : (i : Int) < (L : Int) := by omega
  rw [show decide (n ≤ z) = decide ((n : Int) ≤ (z : Int)) from by simp]
  go_enter Try.func43, Try.ntmps43
  go_wp2
  go_quiet (fail)
  go_wp2
  go_ret
  exact ⟨by simp, (Only.refl _ W).drewN _⟩
/-- Where a packet of that number stands, or would stand. -/
def Placed (m : Bf) (n : Nat) (w : World) (e : Ending) (w' : World) : Prop :=
  ∃ k : Nat, e = .returned (.tuple #[.int .i64 (k : Int), .bool (decide (∃ x, m.ws[k]? = some x ∧ x.n = n))]) ∧ k ≤ m.ws.length ∧ (∀ i x, i < k → m.ws[i]? = some x → x.n < n) ∧ (∀ i x, k ≤ i → m.ws[i]? = some x → n ≤ x.n) ∧ Only (fun _ => False) w w'
theorem grown_cell {w w1 : World} (ho : Only (fun _ => False) w w1) {a : Addr} {v : Value} (h : w.cell? a = some v) (hl : a.block < w.heap.size) : w1.cell? a = some v := by
  rw [← h]
  exact ho.cell hl (by simp)
set_option maxRecDepth 20000 in
set_option maxHeartbeats 1000000 in
theorem place_is (b n : Nat) (m : Bf) (v : Value) (us : List V3) (B : Nat) (w : World) (h : Bfr w b m v us B) (hf : m.Fit) : Calls Try.prog 32 #[ptr b, .int .u64 (n : Int)] w (Placed m n w) := by
  obtain ⟨A, c, rfl, hc⟩ := h.slice
  obtain ⟨num, hnum⟩ : ∃ num : Nat → Nat, ∀ i x, m.ws[i]? = some x → num i = x.n := ⟨fun i => (m.ws[i]?.map Wt.n).getD 0, fun i x hx => by simp [hx]⟩
  have hmono : ∀ i j, i ≤ j → j < m.ws.length → num i ≤ num j := fun i j hij hj => by
    rcases Nat.lt_or_ge i j with hlt | hge
    · have h1 := List.getElem?_eq_getElem (show i < m.ws.length by omega)
      have h2 := List.getElem?_eq_getElem hj
      rw [hnum i _ h1, hnum j _ h2]
      exact Nat.le_of_lt (hf.rise i j _ _ hlt h1 h2)
    · rw [show i = j by omega]
      exact Nat.le_refl _
  have hget : ∀ i, i < m.ws.length → ∃ g, A = some ⟨g, 0, none⟩ ∧ g < w.heap.size ∧ w.cell? ⟨g, i * 13, none⟩ = some (.int .u64 (num i : Int)) := fun i hi => by
    obtain ⟨g, c', e, h1, h2, h3, h4⟩ := h.at_ (by omega)
    injection e with e1 e2 e3
    have hx := List.getElem?_eq_getElem hi
    obtain ⟨u, hu, hcell⟩ := h4 i _ hx
    have := hcell 0 (by decide)
    rw [Nat.add_zero] at this
    exact ⟨g, e1, h2, by rw [this, hnum i _ hx]; rfl⟩
  have R1 := Lib.hid (show ∀ k : Nat, (∀ i, i < k → decide (n ≤ num i) = false) → k ≤ m.ws.length → ∀ i x, i < k → m.ws[i]? = some x → x.n < n from fun k hk hkl i x hi hx => by
    have := hk i hi
    rw [hnum i x hx] at this
    simpa using this)
  have R2 := Lib.hid (show ∀ k : Nat, (∀ i, k ≤ i → i < m.ws.length → decide (n ≤ num i) = true) → ∀ i x, k ≤ i → m.ws[i]? = some x → n ≤ x.n from fun k hk i x hi hx => by
    have := hk i hi (List.getElem?_eq_some_iff.1 hx).1
    rw [hnum i x hx] at this
    simpa using this)
  have R3 := Lib.hid (show ∀ k : Nat, k < m.ws.length → decide (∃ x, m.ws[k]? = some x ∧ x.n = n) = decide ((num k : Int) = (n : Int)) from fun k hk => by
    have hx := List.getElem?_eq_getElem hk
    rw [hx, hnum k _ hx]
    simp
    omega)
  have R4 := Lib.hid (show ∀ k : Nat, k = m.ws.length → decide (∃ x, m.ws[k]? = some x ∧ x.n = n) = false from fun k hk => by
    rw [hk]
    simp)
  have hL := hf.len
  have c4 := h.list
  have hbl := h.is.lt
  obtain ⟨L, hLd⟩ : ∃ L, m.ws.length = L := ⟨_, rfl⟩
  have HLD := Lib.hid hLd
  rw [hLd] at c4 hL hget hmono
  have HG := Lib.hid hget
  have HM := Lib.hid hmono
  clear hget hmono h hf hc hnum hLd
  go_enter Try.func32, Try.ntmps32
  go_upto_region 1 with (fail)
  generalize hw0 : World.alloc (World.alloc _ _) _ = w0
  have P0 := Lib.hid (show Only (fun _ => False) w w0 from by rw [← hw0]; exact ((Only.refl _ w).alloc _).alloc _)
  have b0 : w0.cell? ⟨w.heap.size, 0, none⟩ = some (ptr b) := by rw [← hw0, ((Is.made w _ _).alloc _).cell]; rfl
  have b1 : w0.cell? ⟨w.heap.size + 1, 0, none⟩ = some (.int .u64 (n : Int)) := by
    rw [← hw0]
    have := (Is.made (w.alloc (.cells #[ptr b] 26)) 22 #[.int .u64 (n : Int)]).cell 0
    rw [World.size_alloc] at this
    exact this
  have hsz0 : w0.heap.size = w.heap.size + 2 := by rw [← hw0]; simp
  clear hw0
  obtain ⟨ib, hib⟩ : ∃ k, w.heap.size = k := ⟨_, rfl⟩
  obtain ⟨ibn, hibn⟩ : ∃ k, w.heap.size + 1 = k := ⟨_, rfl⟩
  have HZ := Lib.hid (show ib < w0.heap.size ∧ ibn < w0.heap.size ∧ b < w.heap.size from by omega)
  rw [hibn] at b1 ⊢
  rw [hib] at b0 ⊢
  clear hib hibn
  have d4 : w0.cell? ⟨b, 4, none⟩ = some (.slice A L c) := grown_cell P0.out c4 hbl
  have HS := Lib.hid (search_is #[ptr ib, ptr ibn] L (fun i => decide (n ≤ num i)) w0 hL (fun W i hi hO => by
    obtain ⟨g, rfl, hg, hcell⟩ := HG.out i hi
    have hz := P0.out.size
    exact place1_is b g c L ib ibn (num i) i n W hi (grown_cell hO b0 HZ.out.1) (grown_cell hO b1 HZ.out.2.1) (grown_cell hO d4 (Nat.lt_of_lt_of_le HZ.out.2.2 hz)) (grown_cell (P0.out.trans hO (fun _ _ e => e)) hcell hg))
    (fun i j hij hj hp => by
      have := HM.out i j hij hj
      simp at hp ⊢
      omega))
  have B0 := Lib.hid b0
  have B1 := Lib.hid b1
  have D4 := Lib.hid d4
  clear c4 b1 hbl hsz0
  go_wp2_with fail
  refine HS.out.mono ?_
  rintro e w1 ⟨k, rfl, hkL, hlo, hhi, ho⟩
  have b0' := grown_cell ho B0.out HZ.out.1
  have b1' := grown_cell ho B1.out HZ.out.2.1
  have d4' := grown_cell ho D4.out (Nat.lt_of_lt_of_le HZ.out.2.2 P0.out.size)
  have Q1 := Lib.hid (R1.out k hlo (by rw [HLD.out]; exact hkL))
  have Q2 := Lib.hid (R2.out k (by rw [HLD.out]; exact hhi))
  have OO := Lib.hid (P0.out.trans ho (fun _ _ e => e))
  clear b0 d4 hlo hhi ho HS
  by_cases hk : k < L
  · have hkI : (k : Int) < (L : Int) := by omega
    obtain ⟨g, rfl, hg, hcell⟩ := HG.out k hk
    have e0 := grown_cell OO.out hcell hg
    have Q3 := Lib.hid (R3.out k (by rw [HLD.out]; exact hk))
    clear hcell
    go_wp2
    go_quiet (fail)
    go_wp2
    go_ret2
    exact ⟨k, by rw [Q3.out]; rfl, by rw [HLD.out]; exact hkL, Q1.out, Q2.out, OO.out.drewN _⟩
  · obtain rfl : k = L := by omega
    have Q3 := Lib.hid (R4.out k HLD.out.symm)
    go_wp2
    go_quiet (fail)
    go_wp2
    go_ret2
    exact ⟨k, by rw [Q3.out]; rfl, by rw [HLD.out]; exact hkL, Q1.out, Q2.out, OO.out.drewN _⟩
end Go.Proofs.Ytcjbiiphjahjpaa
