/- reorder's law: calls as arguments; few. Conditions: as each says. -/
import Derived.Test.YtdcclighccejhaaRoS
import Derived.Test.YtdcclighccejhaaBase
set_option linter.unusedVariables false
set_option linter.unusedSimpArgs false
namespace Go.Proofs.Ytdcclighccejhaa
open Go Go.RowKit

/-- A call. -/
structure Ac where
  d : Int
  n : Nat
  now : Nat
  p : Pk
def Ac.cls (a : Ac) (u : V3) : List Value := .int .i64 a.d :: .int .u64 (a.n : Int) :: .int .u64 (a.now : Int) :: (a.p.cls u.1 u.2.1 u.2.2).toList
theorem Ac.cls_length (a : Ac) (u : V3) : (a.cls u).length = 14 := rfl
/-- A packet that can be read, its row of sources nil or somewhere. -/
def RdU (p : Pk) (u : V3) (w : World) : Prop := RdPk p u.1 u.2.1 u.2.2 w ∧ (u.1 = .slice none 0 0 ∨ ∃ ad m d, u.1 = .slice (some ad) m d)
theorem RdU.pure {p : Pk} {u : V3} {w w1 : World} (h : RdU p u w) (ho : Only (fun _ => False) w w1) : RdU p u w1 := ⟨h.1.only ho, h.2⟩
/-- Calls in a row, that can be read. -/
structure RdAs (w : World) (v : Value) (l : List Ac) (us : List V3) : Prop where
  sl : ∃ A c, v = .slice A l.length c ∧ l.length ≤ c
  len : us.length = l.length
  at_ : ∀ (i : Nat) (a : Ac) (u : V3), l[i]? = some a → us[i]? = some u → (∃ g o n c, v = .slice (some ⟨g, o, none⟩) n c ∧ w.rangeAt g (o + i * 14) (a.cls u)) ∧ RdU a.p u w
theorem range_pure {w w1 : World} {g o : Nat} {cs : List Value} (h : w.rangeAt g o cs) (ho : Only (fun _ => False) w w1) : w1.rangeAt g o cs := fun j v hj => grown_cell ho (h j v hj) (World.block_lt_of_cell? w ⟨g, o + j, none⟩ (h j v hj))
theorem RdAs.pure {w w1 : World} {v : Value} {l : List Ac} {us : List V3} (h : RdAs w v l us) (ho : Only (fun _ => False) w w1) : RdAs w1 v l us :=
  ⟨h.sl, h.len, fun i a u ha hu => by
    obtain ⟨⟨g, o, n, c, e, hr⟩, hp⟩ := h.at_ i a u ha hu
    exact ⟨⟨g, o, n, c, e, range_pure hr ho⟩, hp.pure ho⟩⟩
/-- Is there little of it? -/
def Ac.few (a : Ac) : Bool := a.p.few && decide (a.n ≤ 4611686018427387904)
def fewA (l : List Ac) (most : Nat) : Bool := l.all Ac.few && decide (l.length ≤ most)
theorem fewpk_is (p : Pk) (u : V3) (w : World) (h : RdU p u w) : Calls Try.prog 20 #[.agg (p.cls u.1 u.2.1 u.2.2)] w (SaysO (.bool p.few) w) := by
  obtain ⟨⟨h1, h2, h3, -⟩, -⟩ := h
  obtain ⟨A1, c1, e1⟩ := Rd.slice h1
  obtain ⟨A2, c2, e2⟩ := h2.slice
  obtain ⟨A3, c3, e3⟩ := h3.slice
  rw [e1, e2, e3]
  rw [show (nats p.csrc).length = p.csrc.length from by simp [nats]]
  exact (few_is p A1 A2 A3 c1 c2 c3 w).mono (fun e w' ⟨h, ho⟩ => ⟨h, ho⟩)
theorem act_rest (a : Ac) (u : V3) : ∀ j z, (a.p.cls u.1 u.2.1 u.2.2).toList[j]? = some z → (a.cls u)[3 + j]? = some z := fun j z h => by
  rw [show 3 + j = j + 3 by omega]
  exact h
theorem all_take {l : List Ac} {k : Nat} {a : Ac} (h : l[k]? = some a) (ht : (l.take k).all Ac.few = true) : (l.take (k + 1)).all Ac.few = a.few := by
  rw [List.take_add_one, h, List.all_append, ht]
  simp
theorem all_not {l : List Ac} {k : Nat} {a : Ac} (h : l[k]? = some a) (hf : a.few = false) : l.all Ac.few = false := by
  rw [List.all_eq_false]
  exact ⟨a, List.mem_of_getElem? h, by simp [hf]⟩
set_option maxRecDepth 20000 in
set_option maxHeartbeats 2000000 in
theorem rfew_is (v : Value) (l : List Ac) (us : List V3) (most : Nat) (w : World) (h : RdAs w v l us) (hm : most ≤ 1000000) (hll : l.length ≤ 9223372036854775807) : Calls Try.prog 7 #[v, .int .i64 (most : Int)] w (SaysO (.bool (fewA l most)) w) := by
  obtain ⟨A, c, rfl, hc⟩ := h.sl
  have HGET := Lib.hid (show ∀ i, i < l.length → ∀ wr, Only (fun _ => False) w wr → ∃ (a : Ac) (u : V3) (g o : Nat), l[i]? = some a ∧ A = some ⟨g, o, none⟩ ∧ wr.rangeAt g (o + i * 14) (a.cls u) ∧ RdU a.p u wr from fun i hi wr ho => by
    have ha := List.getElem?_eq_getElem hi
    have hu := List.getElem?_eq_getElem (show i < us.length by rw [h.len]; exact hi)
    obtain ⟨⟨g, o, n, c', e, hr⟩, hp⟩ := h.at_ i _ _ ha hu
    injection e with e1
    exact ⟨_, _, g, o, ha, e1, range_pure hr ho, hp.pure ho⟩)
  obtain ⟨L, hL⟩ : ∃ L, l.length = L := ⟨_, rfl⟩
  have HL := Lib.hid hL
  rw [hL] at HGET hc hll ⊢
  unfold fewA
  clear h hL
  go_enter Try.func7, Try.ntmps7
  go_wp2
  go_loopw [5] (fun s5 wr => ∃ k : Nat, k ≤ L ∧ s5 = .int .i64 (k : Int) ∧ (l.take k).all Ac.few = true ∧ Only (fun _ => False) w wr) (fun s5 _ => L - (intOf s5).toNat)
  case atStart => exact ⟨0, by omega, rfl, by simp, Only.refl _ w⟩
  case round =>
    obtain ⟨k, hk, rfl, ht, ho⟩ := hrel
    have O := Lib.hid ho
    have HT := Lib.hid ht
    clear ho ht
    by_cases hlt : k < L
    · have hltI : (k : Int) < (L : Int) := by omega
      obtain ⟨a, u, g, o, ha, rfl, hr, hp⟩ := HGET.out k hlt wr O.out
      have HF := Lib.hid (fewpk_is a.p u wr hp)
      have RA := Lib.hid (show wr.rangeAt g (o + k * 14 + 3) (a.p.cls u.1 u.2.1 u.2.2).toList from fun j z hj => by
        rw [Nat.add_assoc]
        exact hr (3 + j) z (act_rest a u j z hj))
      have cn : wr.cell? ⟨g, o + k * 14 + 1, none⟩ = some (.int .u64 (a.n : Int)) := hr 1 _ rfl
      have hsz : (Try.prog.info? 42).map (·.size) = some (a.p.cls u.1 u.2.1 u.2.2).toList.length := Try.sizePq
      have HAT := Lib.hid (all_take ha HT.out)
      have HAN := Lib.hid (all_not ha)
      have hfa : a.few = (a.p.few && decide (a.n ≤ 4611686018427387904)) := rfl
      obtain ⟨cs, hcs⟩ : ∃ cs, a.p.cls u.1 u.2.1 u.2.2 = cs := ⟨_, rfl⟩
      rw [hcs] at HF RA hsz
      obtain ⟨pf, hpf⟩ : ∃ pf, a.p.few = pf := ⟨_, rfl⟩
      rw [hpf] at HF hfa
      obtain ⟨z, hz⟩ : ∃ z, a.n = z := ⟨_, rfl⟩
      rw [hz] at cn hfa
      have HFA := Lib.hid hfa
      clear hr hp ha hcs hpf hz hfa
      cases pf with
      | false =>
        go_wp2_with (first
          | (refine wpList_load_mid rfl 42 _ rfl g (o + k * 14 + 3) rfl cs.toList _ RA.out Try.underlying42 rfl hsz ?_)
          | (refine HF.out.mono ?_; rintro e w5 ⟨rfl, ho5⟩; have O5 := Lib.hid ho5; clear ho5))
        go_ret
        exact ⟨by rw [HAN.out (by rw [HFA.out]; rfl)]; rfl, O.out.trans O5.out (fun _ _ e => e)⟩
      | true =>
        by_cases hz : z ≤ 4611686018427387904
        · have hzI : ¬ (4611686018427387904 : Int) < (z : Int) := by omega
          go_wp2_with (first
            | (refine wpList_load_mid rfl 42 _ rfl g (o + k * 14 + 3) rfl cs.toList _ RA.out Try.underlying42 rfl hsz ?_)
            | (refine HF.out.mono ?_; rintro e w5 ⟨rfl, ho5⟩; have O5 := Lib.hid ho5; have cn5 := grown_cell ho5 cn (World.block_lt_of_cell? _ _ cn); clear ho5))
          exact ⟨⟨k + 1, by omega, by go_num, by rw [HAT.out, HFA.out]; simp [hz], O.out.trans O5.out (fun _ _ e => e)⟩, by simp [intOf]; omega⟩
        · have hzI : (4611686018427387904 : Int) < (z : Int) := by omega
          go_wp2_with (first
            | (refine wpList_load_mid rfl 42 _ rfl g (o + k * 14 + 3) rfl cs.toList _ RA.out Try.underlying42 rfl hsz ?_)
            | (refine HF.out.mono ?_; rintro e w5 ⟨rfl, ho5⟩; have O5 := Lib.hid ho5; have cn5 := grown_cell ho5 cn (World.block_lt_of_cell? _ _ cn); clear ho5))
          go_ret
          exact ⟨by rw [HAN.out (by rw [HFA.out]; simp; omega)]; rfl, O.out.trans O5.out (fun _ _ e => e)⟩
    · obtain rfl : k = L := by omega
      have hall : l.all Ac.few = true := by have := HT.out; rwa [List.take_of_length_le (by rw [HL.out]; exact Nat.le_refl _)] at this
      have HALL := Lib.hid hall
      clear hall
      go_wp2
      go_ret
      exact ⟨by rw [HALL.out, HL.out]; simp, O.out⟩
end Go.Proofs.Ytdcclighccejhaa
