/- reorder: Tick and Flush. Conditions: as each says. -/
import Derived.Test.YtdcclighccejhaaRoGr
import Derived.Test.YtdcclighccejhaaRoM
set_option linter.unusedVariables false
set_option linter.unusedSimpArgs false
namespace Go.Proofs.Ytdcclighccejhaa
open Go Go.RowKit

theorem Left3.from {b B : Nat} {m : Bf} {v : Value} {us : List V3} {out : List It} {w w1 w' : World} {e : Ending} (h : Left3 b B m v us out w1 e w') (ho : Only (fun _ => False) w w1) : Left3 b B m v us out w e w' := by
  obtain ⟨vo, he, hs, hg1, hg2, hg3⟩ := h
  exact ⟨vo, he, ⟨owned_low hs.1 ho.size, hs.2⟩, hg1, hg2, (ho.mono (fun _ _ e => e.elim)).trans hg3 (fun _ _ e => e)⟩
set_option maxRecDepth 20000 in
set_option maxHeartbeats 2000000 in
theorem flush_is (b B : Nat) (m : Bf) (v : Value) (us : List V3) (w : World) (h : Bfr w b m v us B) (hok : m.Ok) : Calls Try.prog 15 #[ptr b] w (Left3 b B m v us (lvOf (m.ws.length : Int) 0 (items m.nx m.ws us)) w) := by
  have HT := Lib.hid (takes_is b m v us B w h hok.fit)
  have HL := Lib.hid (leave_is b B (m.ws.length : Int) m v us w h hok)
  obtain ⟨A, c, rfl, hc⟩ := h.slice
  have c4 := h.list
  clear h hok
  obtain ⟨OUTS, hO⟩ : ∃ OUTS, lvOf (m.ws.length : Int) 0 (items m.nx m.ws us) = OUTS := ⟨_, rfl⟩
  rw [hO] at HL ⊢
  clear hO
  go_enter Try.func15, Try.ntmps15
  go_wp2_with fail
  refine HT.out.mono ?_
  rintro e w1 ⟨rfl, rfl⟩
  go_wp2_with fail
  refine HL.out.mono ?_
  rintro e w2 ⟨vo, rfl, hR⟩
  have HR := Lib.hid hR
  clear hR HL HT
  go_wp2
  go_ret
  exact ⟨vo, rfl, HR.out⟩
/-- How many must go at a tick. -/
def Bf.young (m : Bf) (now i : Nat) : Bool := match m.ws[i]? with
  | Option.some x => decide (x.waits now < m.hold)
  | none => false
def Bf.must (m : Bf) (now : Nat) : Nat := mustGo (m.young now) m.ws.length
theorem mustGo_le (f : Nat → Bool) : ∀ k, mustGo f k ≤ k
  | 0 => Nat.le_refl _
  | k + 1 => by
    rw [mustGo]
    split
    · exact Nat.le_succ_of_le (mustGo_le f k)
    · exact Nat.le_refl _
set_option maxRecDepth 20000 in
set_option maxHeartbeats 2000000 in
theorem tick_is (b now B : Nat) (m : Bf) (v : Value) (us : List V3) (w : World) (h : Bfr w b m v us B) (hok : m.Ok) (hnow : now < 18446744073709551616) :
    Calls Try.prog 13 #[ptr b, .int .u64 (now : Int)] w (Left3 b B m v us (lvOf (m.must now : Int) 0 (items m.nx m.ws us)) w) := by
  have HT := Lib.hid (takes_is b m v us B w h hok.fit)
  obtain ⟨A, c, rfl, hc⟩ := h.slice
  have HLV := Lib.hid (fun (w1 : World) (ho : Only (fun _ => False) w w1) => leave_is b B (m.must now : Int) m (.slice A m.ws.length c) us w1 (h.pure ho) hok)
  have c4 := h.list
  have hL := hok.fit.len
  have hb := h.is.lt
  have hG : ∀ k, k < m.ws.length → ∀ wr, Only (fun _ => False) w wr → ∃ (g : Nat) (cs : List Value) (wv : Nat), A = some ⟨g, 0, none⟩ ∧ Tk b g m.ws.length c m.hold k cs w wr ∧ (Try.prog.info? 79).map (·.size) = some cs.length ∧ (∀ w1, Calls Try.prog 30 #[.agg cs.toArray, .int .u64 (now : Int)] w1 (SaysO (.int .u64 (wv : Int)) w1)) ∧ m.young now k = decide (wv < m.hold) := fun k hk wr ho => by
    obtain ⟨g, c', e, h1, h2, h3, h4⟩ := h.at_ (by omega)
    injection e with e1 e2 e3
    subst e1
    have hx := List.getElem?_eq_getElem hk
    obtain ⟨u, hu, hcell⟩ := h4 k _ hx
    refine ⟨g, m.ws[k].cls u, m.ws[k].waits now, rfl, Tk.go ⟨h.list, h.hold, fun j z hj => ?_, hb, h2, Only.refl _ _⟩ ho, by rw [Try.sizeWt]; rfl, fun w1 => waited_is _ u now w1 (hok.fit.nums _ (List.mem_of_getElem? hx)).2 hnow, by unfold Bf.young; rw [hx]⟩
    have hjl : j < 13 := by rw [← Wt.cls_length m.ws[k] u]; exact (List.getElem?_eq_some_iff.1 hj).1
    rw [hcell j hjl, hj]
  obtain ⟨OUTS, hO⟩ : ∃ OUTS, lvOf (m.must now : Int) 0 (items m.nx m.ws us) = OUTS := ⟨_, rfl⟩
  rw [hO] at HLV ⊢
  unfold Bf.must at HLV
  generalize m.young now = f at *
  obtain ⟨L, hLd⟩ : ∃ L, m.ws.length = L := ⟨_, rfl⟩
  have HLD := Lib.hid hLd
  rw [hLd] at c4 hL hc hG
  have HG2 := Lib.hid hG
  obtain ⟨M, hM⟩ : ∃ M, mustGo f m.ws.length = M := ⟨_, rfl⟩
  rw [hM] at HLV
  rw [hLd] at hM
  have HM := Lib.hid hM
  clear h hok hG hM hLd hO
  go_enter Try.func13, Try.ntmps13
  go_wp2_with fail
  refine HT.out.mono ?_
  rintro e w1 ⟨rfl, rfl⟩
  clear HT
  go_wp2
  go_loopw [5] (fun s5 wr => ∃ k : Nat, k ≤ L ∧ s5 = .int .i64 (k : Int) ∧ mustGo f k = M ∧ Only (fun _ => False) w wr) (fun s5 _ => (intOf s5).toNat)
  case atStart => exact ⟨L, by omega, rfl, HM.out, Only.refl _ _⟩
  case round =>
    obtain ⟨k, hk, rfl, hm, ho⟩ := hrel
    have O := Lib.hid ho
    rcases Nat.eq_zero_or_pos k with hk0 | hk0
    · have hm0 : k = M := by rw [hk0] at hm; rw [hk0]; exact hm
      have hz : (k : Int) ≤ 0 := by omega
      subst hm0
      clear ho hm hk0
      go_upto_region 4 with (fail)
      refine rj0 w k hz _ _ _ _ _ _ _ _ _ _ _ _ _ _ _ _ _ _ _ _ _ _ _ _ _ _ _ _ _ _ _ _ _ _ _ _ _ _ wr O.out ?_
      rintro y14 y15 y16 y17 y18 y19 y20 y21 y22 y23 y24 y25 y26 y27 y28 y29 y30 y31 w2 ho2
      have O2 := Lib.hid ho2
      clear ho2
      go_wp2_with fail
      refine (HLV.out _ O2.out).mono ?_
      rintro e w3 ⟨vo, rfl, hR⟩
      have HR := Lib.hid hR
      clear hR
      go_wp2
      go_ret
      exact Left3.from ⟨vo, rfl, HR.out⟩ O2.out
    · obtain ⟨k, rfl⟩ : ∃ j, k = j + 1 := ⟨k - 1, by omega⟩
      obtain ⟨g, cs, wv, rfl, hTk, hsz, hwt, hfk⟩ := HG2.out k (by omega) wr ho
      clear ho
      go_upto_region 4 with (fail)
      refine rj4 b g L c m.hold k now wv _ (by omega) cs w (by omega) hL hsz hwt _ _ _ _ _ _ _ _ _ _ _ _ _ _ _ _ _ _ _ _ _ _ _ _ _ _ _ _ _ _ _ _ _ _ _ _ wr hTk ?_
      rintro y14 y15 y16 y17 y18 y19 y20 y21 y22 y23 y24 y25 y26 y27 y28 y29 y30 y31 w2 hT2
      have O2 := Lib.hid hT2.pure
      have hmk : f k = true → mustGo f k = M := fun hq => by rw [← hm, mustGo, if_pos hq]
      have hmn : f k = false → k + 1 = M := fun hq => by rw [← hm, mustGo, hq]; rfl
      clear hT2 hTk hm hwt hsz
      by_cases hlt : wv < m.hold
      · have hq := hmk (by rw [hfk]; simp [hlt])
        have hd : decide (wv < m.hold) = true := by simp [hlt]
        clear hmk hmn
        go_wp2
        go_roundw
        case rel => repeat apply Exists.intro
                    exact ⟨⟨k, by omega, by go_num, hq, O2.out⟩, rfl⟩
        case measure => simp [intOf]
      · have hq := hmn (by rw [hfk]; simp [hlt])
        have hd : decide (wv < m.hold) = false := by simp [hlt]
        subst hq
        clear hmk hmn
        go_wp2_with fail
        refine (HLV.out _ O2.out).mono ?_
        rintro e w3 ⟨vo, rfl, hR⟩
        have HR := Lib.hid hR
        clear hR
        go_wp2
        go_ret
        exact Left3.from ⟨vo, rfl, HR.out⟩ O2.out
end Go.Proofs.Ytdcclighccejhaa
