/- Parse of any bytes; IsRtcp. Conditions: as each says. -/
import Derived.Test.YtcgfmjdlningpaaRtpI
set_option linter.unusedVariables false
namespace Go.Proofs.Ytcgfmjdlningpaa
open Go.RowKit

theorem parse_any (v : Value) (bs : List Nat) (w : World) (h : Src w v bs) (hb : ∀ x ∈ bs, x < 256) (hl : bs.length ≤ 1000000) :
    Calls Try.prog 16 #[v] w (GotPk w bs) := by
  by_cases h12 : bs.length < 12
  · obtain ⟨A, c, rfl⟩ := h.slice
    refine (parse_short A bs.length c w h12).mono ?_
    rintro e w' ⟨rfl, ho⟩
    have he : parseErr bs = 10 := by unfold parseErr; rw [if_pos h12]
    exact ⟨ho, .inl ⟨by rw [he]; decide, by rw [he]; rfl⟩⟩
  · by_cases hver : b0 bs / 64 = 2
    · by_cases hcs : (bs.drop 12).length < 4 * many bs
      · refine (parse_csrc v bs w h hb (by omega) hl hver hcs).mono ?_
        rintro e w' ⟨rfl, ho⟩
        have he : parseErr bs = 10 := by unfold parseErr; rw [if_neg h12, if_neg (by omega), if_pos hcs]
        exact ⟨ho, .inl ⟨by rw [he]; decide, by rw [he]; rfl⟩⟩
      · exact parse_main v bs w h hb (by omega) hl hver (by omega)
    · obtain ⟨g, o, c, rfl, hlc, hc⟩ := h.cap (by omega)
      have q0 := hc 0 (by omega)
      have hb0 : bs[0]'(by omega) = b0 bs := by unfold b0; rw [List.getD_eq_getElem?_getD, List.getElem?_eq_getElem (by omega)]; rfl
      rw [hb0, Nat.add_zero] at q0
      have hc0 : b0 bs < 256 := by rw [← hb0]; exact hb _ (List.getElem_mem _)
      refine (parse_version g o c bs.length (b0 bs) w (by omega) hc0 hver q0).mono ?_
      rintro e w' ⟨rfl, ho⟩
      have he : parseErr bs = 20 := by unfold parseErr; rw [if_neg h12, if_pos hver]
      exact ⟨ho, .inl ⟨by rw [he]; decide, by rw [he]; rfl⟩⟩

def isRtcp (bs : List Nat) : Bool := decide (2 ≤ bs.length) && decide (192 ≤ bs.getD 1 0) && decide (bs.getD 1 0 ≤ 223)
set_option maxRecDepth 100000 in
set_option maxHeartbeats 400000 in
theorem rtcp_is (v : Value) (bs : List Nat) (w : World) (h : Src w v bs) (hb : ∀ x ∈ bs, x < 256) :
    Calls Try.prog 19 #[v] w fun e w' => e = .returned (.bool (isRtcp bs)) ∧ w = w' := by
  by_cases h2 : 2 ≤ bs.length
  · obtain ⟨g, o, c, rfl, hlc, hc⟩ := h.cap (by omega)
    have q1 := hc 1 (by omega)
    have hb1 : bs[1]'(by omega) = bs.getD 1 0 := by rw [List.getD_eq_getElem?_getD, List.getElem?_eq_getElem (by omega)]; rfl
    rw [hb1] at q1
    have hr : isRtcp bs = (decide (192 ≤ bs.getD 1 0) && decide (bs.getD 1 0 ≤ 223)) := by unfold isRtcp; rw [decide_eq_true h2]; rfl
    rw [hr]
    clear hr hb hc h hb1
    generalize bs.getD 1 0 = x at *
    generalize bs.length = L at *
    have z : 1 < L := by omega
    have z2 : (2 : Int) ≤ (L : Int) := by omega
    by_cases h3 : 192 ≤ x
    · have z3 : (192 : Int) ≤ (x : Int) := by omega
      go_enter Try.func19, Try.ntmps19
      go_wp2
      go_ret
      refine ⟨?_, rfl⟩
      by_cases h4 : x ≤ 223
      · simp [h3, h4] <;> omega
      · simp [h3, h4] <;> omega
    · have z3 : decide ((192 : Int) ≤ (x : Int)) = false := decide_eq_false (by omega)
      go_enter Try.func19, Try.ntmps19
      go_wp2
      go_ret
      exact ⟨by simp [h3], rfl⟩
  · obtain ⟨A, c, rfl⟩ := h.slice
    have hr : isRtcp bs = false := by simp [isRtcp, h2]
    rw [hr]
    clear hr hb h
    generalize bs.length = L at *
    have z2 : decide ((2 : Int) ≤ (L : Int)) = false := decide_eq_false (by omega)
    go_enter Try.func19, Try.ntmps19
    go_wp2
    go_ret
    exact ⟨rfl, rfl⟩
end Go.Proofs.Ytcgfmjdlningpaa
