/- A reader as a whole: what it may take, what Take, Flag, Skip, Left and Err answer, and what it is then. Conditions: as each says. -/
import Derived.Test.YtiacjgnngdpohaaBitsB
set_option linter.unusedVariables false
namespace Go.Proofs.Ytiacjgnngdpohaa
open Go.RowKit

/-- Block b is a reader of the bytes bs, p of whose digits are taken; f is its failure. -/
structure Rdr (w : World) (b : Nat) (bs : List Nat) (p : Nat) (f : Int) (v : Value) : Prop where
  is : Is w b 127 #[v, .int .i64 p, .int .i64 f]
  row : w.ownsRow 0 5 1 v bs.length (cellsOf bs)
  bytes : ∀ x ∈ bs, x < 256
  small : bs.length ≤ 140737488355328
  place : p ≤ 8 * bs.length

theorem Rdr.only {w w1 : World} {b p : Nat} {bs : List Nat} {f : Int} {v : Value} {S : Nat → Prop} (h : Rdr w b bs p f v) (ho : Only S w w1) (hb : ¬ S b) (hv : ∀ k, v.ownBlock = some k → ¬ S k) : Rdr w1 b bs p f v := by
  refine ⟨h.is.only ho hb, ⟨h.row.1, ?_⟩, h.bytes, h.small, h.place⟩
  rcases h.row.2 with q | ⟨g, cap, cur, rfl, q1, q2, q3⟩
  · exact .inl q
  · exact .inr ⟨g, cap, cur, rfl, q1, (ho.same g (lt_of_heap q2) (hv g rfl)).trans q2, q3⟩
theorem Rdr.apart {w : World} {b p : Nat} {bs : List Nat} {f : Int} {v : Value} (h : Rdr w b bs p f v) : ∀ k, v.ownBlock = some k → ¬ k = b := by
  intro k hk e
  subst e
  rcases h.row.2 with ⟨rfl, _⟩ | ⟨g, cap, cur, rfl, _, q2, _⟩
  · simp [Value.ownBlock] at hk
  · have : g = k := by simpa [Value.ownBlock] using hk
    subst this
    exact Is.apart (t := 5) (u := 127) q2 h.is (by decide) rfl
/-- A reader whose own block alone has changed. -/
theorem Rdr.turn {w w1 : World} {b p q : Nat} {bs : List Nat} {f f' : Int} {v : Value} (h : Rdr w b bs p f v) (ho : Only (fun k => k = b) w w1) (hi : Is w1 b 127 #[v, .int .i64 q, .int .i64 f']) (hq : q ≤ 8 * bs.length) : Rdr w1 b bs q f' v := by
  refine ⟨hi, ⟨h.row.1, ?_⟩, h.bytes, h.small, hq⟩
  have ha := h.apart
  rcases h.row.2 with q | ⟨g, cap, cur, rfl, q1, q2, q3⟩
  · exact .inl q
  · exact .inr ⟨g, cap, cur, rfl, q1, (ho.same g (lt_of_heap q2) (ha g rfl)).trans q2, q3⟩

/-- What a reader's failure is, when n parts of so many digits are asked for. -/
def asked (f n most : Int) (left digits : Nat) : Int :=
  if f ≠ 0 then f else if n < 0 ∨ most < n then 2 else if ((left / digits : Nat) : Int) < n then 10 else 0

theorem quo_fits (a d : Nat) (h : a ≤ 9223372036854775807) : wrap64 ((a : Int) / (d : Int)) = ((a / d : Nat) : Int) := by
  have h1 := Nat.div_le_self a d
  rw [← Int.natCast_ediv]
  generalize a / d = q at *
  exact IntWalk.wrap64_in _ (by omega)

/-- What it is then. -/
def Granted (w : World) (b : Nat) (bs : List Nat) (p : Nat) (f : Int) (v : Value) (e : Ending) (w' : World) : Prop :=
  e = .returned (.bool (decide (f = 0))) ∧ Rdr w' b bs p f v ∧ Only (fun k => k = b) w w'

set_option maxRecDepth 100000 in
set_option maxHeartbeats 400000 in
theorem grants_is (b p : Nat) (bs : List Nat) (f n most : Int) (digits : Nat) (v : Value) (w : World) (h : Rdr w b bs p f v) (hd : 1 ≤ digits) (hd8 : digits ≤ 8) :
    Calls Try.prog 67 #[ptr b, .int .i64 n, .int .i64 most, .int .i64 digits] w (Granted w b bs p (asked f n most (8 * bs.length - p) digits) v) := by
  obtain ⟨A, c, rfl, _⟩ := own_slice h.row
  have hi := h.is
  have hsm := h.small
  have hpl := h.place
  have HR := Lib.hid h
  clear h
  generalize hbl : bs.length = L at *
  have HBL := Lib.hid hbl
  clear hbl
  have hf2 := hi.free 2
  have hc2 := hi.cell 2
  simp at hc2
  by_cases h0 : f = 0
  · subst h0
    by_cases h1 : n < 0 ∨ most < n
    · have ea : asked 0 n most (8 * L - p) digits = 2 := by simp [asked, h1]
      rw [ea]
      have fin : ∀ w' : World, Is w' b 127 #[.slice A L c, .int .i64 p, .int .i64 2] → Only (fun k => k = b) w w' → Granted w b bs p 2 (.slice A L c) (.returned (.bool false)) w' := by
        intro w' q1 q2
        exact ⟨rfl, HR.out.turn q2 q1 (by rw [HBL.out]; exact hpl), q2⟩
      have FIN := Lib.hid fin
      clear fin ea
      rcases Int.lt_or_le n 0 with hn | hn
      · clear h1
        go_enter Try.func67, Try.ntmps67
        go_wp2_with (go_at_call 59; refine (err_is b _ _ _ w hi).mono ?_; rintro e w' ⟨rfl, rfl⟩)
        go_ret
        exact FIN.out _ (Is.put hi 2 _) ((Only.refl (fun k => k = b) w).set (fun _ => rfl) _)
      · have hm : most < n := by rcases h1 with h1 | h1; omega; exact h1
        clear h1
        go_enter Try.func67, Try.ntmps67
        go_wp2_with (go_at_call 59; refine (err_is b _ _ _ w hi).mono ?_; rintro e w' ⟨rfl, rfl⟩)
        go_ret
        exact FIN.out _ (Is.put hi 2 _) ((Only.refl (fun k => k = b) w).set (fun _ => rfl) _)
    · have hn : ¬ n < 0 := by omega
      have hm : ¬ most < n := by omega
      by_cases h2 : (((8 * L - p) / digits : Nat) : Int) < n
      · have ea : asked 0 n most (8 * L - p) digits = 10 := by simp only [asked]; rw [if_neg (by simp), if_neg h1, if_pos h2]
        rw [ea]
        have fin : ∀ w' : World, Is w' b 127 #[.slice A L c, .int .i64 p, .int .i64 10] → Only (fun k => k = b) w w' → Granted w b bs p 10 (.slice A L c) (.returned (.bool false)) w' := by
          intro w' q1 q2
          exact ⟨rfl, HR.out.turn q2 q1 (by rw [HBL.out]; exact hpl), q2⟩
        have FIN := Lib.hid fin
        clear fin ea
        have e3 : wrap64 (((8 * L - p : Nat) : Int) / (digits : Int)) = (((8 * L - p) / digits : Nat) : Int) := quo_fits _ _ (by omega)
        clear h1
        go_enter Try.func67, Try.ntmps67
        go_wp2_with (first | (go_at_call 59; refine (err_is b _ _ _ w hi).mono ?_; rintro e w' ⟨rfl, rfl⟩) | (go_at_call 60; refine (left_is b _ _ _ _ _ w hi (by omega) (by omega)).mono ?_; rintro e w' ⟨rfl, nq, rfl⟩))
        go_ret
        exact FIN.out _ (Is.put (w := w.drewN _) hi 2 _) (((Only.refl (fun k => k = b) w).drewN _).set (fun _ => rfl) _)
      · have ea : asked 0 n most (8 * L - p) digits = 0 := by simp only [asked]; rw [if_neg (by simp), if_neg h1, if_neg h2]
        rw [ea]
        have fin : ∀ w' : World, Is w' b 127 #[.slice A L c, .int .i64 p, .int .i64 0] → Only (fun k => k = b) w w' → Granted w b bs p 0 (.slice A L c) (.returned (.bool true)) w' := by
          intro w' q1 q2
          exact ⟨rfl, HR.out.turn q2 q1 (by rw [HBL.out]; exact hpl), q2⟩
        have FIN := Lib.hid fin
        clear fin ea
        have e3 : wrap64 (((8 * L - p : Nat) : Int) / (digits : Int)) = (((8 * L - p) / digits : Nat) : Int) := quo_fits _ _ (by omega)
        clear h1
        go_enter Try.func67, Try.ntmps67
        go_wp2_with (first | (go_at_call 59; refine (err_is b _ _ _ w hi).mono ?_; rintro e w' ⟨rfl, rfl⟩) | (go_at_call 60; refine (left_is b _ _ _ _ _ w hi (by omega) (by omega)).mono ?_; rintro e w' ⟨rfl, nq, rfl⟩))
        go_ret
        exact FIN.out (w.drewN _) hi ((Only.refl (fun k => k = b) w).drewN _)
  · have ea : asked f n most (8 * L - p) digits = f := by simp only [asked]; rw [if_pos h0]
    rw [ea]
    have fin : ∀ w' : World, w = w' → Granted w b bs p f (.slice A L c) (.returned (.bool false)) w' := by
      rintro w' rfl
      exact ⟨by simp [h0], HR.out, Only.refl _ _⟩
    have FIN := Lib.hid fin
    clear fin ea
    have hb : (f != 0) = true := by simp [h0]
    clear h0
    go_enter Try.func67, Try.ntmps67
    go_wp2_with (go_at_call 59; refine (err_is b _ _ _ w hi).mono ?_; rintro e w' ⟨rfl, rfl⟩)
    go_ret
    exact FIN.out _ rfl
end Go.Proofs.Ytiacjgnngdpohaa
