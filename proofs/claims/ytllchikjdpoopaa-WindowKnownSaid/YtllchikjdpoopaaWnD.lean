/- A window's In, Top, Count, Word; Of. Conditions: as each says. -/
import Derived.Test.YtllchikjdpoopaaWnC
set_option linter.unusedVariables false
namespace Go.Proofs.Ytllchikjdpoopaa
open Go Go.RowKit

set_option maxHeartbeats 400000 in
theorem in_nil (n : Nat) (w : World) : Calls Try.prog 12 #[.pointer none, .int .u64 (n : Int)] w fun e w' => e = .returned (.int .i64 2) ∧ w = w' := by
  go_enter Try.func12, Try.ntmps12
  go_wp2_with fail
  refine (look_nil _ _).mono ?_
  rintro e w1 ⟨rfl, rfl⟩
  go_wp2_with fail
  refine (reaches_nil _).mono ?_
  rintro e w1 ⟨rfl, rfl⟩
  go_wp2
  go_ret
  exact ⟨rfl, rfl⟩
/-- What In leaves. -/
def Came (b n : Nat) (m : Wm) (w : World) (e : Ending) (w' : World) : Prop := e = .returned (.int .i64 (m.look n : Int)) ∧ Wnd w' b (m.inn n) ∧ Only (fun k => k = b) w w'
set_option maxRecDepth 20000 in
set_option maxHeartbeats 2000000 in
theorem in_is (b n : Nat) (m : Wm) (w : World) (h : Wnd w b m) (hf : m.Fit) (hn : n < 18446744073709551616) (hc : m.c (m.look n) + 1 < 18446744073709551616) : Calls Try.prog 12 #[ptr b, .int .u64 (n : Int)] w (Came b n m w) := by
  obtain ⟨D, h⟩ := h
  have HL := Lib.hid (look_is b n m D w h hf)
  have HR := Lib.hid (fun (w1 : World) (ho : Only (fun _ => False) w w1) => reaches_is b m D w1 (h.only ho (by simp)) hf)
  have HX := Lib.hid (fun (w1 : World) (ho : Only (fun _ => False) w w1) => h.only ho (by simp))
  have HKE := Lib.hid (fun (w1 : World) (h : Wnd w1 b (m.tell 0)) => keep_is b n (m.tell 0) w1 h (hf.tell 0) hn)
  have HIN := Lib.hid (show m.inn n = if m.look n = 0 then (m.tell 0).keep n else m.tell (m.look n) from rfl)
  have hs := m.look_lt n
  unfold Came
  generalize m.inn n = mi at *
  generalize m.look n = s at *
  clear h hf
  have hs2 : (s : Int) < 3 := by omega
  have e1 : IntKind.u64.wrap ((m.c s : Int) + 1) = ((m.c s + 1 : Nat) : Int) := by rw [IntKind.wrap_u64]; omega
  go_enter Try.func12, Try.ntmps12
  go_wp2_with fail
  refine HL.out.mono ?_
  rintro e w1 ⟨rfl, ho⟩
  have HO := Lib.hid ho
  clear ho
  go_wp2_with fail
  refine (HR.out _ HO.out).mono ?_
  rintro e w2 ⟨rfl, rfl⟩
  have W1 := Lib.hid (HX.out _ HO.out)
  have c0 := W1.out.count s hs
  have f0 := W1.out.free (20 + s)
  have SC := Lib.hid (W1.out.setCount s hs).drew
  have OC := Lib.hid (((HO.out.mono (T := fun k => k = b) (by simp)).setIn (i := 20 + s) (.int .u64 ((m.c s + 1 : Nat) : Int))).drew)
  rw [show ((m.c s + 1 : Nat) : Int) = (m.c s : Int) + 1 from rfl] at SC OC e1
  generalize m.c s = c at *
  go_upto_region 4 with (fail)
  go_still_tail 10, (by kernel_rfl)
  go_upto_region 5 with (fail)
  generalize World.drew (World.setCell _ _ _) = w3 at *
  clear c0 f0 e1
  by_cases hs0 : s = 0
  · subst hs0
    rw [if_pos rfl] at HIN
    go_wp2_with fail
    refine (HKE.out _ ⟨_, SC.out⟩).mono ?_
    rintro e w4 ⟨rfl, hd, ho⟩
    have HD := Lib.hid hd
    have HO4 := Lib.hid (OC.out.trans ho (fun _ _ e => e))
    clear hd ho
    go_wp2
    go_ret
    exact ⟨rfl, by rw [HIN.out]; exact HD.out, HO4.out⟩
  · rw [if_neg hs0] at HIN
    go_wp2
    go_ret
    exact ⟨rfl, by rw [HIN.out]; exact ⟨_, SC.out⟩, OC.out⟩
set_option maxHeartbeats 400000 in
theorem top_nil (w : World) : Calls Try.prog 13 #[.pointer none] w fun e w' => e = .returned (.tuple #[.int .u64 0, .bool false]) ∧ w = w' := by
  go_enter Try.func13, Try.ntmps13
  go_wp2
  go_ret2
  exact ⟨rfl, rfl⟩
set_option maxHeartbeats 400000 in
theorem top_is (b : Nat) (m : Wm) (w : World) (h : Wnd w b m) : Calls Try.prog 13 #[ptr b] w (Says (.tuple #[.int .u64 (m.top : Int), .bool m.some]) w) := by
  obtain ⟨D, h⟩ := h
  have c1 := h.went
  have c2 := h.top
  generalize m.top = t at *
  generalize m.some = s at *
  clear h
  go_enter Try.func13, Try.ntmps13
  go_upto_region 3 with (fail)
  go_quiet (fail)
  go_wp2
  go_ret2
  exact ⟨rfl, (Only.refl _ w).drewN _⟩
set_option maxHeartbeats 400000 in
theorem count_nil (s : Int) (w : World) : Calls Try.prog 18 #[.pointer none, .int .i64 s] w fun e w' => e = .returned (.int .u64 0) ∧ w = w' := by
  go_enter Try.func18, Try.ntmps18
  go_wp2
  go_ret
  exact ⟨rfl, rfl⟩
set_option maxHeartbeats 400000 in
theorem count_out (b : Nat) (s : Int) (m : Wm) (w : World) (hs : ¬ (0 ≤ s ∧ s < 3)) : Calls Try.prog 18 #[ptr b, .int .i64 s] w fun e w' => e = .returned (.int .u64 0) ∧ w = w' := by
  by_cases h0 : s < 0
  · go_enter Try.func18, Try.ntmps18
    go_wp2
    go_ret
    exact ⟨rfl, rfl⟩
  · have h2 : 2 < s := by omega
    go_enter Try.func18, Try.ntmps18
    go_wp2
    go_ret
    exact ⟨rfl, rfl⟩
set_option maxHeartbeats 1000000 in
theorem count_is (b s : Nat) (m : Wm) (w : World) (h : Wnd w b m) (hs : s < 3) : Calls Try.prog 18 #[ptr b, .int .i64 (s : Int)] w fun e w' => e = .returned (.int .u64 (m.c s : Int)) ∧ w = w' := by
  obtain ⟨D, h⟩ := h
  have c0 := h.count s hs
  generalize m.c s = c at *
  have h1 : ¬ (2 < s) := by omega
  have h2 : (s : Int) < 3 := by omega
  clear h
  go_enter Try.func18, Try.ntmps18
  go_wp2
  go_ret
  exact ⟨rfl, rfl⟩
def wordS (s : Int) : ByteArray := if s = 0 then ⟨#[110, 101, 119]⟩ else if s = 1 then ⟨#[116, 119, 105, 99, 101]⟩ else if s = 2 then ⟨#[108, 97, 116, 101]⟩ else ⟨#[]⟩
set_option maxHeartbeats 1000000 in
theorem word_is (s : Int) (w : World) : Calls Try.prog 19 #[.int .i64 s] w fun e w' => e = .returned (.string (wordS s)) ∧ w = w' := by
  unfold wordS
  by_cases h0 : s = 0
  · subst h0
    go_enter Try.func19, Try.ntmps19
    go_wp2
    go_ret
    exact ⟨rfl, rfl⟩
  by_cases h1 : s = 1
  · subst h1
    go_enter Try.func19, Try.ntmps19
    go_wp2
    go_ret
    exact ⟨rfl, rfl⟩
  by_cases h2 : s = 2
  · subst h2
    go_enter Try.func19, Try.ntmps19
    go_wp2
    go_ret
    exact ⟨rfl, rfl⟩
  rw [if_neg h0, if_neg h1, if_neg h2]
  have h3 : (s == 0) = false := beq_eq_false_iff_ne.2 h0
  have h4 : (s == 1) = false := beq_eq_false_iff_ne.2 h1
  have h5 : (s == 2) = false := beq_eq_false_iff_ne.2 h2
  clear h0 h1 h2
  go_enter Try.func19, Try.ntmps19
  go_wp2
  go_ret
  exact ⟨rfl, rfl⟩
set_option maxHeartbeats 1000000 in
theorem rword_is (s : Int) (w : World) : Calls Try.prog 20 #[.int .i64 s] w fun e w' => e = .returned (.string (wordS s)) ∧ w = w' := by
  unfold wordS
  by_cases h0 : s = 0
  · subst h0
    go_enter Try.func20, Try.ntmps20
    go_wp2
    go_ret
    exact ⟨rfl, rfl⟩
  by_cases h1 : s = 1
  · subst h1
    go_enter Try.func20, Try.ntmps20
    go_wp2
    go_ret
    exact ⟨rfl, rfl⟩
  by_cases h2 : s = 2
  · subst h2
    go_enter Try.func20, Try.ntmps20
    go_wp2
    go_ret
    exact ⟨rfl, rfl⟩
  rw [if_neg h0, if_neg h1, if_neg h2]
  have h3 : (s == 0) = false := beq_eq_false_iff_ne.2 h0
  have h4 : (s == 1) = false := beq_eq_false_iff_ne.2 h1
  have h5 : (s == 2) = false := beq_eq_false_iff_ne.2 h2
  clear h0 h1 h2
  go_enter Try.func20, Try.ntmps20
  go_wp2
  go_ret
  exact ⟨rfl, rfl⟩
theorem Wm.Fit.new {s : Nat} (h1 : 1 ≤ s) (h2 : s ≤ 1024) : (Wm.new s).Fit := ⟨h1, h2, Nat.zero_lt_succ _, Nat.zero_lt_succ _⟩
set_option maxHeartbeats 1000000 in
theorem of_none (z : Int) (w : World) (h : ¬ (1 ≤ z ∧ z ≤ 1024)) : Calls Try.prog 8 #[.int .i64 z] w fun e w' => e = .returned (.tuple #[.pointer none, .int .i64 2]) ∧ w = w' := by
  by_cases h1 : z < 1
  · go_enter Try.func8, Try.ntmps8
    go_wp2
    go_ret2
    exact ⟨rfl, rfl⟩
  · have h2 : 1024 < z := by omega
    go_enter Try.func8, Try.ntmps8
    go_wp2
    go_ret2
    exact ⟨rfl, rfl⟩
/-- A window is answered, in new memory. -/
def NewW (s : Nat) (w : World) (e : Ending) (w' : World) : Prop := ∃ b, e = .returned (.tuple #[ptr b, .int .i64 0]) ∧ w.heap.size ≤ b ∧ Wnd w' b (Wm.new s) ∧ Only (fun _ => False) w w'
set_option maxHeartbeats 1000000 in
theorem of_is (s : Nat) (w : World) (h1 : 1 ≤ s) (h2 : s ≤ 1024) : Calls Try.prog 8 #[.int .i64 (s : Int)] w (NewW s w) := by
  have e1 : IntKind.u64.wrap (s : Int) = (s : Int) := by rw [IntKind.wrap_u64]; omega
  have h3 : ¬ (s < 1) := by omega
  have h4 : ¬ (1024 < s) := by omega
  go_enter Try.func8, Try.ntmps8
  go_wp2
  go_ret2
  exact ⟨_, rfl, Nat.le_refl _, ⟨fun _ => 0, Is.made _ _ _, DW.nil⟩, (Only.refl _ w).alloc _⟩
end Go.Proofs.Ytllchikjdpoopaa
