/- ReorderNone: the walk. Conditions: as it says. -/
import Derived.Test.YtdcclighccejhaaRoT
set_option linter.unusedVariables false
set_option linter.unusedSimpArgs false
namespace Go.Proofs.Ytdcclighccejhaa
open Go Go.RowKit

theorem Try.sizeAc : (Try.prog.info? 44).map (·.size) = some 14 := by kernel_rfl
set_option maxRecDepth 100000 in
set_option maxHeartbeats 4000000 in
theorem rnone_walk (a : Ac) (u : V3) (w : World) (hR : RdU a.p u w) : Calls Try.prog 5 #[.agg (a.cls u).toArray] w (SaysO (.bool true) w) := by
  obtain ⟨q0, q1, q2, q3, q4, q5, q6, q7, q8, q9, q10, hq⟩ : ∃ q0 q1 q2 q3 q4 q5 q6 q7 q8 q9 q10 : Value, a.p.cls u.1 u.2.1 u.2.2 = #[q0, q1, q2, q3, q4, q5, q6, q7, q8, q9, q10] := ⟨_, _, _, _, _, _, _, _, _, _, _, rfl⟩
  obtain ⟨d, hd⟩ : ∃ d, a.d = d := ⟨_, rfl⟩
  obtain ⟨n, hn⟩ : ∃ n, a.n = n := ⟨_, rfl⟩
  obtain ⟨now, hnow⟩ : ∃ now, a.now = now := ⟨_, rfl⟩
  have hcl : a.cls u = [.int .i64 d, .int .u64 (n : Int), .int .u64 (now : Int), q0, q1, q2, q3, q4, q5, q6, q7, q8, q9, q10] := by unfold Ac.cls; rw [hq, hd, hn, hnow]
  have HCL := Lib.hid hcl
  have HONE := Lib.hid (show ∀ v ∈ a.cls u, v.oneCell' = true from fun v hv => by
    have h1 := a.p.cls_one hR.1.s (src_isSl hR.1.e) (src_isSl hR.1.p)
    unfold Ac.cls at hv
    simp only [List.mem_cons] at hv
    rcases hv with rfl | rfl | rfl | hv
    · rfl
    · rfl
    · rfl
    · rw [Array.all_eq_true'] at h1
      exact h1 v (by simpa using hv))
  have HRU := Lib.hid hR
  rw [hcl]
  clear hcl hq hd hn hnow hR
  go_enter Try.func5, Try.ntmps5
  go_wp2_with fail
  generalize hw2 : World.alloc (World.alloc _ _) _ = w2
  have O2 := Lib.hid (show Only (fun _ => False) w w2 from by rw [← hw2]; exact ((Only.refl _ w).alloc _).alloc _)
  have I2 := Lib.hid (show Is w2 w.heap.size 44 #[.int .i64 d, .int .u64 (n : Int), .int .u64 (now : Int), q0, q1, q2, q3, q4, q5, q6, q7, q8, q9, q10] from by rw [← hw2]; exact (Is.made w _ _).alloc _)
  have J2 := Lib.hid (show Is w2 (w.heap.size + 1) 44 #[.int .i64 d, .int .u64 (n : Int), .int .u64 (now : Int), q0, q1, q2, q3, q4, q5, q6, q7, q8, q9, q10] from by
    rw [← hw2]
    have := Is.made (w.alloc (.cells #[.int .i64 d, .int .u64 (n : Int), .int .u64 (now : Int), q0, q1, q2, q3, q4, q5, q6, q7, q8, q9, q10] 44)) 44 #[.int .i64 d, .int .u64 (n : Int), .int .u64 (now : Int), q0, q1, q2, q3, q4, q5, q6, q7, q8, q9, q10]
    rw [World.size_alloc] at this
    exact this)
  obtain ⟨gA, hgA⟩ : ∃ gA, w.heap.size = gA := ⟨_, rfl⟩
  obtain ⟨gB, hgB⟩ : ∃ gB, w.heap.size + 1 = gB := ⟨_, rfl⟩
  rw [hgB] at J2 ⊢
  rw [hgA] at I2 ⊢
  have HF := Lib.hid (rfew_is (.slice (some ⟨gB, 0, none⟩) 1 1) [a] [u] 1 w2 ⟨⟨_, 1, rfl, Nat.le_refl _⟩, rfl, fun i b x hb hx => by
    cases i with
    | zero =>
      simp at hb hx
      subst hb hx
      refine ⟨⟨gB, 0, 1, 1, rfl, fun j v hj => ?_⟩, HRU.out.pure O2.out⟩
      rw [show 0 + 0 * 14 + j = j by omega, J2.out.cell]
      rw [HCL.out] at hj
      simpa using hj
    | succ i => simp at hb⟩ (by decide) (by simp))
  clear hw2 hgA hgB J2
  refine HF.out.mono ?_
  rintro e w3 ⟨rfl, ho3⟩
  have O3 := Lib.hid (O2.out.trans ho3 (fun _ _ e => e))
  have I3 := Lib.hid (I2.out.only ho3 (by simp))
  clear ho3 HF O2 I2
  obtain ⟨bf, hbf⟩ : ∃ bf, fewA [a] 1 = bf := ⟨_, rfl⟩
  rw [hbf]
  clear hbf
  cases bf with
  | false =>
    go_wp2_with fail
    refine (rworks_is _).mono ?_
    rintro e w4 ⟨rfl, ho4⟩
    have O4 := Lib.hid ho4
    clear ho4
    go_wp2
    go_ret
    exact ⟨rfl, O3.out.trans O4.out (fun _ _ e => e)⟩
  | true =>
    have c1 : w3.cell? ⟨gA, 1, none⟩ = some (.int .u64 (n : Int)) := I3.out.cell 1
    have c2 : w3.cell? ⟨gA, 2, none⟩ = some (.int .u64 (now : Int)) := I3.out.cell 2
    have RA := Lib.hid (show w3.rangeAt gA 3 [q0, q1, q2, q3, q4, q5, q6, q7, q8, q9, q10] from fun j v hj => by
      rw [I3.out.cell]
      have : (#[.int .i64 d, .int .u64 (n : Int), .int .u64 (now : Int), q0, q1, q2, q3, q4, q5, q6, q7, q8, q9, q10])[3 + j]? = ([q0, q1, q2, q3, q4, q5, q6, q7, q8, q9, q10])[j]? := by
        rw [show 3 + j = j + 3 by omega]
        simp
      rw [this, hj])
    have hsz : (Try.prog.info? 42).map (·.size) = some ([q0, q1, q2, q3, q4, q5, q6, q7, q8, q9, q10]).length := Try.sizePq
    have HOO := Lib.hid (Only.refl (fun _ => False) w3)
    have HLT := Lib.hid I3.out.lt
    have HC2 := Lib.hid c2
    go_wp2_with (first
      | (refine wpList_load_mid rfl 42 _ rfl gA 3 rfl [q0, q1, q2, q3, q4, q5, q6, q7, q8, q9, q10] _ RA.out Try.underlying42 rfl hsz ?_)
      | (refine (rin_nil n now (.agg #[q0, q1, q2, q3, q4, q5, q6, q7, q8, q9, q10]) _ ⟨_, rfl, rfl⟩).mono ?_; rintro e w5 ⟨rfl, ho5⟩; replace HOO := Lib.hid (HOO.out.trans ho5 (fun _ _ e => e)); have c25 := grown_cell HOO.out HC2.out HLT.out; clear ho5)
      | (refine (rnext_nil _).mono ?_; rintro e w5 ⟨rfl, ho5⟩; replace HOO := Lib.hid (HOO.out.trans ho5 (fun _ _ e => e)); have c26 := grown_cell HOO.out HC2.out HLT.out; clear ho5)
      | (refine (rtick_nil now _).mono ?_; rintro e w5 ⟨rfl, ho5⟩; replace HOO := Lib.hid (HOO.out.trans ho5 (fun _ _ e => e)); clear ho5)
      | (refine (rflush_nil _).mono ?_; rintro e w5 ⟨rfl, ho5⟩; replace HOO := Lib.hid (HOO.out.trans ho5 (fun _ _ e => e)); clear ho5)
      | (refine (rwait_nil _).mono ?_; rintro e w5 ⟨rfl, ho5⟩; replace HOO := Lib.hid (HOO.out.trans ho5 (fun _ _ e => e)); clear ho5)
      | (refine (rworks_is _).mono ?_; rintro e w5 ⟨rfl, ho5⟩; replace HOO := Lib.hid (HOO.out.trans ho5 (fun _ _ e => e)); clear ho5))
    go_ret
    exact ⟨rfl, O3.out.trans HOO.out (fun _ _ e => e)⟩
end Go.Proofs.Ytdcclighccejhaa
