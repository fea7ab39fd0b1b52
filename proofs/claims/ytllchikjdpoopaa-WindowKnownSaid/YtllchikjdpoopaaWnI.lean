/- The reference's window: plainly; has, Top, bottom, Look. Conditions: as each says. -/
import Derived.Test.YtllchikjdpoopaaWnAp
set_option linter.unusedVariables false
namespace Go.Proofs.Ytllchikjdpoopaa
open Go Go.RowKit

def rTop (L : List Nat) : Nat := L.foldl max 0
def rBot (s : Nat) (L : List Nat) : Nat := if rTop L < s then 0 else rTop L - s + 1
def rLook (s : Nat) (L : List Nat) (n : Nat) : Nat := if L = [] ∨ rTop L < n then 0 else if n < rBot s L then 2 else if n ∈ L then 1 else 0
def rIn (s : Nat) (L : List Nat) (n : Nat) : List Nat := if rLook s L n = 0 then L ++ [n] else L
def rLeast (L : List Nat) : Nat := L.foldl min (rTop L)
def rMissTo (L : List Nat) (lo k : Nat) : List Nat := (List.range' lo (k - lo)).filter fun n => !decide (n ∈ L)
def rMiss (s : Nat) (L : List Nat) : List Nat := if L = [] then [] else rMissTo L (max (rBot s L) (rLeast L)) (rTop L)
/-- The reference's window, as a struct. -/
abbrev rwV (s : Nat) (v : Value) : Value := .agg #[.int .i64 (s : Int), v]
theorem foldl_max_le : ∀ (L : List Nat) (a b : Nat), a ≤ b → (∀ x ∈ L, x ≤ b) → L.foldl max a ≤ b
  | [], _, _, h, _ => h
  | x :: L, a, b, h, hx => foldl_max_le L (max a x) b (by have := hx x (by simp); omega) (fun y hy => hx y (by simp [hy]))
theorem rTop_lt {L : List Nat} (h : ∀ x ∈ L, x < 18446744073709551616) : rTop L < 18446744073709551616 := by
  have := foldl_max_le L 0 18446744073709551615 (by omega) (fun x hx => by have := h x hx; omega)
  unfold rTop
  omega
theorem take_snoc (L : List Nat) (k : Nat) (h : k < L.length) : L.take (k + 1) = L.take k ++ [L[k]] := by
  have := List.take_add_one (l := L) (i := k)
  rw [List.getElem?_eq_getElem h] at this
  exact this
theorem foldl_take {β : Type} (f : β → Nat → β) (a : β) (L : List Nat) (k : Nat) (h : k < L.length) : (L.take (k + 1)).foldl f a = f ((L.take k).foldl f a) L[k] := by
  rw [take_snoc L k h, List.foldl_append]
  rfl

set_option maxRecDepth 20000 in
set_option maxHeartbeats 1000000 in
theorem rhas_is (n : Nat) (v : Value) (L : List Nat) (w : World) (hv : Rd .u64 w v (nats L)) (hl : L.length ≤ 9223372036854775807) :
    Calls Try.prog 26 #[v, .int .u64 (n : Int)] w fun e w' => e = .returned (.bool (decide (n ∈ L))) ∧ w = w' := by
  obtain ⟨A, c, rfl, hlc, hh⟩ := hv
  rw [nats_length] at hlc
  rw [nats_length]
  obtain ⟨N, hN⟩ : ∃ N, L.length = N := ⟨_, rfl⟩
  have HN := Lib.hid hN
  have HH := Lib.hid hh
  rw [hN] at hl hlc ⊢
  clear hN hh
  go_enter Try.func26, Try.ntmps26
  go_wp2
  go_loopw [5] (fun s5 wr => ∃ k : Nat, k ≤ N ∧ s5 = .int .i64 k ∧ wr = w ∧ n ∉ L.take k) (fun s5 _ => N - (intOf s5).toNat)
  case atStart => exact ⟨0, by omega, rfl, rfl, by simp⟩
  case round =>
    obtain ⟨k, hk, rfl, rfl, hno⟩ := hrel
    have HNO := Lib.hid hno
    clear hno
    by_cases hkl : k < N
    · have hkI : (k : Int) < (N : Int) := by omega
      obtain ⟨g1, o1, rfl, hc1⟩ := HH.out (by rw [nats_length, HN.out]; omega)
      have hkn : k < (nats L).length := by rw [nats_length, HN.out]; exact hkl
      have hkx : k < L.length := by rw [HN.out]; exact hkl
      have r1 := hc1 k hkn
      rw [show (nats L)[k] = ((L[k] : Nat) : Int) from by simp [nats]] at r1
      have HT := Lib.hid (show n ∉ L.take (k + 1) ↔ n ∉ L.take k ∧ n ≠ L[k] from by
        rw [take_snoc L k hkx, List.mem_append, List.mem_singleton, not_or])
      have HI := Lib.hid (List.getElem_mem hkx)
      generalize L[k] = z at *
      clear hc1 hkn hkx
      by_cases hz : z = n
      · subst hz
        go_wp2
        go_ret
        exact ⟨by rw [decide_eq_true HI.out]; rfl, rfl⟩
      · have hz2 : ((z : Int) == (n : Int)) = false := by rw [beq_eq_false_iff_ne]; omega
        go_wp2
        exact ⟨⟨k + 1, by omega, by go_num, trivial, HT.out.2 ⟨HNO.out, fun e => hz e.symm⟩⟩, by simp [intOf]; omega⟩
    · obtain rfl : k = N := by omega
      have HM := Lib.hid (show n ∉ L from by
        have := HNO.out
        rwa [List.take_of_length_le (by rw [HN.out]; exact Nat.le_refl _)] at this)
      go_wp2
      go_ret
      exact ⟨by rw [decide_eq_false HM.out]; rfl, rfl⟩

set_option maxRecDepth 20000 in
set_option maxHeartbeats 1000000 in
theorem rtop_is (s : Nat) (v : Value) (L : List Nat) (w : World) (hv : Rd .u64 w v (nats L)) (hl : L.length ≤ 9223372036854775807) :
    Calls Try.prog 14 #[rwV s v] w (Says (.tuple #[.int .u64 (rTop L : Int), .bool (decide (L ≠ []))]) w) := by
  obtain ⟨A, c, rfl, hlc, hh⟩ := hv
  rw [nats_length] at hlc
  rw [nats_length]
  obtain ⟨N, hN⟩ : ∃ N, L.length = N := ⟨_, rfl⟩
  have HN := Lib.hid hN
  have HH := Lib.hid hh
  have HD := Lib.hid (show decide (L ≠ []) = decide (0 < N) from by rw [← hN]; cases L <;> simp)
  rw [HD.out]
  rw [hN] at hl hlc ⊢
  clear hN hh
  go_enter Try.func14, Try.ntmps14
  go_upto_region 1 with (fail)
  generalize hw1 : World.alloc w _ = w1
  have C1 := Lib.hid (show w1.cell? ⟨w.heap.size, 1, none⟩ = some (.slice A N c) from by rw [← hw1]; simp)
  have O1 := Lib.hid (show Only (fun _ => False) w w1 from by rw [← hw1]; exact (Only.refl _ w).alloc _)
  generalize w.heap.size = g at *
  clear hw1
  have c1 := C1.out
  go_wp2
  go_loopw [4, 5] (fun s4 s5 wr => ∃ k : Nat, k ≤ N ∧ s5 = .int .i64 k ∧ wr = w1 ∧ s4 = .int .u64 (((L.take k).foldl max 0 : Nat) : Int)) (fun _ s5 _ => N - (intOf s5).toNat)
  case atStart => exact ⟨0, by omega, rfl, rfl, rfl⟩
  case round =>
    obtain ⟨k, hk, rfl, rfl, rfl⟩ := hrel
    by_cases hkl : k < N
    · have hkI : (k : Int) < (N : Int) := by omega
      obtain ⟨g1, o1, rfl, hc1⟩ := HH.out (by rw [nats_length, HN.out]; omega)
      have hkn : k < (nats L).length := by rw [nats_length, HN.out]; exact hkl
      have hkx : k < L.length := by rw [HN.out]; exact hkl
      have r0 := hc1 k hkn
      rw [show (nats L)[k] = ((L[k] : Nat) : Int) from by simp [nats]] at r0
      have r1 := (O1.out.cell (World.block_lt_of_cell? w ⟨g1, o1 + k, none⟩ r0) (by simp)).trans r0
      have HT := Lib.hid (foldl_take max 0 L k hkx)
      generalize L[k] = z at *
      generalize (L.take k).foldl max 0 = a at *
      clear hc1 hkn hkx r0
      go_wp2
      exact ⟨⟨k + 1, by omega, by go_num, trivial, int_congr (by rw [HT.out]; split <;> omega)⟩, by simp [intOf]; omega⟩
    · obtain rfl : k = N := by omega
      have HM := Lib.hid (show L.take k = L from List.take_of_length_le (by rw [HN.out]; exact Nat.le_refl _))
      rw [HM.out]
      have HRT := Lib.hid (show L.foldl max 0 = rTop L from rfl)
      rw [HRT.out]
      generalize rTop L = t at *
      go_wp2
      go_quiet (fail)
      go_wp2
      go_ret2
      exact ⟨rfl, O1.out.drewN _⟩
theorem Try.sizeRw : (Try.prog.info? 30).map (·.size) = some 2 := by kernel_rfl
theorem Rd.said {k : IntKind} {w w1 : World} {v : Value} {zs : List Int} (h : Rd k w v zs) (ho : Only (fun _ => False) w w1) : Rd k w1 v zs := h.only ho (by simp)
set_option maxRecDepth 20000 in
set_option maxHeartbeats 1000000 in
theorem rbot_is (s : Nat) (v : Value) (L : List Nat) (w : World) (hv : Rd .u64 w v (nats L)) (hl : L.length ≤ 9223372036854775807) (hs1 : 1 ≤ s) (hs2 : s ≤ 1024) (hL : ∀ x ∈ L, x < 18446744073709551616) :
    Calls Try.prog 25 #[rwV s v] w (Says (.int .u64 (rBot s L : Int)) w) := by
  have HT := Lib.hid (fun (w1 : World) (ho : Only (fun _ => False) w w1) => rtop_is s v L w1 (hv.said ho) hl)
  have ht := rTop_lt hL
  unfold rBot
  generalize rTop L = t at *
  have e1 : IntKind.u64.wrap (s : Int) = (s : Int) := by rw [IntKind.wrap_u64]; omega
  obtain ⟨A, c, rfl, -, -⟩ := hv
  generalize (nats L).length = N at *
  clear hL
  obtain ⟨r, hr⟩ : ∃ r, (if t < s then 0 else t - s + 1) = r := ⟨_, rfl⟩
  rw [hr]
  have HRR := Lib.hid hr
  clear hr
  go_enter Try.func25, Try.ntmps25
  go_upto_region 1 with (fail)
  generalize hw1 : World.alloc w _ = w1
  have I1 := Lib.hid (show Is w1 w.heap.size 30 #[.int .i64 (s : Int), .slice A N c] from by rw [← hw1]; exact Is.made w _ _)
  have O1 := Lib.hid (show Only (fun _ => False) w w1 from by rw [← hw1]; exact (Only.refl _ w).alloc _)
  generalize w.heap.size = g at *
  clear hw1
  go_wp2_with (refine wpList_load_want (o := ⟨some 6, _, _, _, _, _⟩) rfl _ _ rfl g rfl _ _ _ I1.out Try.underlying30 rfl Try.sizeRw ?_)
  refine (HT.out _ O1.out).mono ?_
  rintro e w2 ⟨rfl, ho⟩
  have c0 := (I1.out.only ho (by simp)).cell 0
  simp at c0
  have O2 := Lib.hid (O1.out.trans ho (fun _ _ e => e))
  clear ho I1 O1 HT
  by_cases hts : t < s
  · go_wp2
    go_ret
    exact ⟨by rw [← HRR.out, if_pos hts]; rfl, O2.out⟩
  · have h3 : s ≤ t := by omega
    have e2 : IntKind.u64.wrap ((t : Int) - (s : Int)) = ((t - s : Nat) : Int) := by rw [IntKind.wrap_u64]; omega
    have e3 : IntKind.u64.wrap (((t - s : Nat) : Int) + 1) = ((t - s + 1 : Nat) : Int) := by rw [IntKind.wrap_u64]; omega
    have HE := Lib.hid (show t - s + 1 = r from by rw [← HRR.out, if_neg hts])
    clear HRR
    go_wp2
    go_ret
    exact ⟨by rw [← HE.out]; rfl, O2.out⟩
set_option maxRecDepth 20000 in
set_option maxHeartbeats 1000000 in
theorem rlook_is (s n : Nat) (v : Value) (L : List Nat) (w : World) (hv : Rd .u64 w v (nats L)) (hl : L.length ≤ 9223372036854775807) (hs1 : 1 ≤ s) (hs2 : s ≤ 1024) (hL : ∀ x ∈ L, x < 18446744073709551616) :
    Calls Try.prog 11 #[rwV s v, .int .u64 (n : Int)] w (Says (.int .i64 (rLook s L n : Int)) w) := by
  have HT := Lib.hid (fun (w1 : World) (ho : Only (fun _ => False) w w1) => rtop_is s v L w1 (hv.said ho) hl)
  have HB := Lib.hid (fun (w1 : World) (ho : Only (fun _ => False) w w1) => rbot_is s v L w1 (hv.said ho) hl hs1 hs2 hL)
  have HH := Lib.hid (fun (w1 : World) (ho : Only (fun _ => False) w w1) => rhas_is n v L w1 (hv.said ho) hl)
  obtain ⟨r, hr⟩ : ∃ r, rLook s L n = r := ⟨_, rfl⟩
  rw [hr]
  unfold rLook at hr
  generalize rTop L = t at *
  generalize rBot s L = bo at *
  obtain ⟨x, hx⟩ : ∃ x, decide (n ∈ L) = x := ⟨_, rfl⟩
  obtain ⟨q, hq⟩ : ∃ q, decide (L ≠ []) = q := ⟨_, rfl⟩
  rw [hx] at HH
  rw [hq] at HT
  obtain ⟨A, c, rfl, -, -⟩ := hv
  generalize (nats L).length = N at *
  have HR := Lib.hid (show (if q = false ∨ t < n then 0 else if n < bo then 2 else if x = true then 1 else 0) = r from by
    rw [← hr, ← hx, ← hq]
    simp only [decide_eq_false_iff_not, decide_eq_true_eq, ne_eq, Decidable.not_not])
  clear hL hr hx hq
  go_enter Try.func11, Try.ntmps11
  go_upto_region 1 with (fail)
  generalize hw1 : World.alloc w _ = w1
  have I1 := Lib.hid (show Is w1 w.heap.size 30 #[.int .i64 (s : Int), .slice A N c] from by rw [← hw1]; exact Is.made w _ _)
  have O1 := Lib.hid (show Only (fun _ => False) w w1 from by rw [← hw1]; exact (Only.refl _ w).alloc _)
  generalize w.heap.size = g at *
  clear hw1
  go_wp2_with (refine wpList_load_want (o := ⟨some 8, _, _, _, _, _⟩) rfl _ _ rfl g rfl _ _ _ I1.out Try.underlying30 rfl Try.sizeRw ?_)
  refine (HT.out _ O1.out).mono ?_
  rintro e w2 ⟨rfl, ho⟩
  have I2 := Lib.hid (I1.out.only ho (by simp))
  have O2 := Lib.hid (O1.out.trans ho (fun _ _ e => e))
  clear ho I1 O1 HT
  by_cases hqt : q = false ∨ t < n
  · have HE := Lib.hid (show 0 = r from by rw [← HR.out, if_pos hqt])
    clear HR
    cases q
    · go_wp2
      go_ret
      exact ⟨by rw [← HE.out]; rfl, O2.out⟩
    · have htn : t < n := by simpa using hqt
      go_wp2
      go_ret
      exact ⟨by rw [← HE.out]; rfl, O2.out⟩
  · obtain ⟨rfl, htn⟩ : q = true ∧ n ≤ t := by
      cases q
      · simp at hqt
      · exact ⟨rfl, by simpa using hqt⟩
    have HR2 := Lib.hid (show (if n < bo then 2 else if x = true then 1 else 0) = r from by rw [← HR.out, if_neg hqt])
    clear hqt HR
    go_wp2_with (refine wpList_load_want (o := ⟨some 20, _, _, _, _, _⟩) rfl _ _ rfl g rfl _ _ _ I2.out Try.underlying30 rfl Try.sizeRw ?_)
    refine (HB.out _ O2.out).mono ?_
    rintro e w3 ⟨rfl, ho⟩
    have c1 := (I2.out.only ho (by simp)).cell 1
    simp at c1
    have O3 := Lib.hid (O2.out.trans ho (fun _ _ e => e))
    clear ho I2 O2 HB
    by_cases hb : n < bo
    · have HE := Lib.hid (show 2 = r from by rw [← HR2.out, if_pos hb])
      clear HR2
      go_wp2
      go_ret
      exact ⟨by rw [← HE.out]; rfl, O3.out⟩
    · have HE := Lib.hid (show (if x = true then 1 else 0) = r from by rw [← HR2.out, if_neg hb])
      have hb2 : bo ≤ n := by omega
      clear HR2
      go_wp2_with fail
      refine (HH.out _ O3.out).mono ?_
      rintro e w4 ⟨rfl, rfl⟩
      cases x
      · go_wp2
        go_ret
        exact ⟨by rw [← HE.out]; rfl, O3.out⟩
      · go_wp2
        go_ret
        exact ⟨by rw [← HE.out]; rfl, O3.out⟩
end Go.Proofs.Ytllchikjdpoopaa
