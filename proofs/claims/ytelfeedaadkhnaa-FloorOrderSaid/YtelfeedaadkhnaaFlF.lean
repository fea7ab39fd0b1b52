/- floor: New, Join, Release, Revoke, Heard, Pending. Conditions: as each says. -/
import Derived.Test.YtelfeedaadkhnaaFlE
import Derived.Carry
set_option linter.unusedVariables false
set_option linter.unusedSimpArgs false
namespace Go.Proofs.Ytelfeedaadkhnaa
open Go Go.RowKit

set_option maxRecDepth 100000 in
set_option maxHeartbeats 1000000 in
theorem new_no (z : Int) (s : Nat) (w : World) (h : z < 0 ∨ 32 < z ∨ s < 1) : Calls Try.prog 8 #[.int .i64 z, .int .u64 (s : Int)] w fun e w' => e = .returned (.tuple #[.pointer none, .int .i64 2]) ∧ w = w' := by
  by_cases h1 : z < 0
  · go_enter Try.func8, Try.ntmps8
    go_wp2
    go_ret2
    exact ⟨rfl, rfl⟩
  · by_cases h2 : z > 32
    · go_enter Try.func8, Try.ntmps8
      go_wp2
      go_ret2
      exact ⟨rfl, rfl⟩
    · have h3 : (s : Int) < 1 := by omega
      go_enter Try.func8, Try.ntmps8
      go_wp2
      go_ret2
      exact ⟨rfl, rfl⟩
/-- A free floor, in new memory. -/
def Made (bound s : Nat) (w : World) (e : Ending) (w' : World) : Prop :=
  ∃ b mb, e = .returned (.tuple #[ptr b, .int .i64 0]) ∧ Flr w' w.heap.size b mb (Fl.start bound s) (.slice none 0 0) (.slice none 0 0) ∧ Only (fun _ => False) w w'
set_option maxRecDepth 100000 in
set_option maxHeartbeats 1000000 in
theorem new_yes (bound s : Nat) (w : World) (h : bound ≤ 32) (hs : 1 ≤ s) : Calls Try.prog 8 #[.int .i64 (bound : Int), .int .u64 (s : Int)] w (Made bound s w) := by
  have h1 : ¬ (bound : Int) < 0 := by omega
  have h2 : ¬ (bound : Int) > 32 := by omega
  have h3 : ¬ (s : Int) < 1 := by omega
  have hmm := @run_makeMap Try.prog
  go_enter Try.func8, Try.ntmps8
  go_wp2
  go_ret2
  have o1 : Only (fun _ => False) w (w.alloc (.map #[] 0)) := (Only.refl _ w).alloc _
  have e1 : (w.alloc (.map #[] 0)).heap.size = w.heap.size + 1 := by simp
  have hI := Is.made (w.alloc (.map #[] 0)) 66 (flCells (Fl.start bound s) w.heap.size (.slice none 0 0) (.slice none 0 0))
  rw [e1] at hI
  refine ⟨w.heap.size + 1, w.heap.size, rfl, ⟨hI, (MapAt.made w .u32).only ((Only.refl (fun _ => False) _).alloc _) (by simp), OwnS.nil _ _ _ _, OwnS.nil _ _ _ _, by omega, by omega⟩, o1.alloc _⟩
section
variable {w w1 : World} {B b mb : Nat} {m : Fl} {vw vg : Value}
/-- The members are other ones. -/
theorem Flr.setM (h : Flr w B b mb m vw vg) {ms : List (Nat × Bool)} (hm : MapAt w1 mb .u32 (msV ms)) (ho : Only (fun k => k = mb) w w1) : Flr w1 B b mb { m with ms := ms } vw vg := by
  obtain ⟨hm1, hm2, hm3, hm4⟩ := h.mb_ne
  exact ⟨h.is.only ho (fun e => hm1 e.symm), hm, OwnS.only h.wr ho (fun j hj => (hm2 j hj).1), OwnS.only h.gr ho (fun j hj => (hm3 j hj).1), h.lo⟩
theorem Flr.rangeH (h : Flr w B b mb m vw vg) : w.rangeAt b 3 [.int .u64 (m.no : Int), .int .u32 (m.who : Int), .int .u64 (m.at_ : Int), .int .u64 (m.heard : Int), .bool m.pend] := World.rangeAt_of_block h.is 3 5
end
theorem Try.sizeHl : (Try.prog.info? 64).map (·.size) = some 5 := by kernel_rfl
theorem done_pure {w w1 : World} {B b mb : Nat} {m : Fl} {vw vg v : Value} (h : Flr w B b mb m vw vg) (ho : Only (fun _ => False) w w1) : DoneT v w B b mb vw vg m (.returned v) w1 := ⟨rfl, (h.pure ho).turned ho⟩
set_option maxRecDepth 100000 in
set_option maxHeartbeats 2000000 in
theorem join_is (B b mb n : Nat) (mod : Bool) (m : Fl) (vw vg : Value) (w : World) (h : Flr w B b mb m vw vg) (hn : n < 4294967296) :
    Calls Try.prog 24 #[ptr b, .int .u32 (n : Int), .bool mod] w (DoneT (.int .i64 ((m.join n mod).2 : Int)) w B b mb vw vg (m.join n mod).1) := by
  have HF := Lib.hid h
  have hr : m.join n mod = if m.has n then (m, 132) else if 32 ≤ m.ms.length then (m, 131) else ({ m with ms := m.ms ++ [(n, mod)] }, 0) := rfl
  generalize m.join n mod = r at *
  have HR := Lib.hid hr
  clear h hr
  go_enter Try.func24, Try.ntmps24
  go_wp2_with fail
  refine (there_is B b mb m vw vg w HF.out).mono ?_
  rintro e w1 ⟨rfl, rfl⟩
  go_wp2_with fail
  refine (fhas_is B b mb n m vw vg _ HF.out hn).mono ?_
  rintro e w1 ⟨rfl, ho⟩
  have HO := Lib.hid ho
  have HF1 := Lib.hid (HF.out.pure ho)
  have c2 : w1.cell? ⟨b, 2, none⟩ = some (.map (some mb)) := HF1.out.cell 2
  clear ho
  cases hh : m.has n with
  | true =>
    have HE := Lib.hid (show r = (m, 132) from by rw [HR.out, hh]; rfl)
    clear hh
    go_wp2
    go_ret
    rw [HE.out]
    exact done_pure HF.out HO.out
  | false =>
    have hm0 : (msV m.ms).length = m.ms.length := by simp [msV]
    have HL := Lib.hid hm0
    have HG := Lib.hid (show mget (msV m.ms) n = none from by
      have := mget_has m n
      rw [hh] at this
      cases hq : mget (msV m.ms) n with
      | none => rfl
      | some v => rw [hq] at this; cases this)
    by_cases hl : 32 ≤ m.ms.length
    · have HE := Lib.hid (show r = (m, 131) from by rw [HR.out, hh, if_neg (by simp), if_pos hl])
      have hlI : (m.ms.length : Int) ≥ 32 := by omega
      clear hh hm0
      generalize m.ms.length = L at *
      go_wp2_with (at_len; refine wpList_mlen rfl _ 62 rfl 30 83 Try.underlying62 rfl HF1.out.mp ?_; rw [HL.out])
      go_ret
      rw [HE.out]
      exact done_pure HF.out HO.out
    · have HE := Lib.hid (show r = ({ m with ms := m.ms ++ [(n, mod)] }, 0) from by rw [HR.out, hh, if_neg (by simp), if_neg hl])
      have hlI : ¬ (m.ms.length : Int) ≥ 32 := by omega
      have hap : msV (m.ms ++ [(n, mod)]) = msV m.ms ++ [(n, .agg #[.bool mod])] := by simp [msV]
      have HA := Lib.hid hap
      clear hh hm0 hap
      generalize m.ms.length = L at *
      go_wp2_with (first
        | (at_len; refine wpList_mlen rfl _ 62 rfl 30 83 Try.underlying62 rfl HF1.out.mp ?_; rw [HL.out])
        | (at_mapUpdate; refine wpList_mput rfl _ _ _ 62 rfl 30 83 Try.underlying62 Try.underlying30 rfl HF1.out.mp rfl (.agg #[.bool mod]) rfl (wf32 hn) HG.out ?_; intro w2 hm2 ho2; replace hm2 := Lib.hid hm2; replace ho2 := Lib.hid ho2))
      go_ret
      rw [HE.out]
      have h2 := hm2.out
      rw [← HA.out] at h2
      exact ⟨rfl, vw, vg, HF1.out.setM h2 ho2.out, (HO.out.mono (fun _ _ e => e.elim)).trans ho2.out (fun _ _ e => .inr (.inl e)), fun k hk => .inl hk⟩
end Go.Proofs.Ytelfeedaadkhnaa
