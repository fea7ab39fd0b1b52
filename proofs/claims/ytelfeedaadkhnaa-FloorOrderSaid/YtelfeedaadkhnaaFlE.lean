/- floor: end; who holds it and who waits, stored. Conditions: as each says. -/
import Derived.Test.YtelfeedaadkhnaaFlD
set_option linter.unusedVariables false
set_option linter.unusedSimpArgs false
namespace Go.Proofs.Ytelfeedaadkhnaa
open Go Go.RowKit

abbrev hC (no who at_ heard : Nat) (p : Bool) : Array Value := #[.int .u64 (no : Int), .int .u32 (who : Int), .int .u64 (at_ : Int), .int .u64 (heard : Int), .bool p]
section
variable {w w1 : World} {B b mb : Nat} {m : Fl} {vw vg : Value}
theorem Flr.thereH (h : Flr w B b mb m vw vg) : w.there b 3 5 := fun j hj => by
  refine ⟨?_, h.is.free _⟩
  rw [h.is.cell, Array.getElem?_eq_getElem (by simp [flCells]; omega)]
  rfl
/-- Who holds it is stored. -/
theorem Flr.setH (h : Flr w B b mb m vw vg) (no who at_ heard : Nat) (p : Bool) : Flr (w.setCells b 3 (hC no who at_ heard p).toList) B b mb { m with no := no, who := who, at_ := at_, heard := heard, pend := p } vw vg ∧ Only (fun k => k = b) w (w.setCells b 3 (hC no who at_ heard p).toList) := by
  obtain ⟨hm1, hm2, hm3, hm4⟩ := h.mb_ne
  have ho : Only (fun k => k = b) w (w.setCells b 3 (hC no who at_ heard p).toList) := Only.many _ _ _ (Only.refl _ w) (fun _ => rfl)
  refine ⟨⟨?_, h.mp.only ho hm1, OwnS.only h.wr ho (fun j hj => (hm2 j hj).2), OwnS.only h.gr ho (fun j hj => (hm3 j hj).2), h.lo⟩, ho⟩
  have hI2 := Is.many [.int .u64 (no : Int), .int .u32 (who : Int), .int .u64 (at_ : Int), .int .u64 (heard : Int), .bool p] 3 _ _ _ h.is
  have e : flCells { m with no := no, who := who, at_ := at_, heard := heard, pend := p } mb vw vg = setA (flCells m mb vw vg) 3 [.int .u64 (no : Int), .int .u32 (who : Int), .int .u64 (at_ : Int), .int .u64 (heard : Int), .bool p] := by
    simp [flCells, setA]
  rw [e]
  exact hI2
/-- Who waits is stored. -/
theorem Flr.setW (h : Flr w B b mb m vw vg) (ho : Only (fun k => vw.ownBlock = some k) w w1) {l : List Nat} {vw' : Value} (hr : OwnS w1 B 30 1 vw' (rows32 l)) (hn : ∀ k, vw'.ownBlock = some k → vw.ownBlock = some k ∨ w.heap.size ≤ k) :
    Flr (w1.setCell ⟨b, 8, none⟩ vw') B b mb { m with wt := l } vw' vg ∧ Only (Foot b mb vw vg) w (w1.setCell ⟨b, 8, none⟩ vw') ∧ ∀ k, Foot b mb vw' vg k → Foot b mb vw vg k ∨ w.heap.size ≤ k := by
  obtain ⟨hm1, hm2, hm3, hm4⟩ := h.mb_ne
  have hI := h.is.only ho (fun e => (hm2 b e).2 rfl)
  have hM := h.mp.only ho (fun e => (hm2 mb e).1 rfl)
  have hG := OwnS.only h.gr ho (fun j hj e => hm4 j e hj)
  have hS : Only (fun k => k = b) w1 (w1.setCell ⟨b, 8, none⟩ vw') := Only.set (S := fun k => k = b) (p := ⟨b, 8, none⟩) (Only.refl _ w1) (fun _ => rfl) _
  refine ⟨⟨hI.put 8 vw', hM.only hS hm1, OwnS.only hr hS (fun j hj e => owned_off hr.1 hI (by decide) (by rw [hj, e])), OwnS.only hG hS (fun j hj => (hm3 j hj).2), h.lo⟩, (ho.mono (fun _ _ e => .inr (.inr (.inl e)))).trans hS (fun _ _ e => .inl e), fun j hj => ?_⟩
  rcases hj with rfl | rfl | hj | hj
  · exact .inl (.inl rfl)
  · exact .inl (.inr (.inl rfl))
  · exact (hn j hj).imp (fun h => .inr (.inr (.inl h))) id
  · exact .inl (.inr (.inr (.inr hj)))
theorem Flr.cell8 (h : Flr w B b mb m vw vg) (ho : Only (fun k => vw.ownBlock = some k) w w1) : w1.cell? ⟨b, 8, none⟩ = some vw ∧ w1.frozen? ⟨b, 8, none⟩ = false := by
  have hI := h.is.only ho (fun e => (h.mb_ne.2.1 b e).2 rfl)
  exact ⟨hI.cell 8, hI.free 8⟩
end
/-- Behind a call. -/
abbrev DoneT (v : Value) (w : World) (B b mb : Nat) (vw vg : Value) (m' : Fl) (e : Ending) (w' : World) : Prop := e = .returned v ∧ Turned w w' B b mb vw vg m'
theorem rows32_oneC (l : List Nat) : ∀ u ∈ (rows32 l).flatten, u.oneCell' = true := by
  rw [rows32_flat]
  intro u hu
  obtain ⟨x, _, rfl⟩ := List.mem_map.1 hu
  rfl
set_option maxRecDepth 100000 in
set_option maxHeartbeats 2000000 in
theorem end_is (B b mb now : Nat) (m : Fl) (vw vg : Value) (w : World) (h : Flr w B b mb m vw vg) (hg : m.gs.length ≤ 10000) (hwl : m.wt.length ≤ 1000) :
    Calls Try.prog 45 #[ptr b, .int .u64 (now : Int)] w (DoneT (.tuple #[]) w B b mb vw vg (m.end_ now)) := by
  have HF := Lib.hid h
  have HT := Lib.hid h.thereH
  have HS := Lib.hid (h.setH 0 0 0 0 false)
  obtain ⟨Aw, cw, rfl, hcw⟩ := h.wr.slice
  rw [rows32_length] at hcw HF HS ⊢
  obtain ⟨N, hN⟩ : ∃ N, m.wt.length = N := ⟨_, rfl⟩
  have HN := Lib.hid hN
  rw [hN] at hwl hcw HF HS ⊢
  have hlt := h.lt
  clear h hN
  go_enter Try.func45, Try.ntmps45
  go_upto_region 1 with (first
    | (refine wpList_store_midw rfl 64 _ _ rfl b 3 #[.int .u64 0, .int .u32 0, .int .u64 0, .int .u64 0, .bool false] rfl rfl HT.out Try.sizeH (by simp [Value.oneCell']) ?_; intro w1 hw1; have HF1 := Lib.hid (show Flr w1 B b mb m.free (.slice Aw N cw) vg from by rw [hw1]; exact HS.out.1); have HO1 := Lib.hid (show Only (fun k => k = b) w w1 from by rw [hw1]; exact HS.out.2); clear hw1 HS HT; have c8 : w1.cell? ⟨b, 8, none⟩ = some (.slice Aw N cw) := HF1.out.cell 8)
    | fail)
  rcases hwt : m.wt with _ | ⟨x, r⟩
  · obtain rfl : N = 0 := by rw [← HN.out, hwt]; rfl
    have HE := Lib.hid (show m.end_ now = m.free from by unfold Fl.end_; rw [hwt])
    clear hwt
    go_wp2
    go_end0
    refine ⟨rfl, _, vg, by rw [HE.out]; exact HF1.out, HO1.out.mono (fun _ _ e => .inl e), fun k hk => .inl hk⟩
  · obtain ⟨n, rfl⟩ : ∃ n, N = n + 1 := ⟨r.length, by rw [← HN.out, hwt]; rfl⟩
    have hrl : r.length = n := by
      have := HN.out
      rw [hwt, List.length_cons] at this
      omega
    have HE := Lib.hid (show m.end_ now = ({ m.free with wt := r } : Fl).grant x now from by unfold Fl.end_; rw [hwt])
    have hR := HF1.out.wr
    rw [show m.free.wt = x :: r from hwt] at hR
    obtain ⟨g, c', hgc, -⟩ := hR.place (by rw [rows32_length]; simp)
    obtain ⟨hA, -, hcc⟩ := Value.slice.inj hgc
    subst hA hcc
    clear hgc
    have r1 := own32_cell hR (j := 0) (x := x) rfl
    have hd : Calls Try.prog 60 #[.slice (some ⟨g, 0, none⟩) (n + 1) cw, .int .i64 0, .int .i64 1] w1 (FDeleted g n cw 1 B (rows32 (x :: r)) w1) := fdelete_is g (n + 1) cw 1 n B (rows32 (x :: r)) w1 hR (by rw [rows32_length, List.length_cons, hrl]) (by omega) (by omega) (by omega) (rows32_oneC _)
    have HD := Lib.hid hd
    have hnI : ¬ ((n : Int) + 1 = 0) := by omega
    have hnI2 : (0 : Int) < (n : Int) + 1 := by omega
    have hlt1 : b < w1.heap.size := HF1.out.lt
    clear hR hd hwt hrl
    go_wp2_with fail
    refine HD.out.mono ?_
    rintro e w2 ⟨rfl, ho, hS⟩
    have ho : OwnS w2 B 30 1 (.slice (some ⟨g, 0, none⟩) n cw) (rows32 r) := ho
    obtain ⟨h2, o2, n2⟩ := HF1.out.setW (hS.mono (fun k _ e => by rw [e]; rfl)) ho (fun k hk => .inl hk)
    have H2 := Lib.hid h2
    have O2 := Lib.hid o2
    have N2 := Lib.hid n2
    obtain ⟨cc, cf⟩ := HF1.out.cell8 (hS.mono (T := fun k => Value.ownBlock (.slice (some ⟨g, 0, none⟩) (n + 1) cw) = some k) (fun k _ e => by rw [e]; rfl))
    clear h2 o2 n2 ho hS
    go_wp2_with fail
    refine (grant_is B b mb x now _ _ vg _ H2.out hg).mono ?_
    rintro e w3 ⟨rfl, hT⟩
    have HT := Lib.hid hT
    clear hT
    go_wp2
    go_end0
    refine ⟨rfl, ?_⟩
    rw [HE.out]
    exact Turned.trans ((HO1.out.mono (fun _ _ e => .inl e)).trans O2.out (fun _ _ e => e)) (fun k hk => (N2.out k hk).imp id (fun h => Nat.le_trans HO1.out.size h)) HT.out
end Go.Proofs.Ytelfeedaadkhnaa
