/- takePairs. Conditions: as each says. -/
import Derived.Test.YtefcimkopgcagaaFcX
set_option linter.unusedVariables false
set_option linter.unusedSimpArgs false
namespace Go.Proofs.Ytefcimkopgcagaa
open Go.RowKit

theorem set_self {cs : Array Value} {f : Nat} {u : Value} (h : cs[f]? = some u) : cs.setIfInBounds f u = cs := by
  apply Array.ext
  · simp
  · intro i h1 h2
    rw [Array.getElem_setIfInBounds]
    split
    · subst_vars
      have := Array.getElem?_eq_some_iff.mp h
      exact this.2.symm
    · rfl
theorem set_twice (cs : Array Value) (f : Nat) (u x : Value) : (cs.setIfInBounds f u).setIfInBounds f x = cs.setIfInBounds f x := by
  simp
theorem set_at {cs : Array Value} {f : Nat} (u : Value) (h : f < cs.size) : (cs.setIfInBounds f u)[f]? = some u := by
  simp [Array.getElem?_setIfInBounds, h]
def prAt (bs : List Nat) (p j : Nat) : Pr := ⟨num bs (p + 32 * j) 16, num bs (p + 32 * j + 16) 16⟩
theorem fy_wrap (j : Nat) (h : j < 3000) : wrap64 ((j : Int) + 1) = (j : Int) + 1 := IntWalk.wrap64_in _ (by omega)
theorem fy_end (cs : Array Value) (mb br p n j L : Nat) (bs : List Nat) (v : Value) (w0 w5 : World) (A' : Option Addr) (c' : Nat) (hjn : j < n) (hl : bs.length ≤ 10000) (hL : 8 * bs.length - p = L) (hn : L / 32 = n)
    (hG : Mp (cs.setIfInBounds 3 (.slice A' (j + 1) c')) mb w0 w5) (hO : OwnS w5 w0.heap.size 82 2 (.slice A' (j + 1) c') (((List.range (j + 1)).map (prAt bs p)).map Pr.lst)) (hR : Rdr w5 br bs (p + 32 * (j + 1)) 0 v) :
    (∃ (i : Nat) (A : Option Addr) (c : Nat), Value.int .i64 (wrap64 ((j : Int) + 1)) = .int .i64 (i : Int) ∧ i ≤ n ∧ Mp (cs.setIfInBounds 3 (.slice A i c)) mb w0 w5 ∧ OwnS w5 w0.heap.size 82 2 (.slice A i c) (((List.range i).map (prAt bs p)).map Pr.lst) ∧ Rdr w5 br bs (p + 32 * i) 0 v) ∧
      n - (intOf (Value.int .i64 (wrap64 ((j : Int) + 1)))).toNat < n - (intOf (Value.int .i64 (j : Int))).toNat := by
  have h3 : j < 3000 := by omega
  rw [fy_wrap j h3]
  exact ⟨⟨j + 1, A', c', rfl, by omega, hG, hO, hR⟩, by simp [intOf]; omega⟩
set_option maxRecDepth 100000 in
set_option maxHeartbeats 4000000 in
theorem takepairs_is (cs : Array Value) (mb br p n : Nat) (bs : List Nat) (f : Int) (v : Value) (w0 w : World) (hcf : cs[3]? = some (.slice none 0 0)) (hl : bs.length ≤ 10000) (hmb : w0.heap.size ≤ mb) (hbr : w0.heap.size ≤ br)
    (hG : Mp cs mb w0 w) (hR : Rdr w br bs p f v) (hn : (8 * bs.length - p) / 32 = n) (hf : f = 0 ∨ n = 0) :
    Calls Try.prog 70 #[.pointer (some ⟨mb, 0, none⟩), .pointer (some ⟨br, 0, none⟩)] w fun e w' => e = .returned (.tuple #[]) ∧ ∃ A c, Mp (cs.setIfInBounds 3 (.slice A n c)) mb w0 w' ∧ OwnS w' w0.heap.size 82 2 (.slice A n c) (((List.range n).map (prAt bs p)).map Pr.lst) ∧ Rdr w' br bs (p + 32 * n) f v := by
  have HLF := Lib.hid (show ∀ wx, Rdr wx br bs p f v → Calls Try.prog 60 #[.pointer (some ⟨br, 0, none⟩)] wx fun e w' => e = .returned (.int .i64 ((8 * bs.length - p : Nat) : Int)) ∧ ∃ n, w' = wx.drewN n from fun wx h => left_rdr br p bs f v wx h)
  have HP := Lib.hid hR.place
  have HL := Lib.hid hl
  obtain ⟨L, hL⟩ : ∃ L, 8 * bs.length - p = L := ⟨_, rfl⟩
  rw [hL] at HLF hn
  have HLL := Lib.hid hL
  have HN := Lib.hid hn
  have HC := Lib.hid hcf
  have e1 : (L : Int) / 32 = (n : Int) := by omega
  have e1t : (L : Int).tdiv 32 = (n : Int) := by rw [Int.tdiv_eq_ediv_of_nonneg (by omega)]; exact e1
  have hw : wrap64 (n : Int) = (n : Int) := IntWalk.wrap64_in _ (by omega)
  have HF := Lib.hid hf
  have HG := Lib.hid hG
  have HR := Lib.hid hR
  clear hR hG hf hcf hn hL hl
  go_enter Try.func70, Try.ntmps70
  go_wp2_with (go_at_call 60; refine (HLF.out w HR.out).mono ?_; rintro e w1 ⟨rfl, d1, rfl⟩)
  go_loopw [7] (fun i wr => ∃ (j : Nat) (A : Option Addr) (c : Nat), i = .int .i64 (j : Int) ∧ j ≤ n ∧ Mp (cs.setIfInBounds 3 (.slice A j c)) mb w0 wr ∧ OwnS wr w0.heap.size 82 2 (.slice A j c) (((List.range j).map (prAt bs p)).map Pr.lst) ∧ Rdr wr br bs (p + 32 * j) f v) (fun i _ => n - (intOf i).toNat)
  case atStart => exact ⟨0, none, 0, rfl, by omega, by rw [set_self HC.out]; exact HG.out.go ((Only.refl (fun _ => False) w).drewN d1), OwnS.nil _ _ _ _, HR.out.drewN d1⟩
  case round =>
    obtain ⟨j, A, c, rfl, hj, hG, hown, hR⟩ := hrel
    have GJ := Lib.hid hG
    have OJ := Lib.hid hown
    have RJ := Lib.hid hR
    clear hG hown hR
    by_cases hjn : j < n
    · have hjI : (j : Int) < (n : Int) := by omega
      obtain rfl : f = 0 := by have := HF.out; omega
      have hsz : 3 < cs.size := by
        have := Array.getElem?_eq_some_iff.mp HC.out
        exact this.1
      have HPA := Lib.hid (show prAt bs p j = ⟨num bs (p + 32 * j) 16, num bs (p + 32 * j + 16) 16⟩ from rfl)
      have hna := num_lt bs (p + 32 * j) 16
      have hnb := num_lt bs (p + 32 * j + 16) 16
      obtain ⟨na, h1⟩ : ∃ x, num bs (p + 32 * j) 16 = x := ⟨_, rfl⟩
      obtain ⟨nb, h2⟩ : ∃ x, num bs (p + 32 * j + 16) 16 = x := ⟨_, rfl⟩
      rw [h1] at HPA hna
      rw [h2] at HPA hnb
      have H1 := Lib.hid h1
      have H2 := Lib.hid h2
      clear h1 h2
      go_upto_region 2 with (fail)
      refine tp2 (cs.setIfInBounds 3 (.slice A j c)) mb br (p + 32 * j) j c bs v A (((List.range j).map (prAt bs p)).map Pr.lst) na nb w0 (set_at _ hsz) (by simp) (by have := HL.out; have := HN.out; have := HLL.out; omega) hmb hbr (by have := HN.out; have := HLL.out; omega) H1.out H2.out (by simpa using hna) (by simpa using hnb) _ _ _ _ _ _ _ _ _ _ _ _ _ _ _ _ _ _ _ _ _ _ _ _ _ wr GJ.out RJ.out OJ.out ?_
      rintro y9 y10 y11 y12 y13 y14 y15 y16 y17 y18 y19 y20 y21 y22 y23 y24 w5 ⟨A', c', hG, hown, hR⟩
      rw [set_twice] at hG
      have G2 := Lib.hid hG
      have O2 := Lib.hid (show OwnS w5 w0.heap.size 82 2 (.slice A' (j + 1) c') (((List.range (j + 1)).map (prAt bs p)).map Pr.lst) from by
        rw [List.range_succ, List.map_append, List.map_append, List.map_singleton, List.map_singleton, HPA.out]
        exact hown)
      have R2 := Lib.hid (show Rdr w5 br bs (p + 32 * (j + 1)) 0 v from hR)
      clear hG hown hR GJ OJ RJ
      go_wp2
      exact fy_end cs mb br p n j L bs v w0 w5 A' c' hjn HL.out HLL.out HN.out G2.out O2.out R2.out
    · obtain rfl : j = n := by omega
      go_wp2
      exact bodyPost_end (v := .tuple #[]) (by simp [results, Try.results70]) rfl ⟨rfl, A, c, GJ.out, OJ.out, RJ.out⟩
end Go.Proofs.Ytefcimkopgcagaa
