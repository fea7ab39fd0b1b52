/- easellaw07.works. Conditions: none. -/
import Derived.Test.YtefcimkopgcagaaFbN
import Derived.Test.YtefcimkopgcagaaFbG
import Derived.Test.YtefcimkopgcagaaFbI
import Derived.Test.YtefcimkopgcagaaFbK
import Derived.Test.YtefcimkopgcagaaBase
set_option linter.unusedVariables false
namespace Go.Proofs.Ytefcimkopgcagaa
open Go.RowKit

theorem fD_inj : ∀ (a b : List Nat), (∀ x ∈ a, x < 256) → (∀ x ∈ b, x < 256) → D a = D b → a = b
  | [], [], _, _, _ => rfl
  | [], y :: b, _, _, h => by
    have := congrArg List.length h
    rw [D_length, D_length] at this
    simp at this
  | x :: a, [], _, _, h => by
    have := congrArg List.length h
    rw [D_length, D_length] at this
    simp at this
  | x :: a, y :: b, ha, hb, h => by
    rw [D_cons, D_cons] at h
    obtain ⟨h1, h2⟩ := List.append_inj h (by rw [digs_length, digs_length])
    have h3 := congrArg val h1
    rw [val_digs, val_digs, show 2 ^ 8 = 256 from rfl] at h3
    have hx := ha x (by simp)
    have hy := hb y (by simp)
    rw [fD_inj a b (fun z hz => ha z (by simp [hz])) (fun z hz => hb z (by simp [hz])) h2, show x = y from by omega]
theorem fwrote_is {bs xs : List Nat} (h : Wrote bs (D xs)) (hx : ∀ x ∈ xs, x < 256) : bs = xs := by
  refine fD_inj bs xs h.bytes hx ?_
  have hr := h.rows
  have hd := h.digits
  rw [D_length] at hr hd
  rw [hd, show 8 * bs.length - 8 * xs.length = 0 from by omega, List.replicate_zero, List.append_nil]
theorem rdp_lit (w : World) (T : TypeId) (l : List Pr) : RdP (w.alloc (.cells ((l.map Pr.lst).flatten).toArray T)) (.slice (some ⟨w.heap.size, 0, none⟩) l.length l.length) l := by
  have hall : ∀ xs ∈ l.map Pr.lst, xs.length = 2 := by
    intro xs hx
    obtain ⟨y, -, rfl⟩ := List.mem_map.1 hx
    rfl
  refine ⟨_, _, rfl, Nat.le_refl _, fun _ => ⟨_, 0, rfl, fun i p hi => ?_⟩⟩
  have h0 := flat_get (sz := 2) (l.map Pr.lst) hall i 0 p.lst (by simp [hi]) (by omega)
  have h1 := flat_get (sz := 2) (l.map Pr.lst) hall i 1 p.lst (by simp [hi]) (by omega)
  have c0 := (Is.made w T ((l.map Pr.lst).flatten).toArray).cell (i * 2)
  have c1 := (Is.made w T ((l.map Pr.lst).flatten).toArray).cell (i * 2 + 1)
  rw [Nat.add_zero] at h0
  rw [List.getElem?_toArray] at c0 c1
  unfold PCells
  rw [Nat.zero_add, c0, c1, h0, h1]
  exact ⟨rfl, rfl⟩
theorem rd16_lit (w : World) (l : List Nat) : Rd .u16 (w.alloc (.cells (l.map fun (n : Nat) => Value.int .u16 (n : Int)).toArray 75)) (.slice (some ⟨w.heap.size, 0, none⟩) l.length l.length) (nats l) := by
  refine ⟨_, l.length, by rw [nats_length], by rw [nats_length]; exact Nat.le_refl _, fun _ => ⟨_, 0, rfl, fun j hj => ?_⟩⟩
  rw [nats_length] at hj
  have c0 := (Is.made w 75 (l.map fun (n : Nat) => Value.int .u16 (n : Int)).toArray).cell j
  rw [List.getElem?_toArray] at c0
  rw [Nat.zero_add, c0]
  simp [nats, hj]
theorem off1_is (w : World) : Calls Try.prog 28 #[.int .u64 262144] w fun e w' => e = .returned (.tuple #[.int .u8 1, .int .u32 131072]) ∧ Only (fun _ => False) w w' := by
  refine (ofrate_is 262144 w (by decide)).mono ?_
  rintro e w' ⟨rfl, ho⟩
  exact ⟨by rw [show rexp 262144 = 1 from by decide]; rfl, ho⟩
theorem off2_is (w : World) : Calls Try.prog 28 #[.int .u64 1000] w fun e w' => e = .returned (.tuple #[.int .u8 0, .int .u32 1000]) ∧ Only (fun _ => False) w w' := by
  refine (ofrate_is 1000 w (by decide)).mono ?_
  rintro e w' ⟨rfl, ho⟩
  exact ⟨by rw [show rexp 1000 = 0 from by decide]; rfl, ho⟩
def bs8 : List Nat := [0, 0, 0, 1, 0, 0, 0, 2]
def pr3 : List Pr := [⟨10, 32769⟩, ⟨27, 0⟩, ⟨10, 0⟩]
def nm3 : List Nat := [65535, 0, 1]
theorem put12_is (w : World) : Calls Try.prog 12 #[.agg (pliC 1 2)] w fun e w' => ∃ v, e = .returned (.tuple #[.agg #[.int .u8 1, .int .u8 206, v, .int .u8 0], .int .i64 0]) ∧ w'.ownsRow w.heap.size 5 1 v 8 (cellsOf bs8) ∧ Only (fun _ => False) w w' := by
  refine (put_pli 1 2 w (by decide) (by decide)).mono ?_
  rintro e w' ⟨v, bs, rfl, hw, hown, ho⟩
  obtain rfl : bs = bs8 := fwrote_is (by rw [show D bs8 = pd3 1 2 from by decide]; exact hw) (by decide)
  exact ⟨v, rfl, hown, ho⟩
theorem pr3_is : pairsOf [10, 11, 26, 27, 10] = pr3 := rfl
theorem nm3_is : numsOf [⟨65535, 3⟩] = nm3 := rfl
/-- Amid works. -/
structure Wk (v1 v2 v5 : Value) (rb : Nat) (w wx : World) : Prop where
  p : RdP wx v1 pr3
  n : Rd .u16 wx v2 (nats nm3)
  i : Is wx rb 41 #[.int .u8 1, .int .u8 206, v5, .int .u8 0]
  s : Src wx v5 bs8
  pure : Only (fun _ => False) w wx
theorem Wk.go {v1 v2 v5 : Value} {rb : Nat} {w wx wy : World} (h : Wk v1 v2 v5 rb w wx) (ho : Only (fun _ => False) wx wy) : Wk v1 v2 v5 rb w wy :=
  ⟨h.p.only ho, h.n.only ho (by simp), h.i.only ho (by simp), h.s.of_only ho, only_more h.pure ho⟩

set_option maxRecDepth 100000 in
set_option maxHeartbeats 4000000 in
theorem fworks_any (w : World) : Calls Try.prog 9 #[] w fun e w' => e = .returned (.bool true) ∧ Only (fun _ => False) w w' := by
  go_enter Try.func9, Try.ntmps9
  go_wp2_with fail
  refine (fpairs_is _ [10, 11, 26, 27, 10] _ (rd16_lit w [10, 11, 26, 27, 10]) (by decide) (by decide)).mono ?_
  rintro e w1 ⟨v1, rfl, hown1, ho1⟩
  rw [pr3_is] at hown1
  have R1 := Lib.hid hown1.rd
  have O1 := Lib.hid (show Only (fun _ => False) w w1 from ((Only.refl _ w).alloc _).trans ho1 (fun i hi e => e))
  clear hown1 ho1
  go_wp2_with fail
  refine (numbers_is _ [⟨65535, 3⟩] _ (rdp_lit w1 82 [⟨65535, 3⟩]) (by decide) (by intro p hp; rw [List.mem_singleton.1 hp]; exact ⟨by decide, by decide⟩)).mono ?_
  rintro e w2 ⟨v2, rfl, hown2, ho2⟩
  rw [nm3_is] at hown2
  have A2 := Lib.hid (show Only (fun _ => False) w1 w2 from ((Only.refl _ w1).alloc _).trans ho2 (fun i hi e => e))
  have R2 := Lib.hid hown2.rd
  have Q2 := Lib.hid (R1.out.only A2.out)
  have O2 := Lib.hid (only_more O1.out A2.out)
  clear hown2 ho2 R1 O1 A2
  go_wp2_with fail
  refine (off1_is _).mono ?_
  rintro e w3 ⟨rfl, ho3⟩
  have A3 := Lib.hid ho3
  clear ho3
  go_wp2_with fail
  refine (off2_is _).mono ?_
  rintro e w4 ⟨rfl, ho4⟩
  have A4 := Lib.hid (only_more A3.out ho4)
  clear ho4 A3
  go_wp2_with fail
  refine (put12_is _).mono ?_
  rintro e w5 ⟨v5, rfl, hown5, ho5⟩
  have A5 := Lib.hid (only_more A4.out ho5)
  have S5 := Lib.hid (Src.of_own (bs := bs8) hown5)
  obtain ⟨Ab, cb, hvs, -⟩ := own_slice hown5
  have HV5 := Lib.hid (show (#[Value.int .u8 1, .int .u8 206, v5, .int .u8 0] : Array Value).all (·.oneCell') = true from by subst hvs; simp [Value.oneCell'])
  clear hown5 ho5 A4 hvs
  go_upto_region 6 with (refine wpList_store_is rfl 41 _ _ rfl w5.heap.size #[.int .u8 1, .int .u8 206, v5, .int .u8 0] rfl rfl 41 pktZ (Is.made w5 _ pktZ) Try.sizeRt rfl HV5.out ?_; intro w6 hi6 ho6; have B6 := Lib.hid (fb_made ho6); have I6 := Lib.hid hi6; clear hi6 ho6)
  have A6 := Lib.hid (only_more A5.out B6.out)
  have O6 := Lib.hid (only_more O2.out A6.out)
  have K6 := Lib.hid (show Wk v1 v2 v5 w5.heap.size w6 w6 from ⟨Q2.out.only A6.out, R2.out.only A6.out (by simp), I6.out, S5.out.of_only B6.out, Only.refl _ _⟩)
  generalize w5.heap.size = rb at *
  clear R2 Q2 O2 A5 S5 B6 I6 A6 HV5
  refine wp_region_text [[], [], [], [], [1, 2, 3], [0, 4, 1, 2, 3], [5, 0, 4, 1, 2, 3], [6, 5, 0, 4, 1, 2, 3], [6, 5, 0, 4, 1, 2, 3], [7, 8, 6, 5, 0, 4, 1, 2, 3], [6, 9, 5, 0, 4, 1, 2, 3, 7, 8], [10, 9, 6, 5, 0, 4, 1, 2, 3, 7, 8], [11, 10, 9, 6, 5, 0, 4, 1, 2, 3, 7, 8], [12, 11, 10, 9, 6, 5, 0, 4, 1, 2, 3, 7, 8], [11, 13, 10, 9, 6, 5, 0, 4, 1, 2, 3, 7, 8, 12], [14, 11, 13, 10, 9, 6, 5, 0, 4, 1, 2, 3, 7, 8, 12], [15, 14, 11, 13, 10, 9, 6, 5, 0, 4, 1, 2, 3, 7, 8, 12], [16, 15, 14, 11, 13, 10, 9, 6, 5, 0, 4, 1, 2, 3, 7, 8, 12], [15, 17, 14, 11, 13, 10, 9, 6, 5, 0, 4, 1, 2, 3, 7, 8, 12, 16], [18, 15, 17, 14, 11, 13, 10, 9, 6, 5, 0, 4, 1, 2, 3, 7, 8, 12, 16], [19, 18, 15, 17, 14, 11, 13, 10, 9, 6, 5, 0, 4, 1, 2, 3, 7, 8, 12, 16], [20, 19, 18, 15, 17, 14, 11, 13, 10, 9, 6, 5, 0, 4, 1, 2, 3, 7, 8, 12, 16], [19, 21, 18, 15, 17, 14, 11, 13, 10, 9, 6, 5, 0, 4, 1, 2, 3, 7, 8, 12, 16, 20], [22, 19, 21, 18, 15, 17, 14, 11, 13, 10, 9, 6, 5, 0, 4, 1, 2, 3, 7, 8, 12, 16, 20], [23, 22, 19, 21, 18, 15, 17, 14, 11, 13, 10, 9, 6, 5, 0, 4, 1, 2, 3, 7, 8, 12, 16, 20], [24, 23, 22, 19, 21, 18, 15, 17, 14, 11, 13, 10, 9, 6, 5, 0, 4, 1, 2, 3, 7, 8, 12, 16, 20], [23, 25, 22, 19, 21, 18, 15, 17, 14, 11, 13, 10, 9, 6, 5, 0, 4, 1, 2, 3, 7, 8, 12, 16, 20, 24], [26, 23, 25, 22, 19, 21, 18, 15, 17, 14, 11, 13, 10, 9, 6, 5, 0, 4, 1, 2, 3, 7, 8, 12, 16, 20, 24], [27, 26, 23, 25, 22, 19, 21, 18, 15, 17, 14, 11, 13, 10, 9, 6, 5, 0, 4, 1, 2, 3, 7, 8, 12, 16, 20, 24], [28, 27, 26, 23, 25, 22, 19, 21, 18, 15, 17, 14, 11, 13, 10, 9, 6, 5, 0, 4, 1, 2, 3, 7, 8, 12, 16, 20, 24], [27, 29, 26, 23, 25, 22, 19, 21, 18, 15, 17, 14, 11, 13, 10, 9, 6, 5, 0, 4, 1, 2, 3, 7, 8, 12, 16, 20, 24, 28], [30, 27, 29, 26, 23, 25, 22, 19, 21, 18, 15, 17, 14, 11, 13, 10, 9, 6, 5, 0, 4, 1, 2, 3, 7, 8, 12, 16, 20, 24, 28], [31, 30, 27, 29, 26, 23, 25, 22, 19, 21, 18, 15, 17, 14, 11, 13, 10, 9, 6, 5, 0, 4, 1, 2, 3, 7, 8, 12, 16, 20, 24, 28], [32, 31, 30, 27, 29, 26, 23, 25, 22, 19, 21, 18, 15, 17, 14, 11, 13, 10, 9, 6, 5, 0, 4, 1, 2, 3, 7, 8, 12, 16, 20, 24, 28], [33, 31, 32, 30, 27, 29, 26, 23, 25, 22, 19, 21, 18, 15, 17, 14, 11, 13, 10, 9, 6, 5, 0, 4, 1, 2, 3, 7, 8, 12, 16, 20, 24, 28], [31, 34, 30, 27, 29, 26, 23, 25, 22, 19, 21, 18, 15, 17, 14, 11, 13, 10, 9, 6, 5, 0, 4, 1, 2, 3, 7, 8, 12, 16, 20, 24, 28, 33, 32], [35, 31, 34, 30, 27, 29, 26, 23, 25, 22, 19, 21, 18, 15, 17, 14, 11, 13, 10, 9, 6, 5, 0, 4, 1, 2, 3, 7, 8, 12, 16, 20, 24, 28, 33, 32], [36, 35, 31, 34, 30, 27, 29, 26, 23, 25, 22, 19, 21, 18, 15, 17, 14, 11, 13, 10, 9, 6, 5, 0, 4, 1, 2, 3, 7, 8, 12, 16, 20, 24, 28, 33, 32], [37, 36, 35, 31, 34, 30, 27, 29, 26, 23, 25, 22, 19, 21, 18, 15, 17, 14, 11, 13, 10, 9, 6, 5, 0, 4, 1, 2, 3, 7, 8, 12, 16, 20, 24, 28, 33, 32], [38, 36, 37, 35, 31, 34, 30, 27, 29, 26, 23, 25, 22, 19, 21, 18, 15, 17, 14, 11, 13, 10, 9, 6, 5, 0, 4, 1, 2, 3, 7, 8, 12, 16, 20, 24, 28, 33, 32], [36, 39, 35, 31, 34, 30, 27, 29, 26, 23, 25, 22, 19, 21, 18, 15, 17, 14, 11, 13, 10, 9, 6, 5, 0, 4, 1, 2, 3, 7, 8, 12, 16, 20, 24, 28, 33, 32, 38, 37], [40, 36, 39, 35, 31, 34, 30, 27, 29, 26, 23, 25, 22, 19, 21, 18, 15, 17, 14, 11, 13, 10, 9, 6, 5, 0, 4, 1, 2, 3, 7, 8, 12, 16, 20, 24, 28, 33, 32, 38, 37], [41, 40, 36, 39, 35, 31, 34, 30, 27, 29, 26, 23, 25, 22, 19, 21, 18, 15, 17, 14, 11, 13, 10, 9, 6, 5, 0, 4, 1, 2, 3, 7, 8, 12, 16, 20, 24, 28, 33, 32, 38, 37], [42, 41, 40, 36, 39, 35, 31, 34, 30, 27, 29, 26, 23, 25, 22, 19, 21, 18, 15, 17, 14, 11, 13, 10, 9, 6, 5, 0, 4, 1, 2, 3, 7, 8, 12, 16, 20, 24, 28, 33, 32, 38, 37], [41, 40, 36, 39, 35, 31, 34, 30, 27, 29, 26, 23, 25, 22, 19, 21, 18, 15, 17, 14, 11, 13, 10, 9, 6, 5, 0, 4, 1, 2, 3, 7, 8, 12, 16, 20, 24, 28, 33, 32, 38, 37], [43, 44, 41, 42, 40, 36, 39, 35, 31, 34, 30, 27, 29, 26, 23, 25, 22, 19, 21, 18, 15, 17, 14, 11, 13, 10, 9, 6, 5, 0, 4, 1, 2, 3, 7, 8, 12, 16, 20, 24, 28, 33, 32, 38, 37], [41, 45, 40, 36, 39, 35, 31, 34, 30, 27, 29, 26, 23, 25, 22, 19, 21, 18, 15, 17, 14, 11, 13, 10, 9, 6, 5, 0, 4, 1, 2, 3, 7, 8, 12, 16, 20, 24, 28, 33, 32, 38, 37, 43, 44, 42], [46, 45, 0, 1, 2, 3, 4, 5, 6, 7, 8, 9, 10, 11, 12, 13, 14, 15, 16, 17, 18, 19, 20, 21, 22, 23, 24, 25, 26, 27, 28, 29, 30, 31, 32, 33, 34, 35, 36, 37, 38, 39, 40, 41, 42, 43, 44]] [4, 5, 8, 9, 44, 45] [4, 8, 44] [[], [], [], [], [], [], [], [], [], [], [], [], [], [], [], [], [], [], [], [], [], [], [], [], [], [], [], [], [], [], [], [], [], [], [], [], [], [], [], [], [], [], [], [], [], [], [], []] [[], [], [], [], [], [4], [], [], [], [8], [], [], [], [], [], [], [], [], [], [], [], [], [], [], [], [], [], [], [], [], [], [], [], [], [], [], [], [], [], [], [], [], [], [], [], [44], [], []] [] [] [] []
      [some ?v0, some ?v1, some ?v2, some ?v3, none, some (.bool true), some ?v6, some ?v7, none, some (.bool true), some ?v10, some ?v11, some ?v12, some ?v13, some ?v14, some ?v15, some ?v16, some ?v17, some ?v18, some ?v19, some ?v20, some ?v21, some ?v22, some ?v23, some ?v24, some ?v25, some ?v26, some ?v27, some ?v28, some ?v29, some ?v30, some ?v31, some ?v32, some ?v33, some ?v34, some ?v35, some ?v36, some ?v37, some ?v38, some ?v39, some ?v40, some ?v41, some ?v42, some ?v43, none, some (.bool true), some ?v46, some ?v47]
      ?T (fun wx => Wk v1 v2 v5 rb w6 wx) ?W ?E (by kernel_rfl) (by kernel_rfl) (by kernel_rfl) (fun x => ?hT) ?hF ?hini (Reg.all_ops ?runs) ?pres ?fin
  case W => exact fun j x w' => match j with | 4 => ∃ g, x 4 = .slice (some ⟨g, 0, none⟩) 3 3 ∧ RdP w' (.slice (some ⟨g, 0, none⟩) 3 3) pr3 | 8 => ∃ g, x 8 = .slice (some ⟨g, 0, none⟩) 3 3 ∧ Rd .u16 w' (.slice (some ⟨g, 0, none⟩) 3 3) (nats nm3) | 44 => ∃ g, x 44 = .slice (some ⟨g, 0, none⟩) 8 8 ∧ Src w' (.slice (some ⟨g, 0, none⟩) 8 8) bs8 | _ => True
  case E => exact fun _ w' w'' => Only (fun _ => False) w' w''
  case hT =>
    simp only [Reg.fillV, Act.put, List.setIfInBounds_toArray, List.set_cons_zero, List.set_cons_succ]
    rfl
  case runs =>
    refine And.intro ?_ ?_
    · refine Reg.ob_pure (fun _ => rfl) rfl rfl rfl rfl (fun x w1 hF => ?_)
      have r0 := hF.i.cell 0
      have r1 := hF.i.cell 1
      have r2 := hF.i.cell 2
      simp at r0 r1 r2
      go_simp
      with_reducible rfl
    refine And.intro ?_ ?_
    · refine Reg.ob_pure (fun _ => rfl) rfl rfl rfl rfl (fun x w1 hF => ?_)
      have r0 := hF.i.cell 0
      have r1 := hF.i.cell 1
      have r2 := hF.i.cell 2
      simp at r0 r1 r2
      go_simp
      with_reducible rfl
    refine And.intro ?_ ?_
    · refine Reg.ob_pure (fun _ => rfl) rfl rfl rfl rfl (fun x w1 hF => ?_)
      have r0 := hF.i.cell 0
      have r1 := hF.i.cell 1
      have r2 := hF.i.cell 2
      simp at r0 r1 r2
      go_simp
      with_reducible rfl
    refine And.intro ?_ ?_
    · refine Reg.ob_pure (fun _ => rfl) rfl rfl rfl rfl (fun x w1 hF => ?_)
      have r0 := hF.i.cell 0
      have r1 := hF.i.cell 1
      have r2 := hF.i.cell 2
      simp at r0 r1 r2
      go_simp
      with_reducible rfl
    refine And.intro ?_ ?_
    · refine Reg.ob_some (fun _ => rfl) rfl (fun x w1 hF hU K hK => ?_)
      replace hF := hF rfl
      go_simp
      exact hK _ _ (fun _ _ _ => hF.go ((Only.refl _ _).alloc _)) ((Only.refl _ _).alloc _) ⟨_, rfl, rdp_lit w1 83 pr3⟩
    refine And.intro ?_ ?_
    · refine Reg.ob_known (fun _ => rfl) rfl rfl (fun x w1 hF hU K hK => ?_)
      replace hF := hF rfl
      obtain ⟨⟨g, h4, hr⟩, -⟩ := hU
      have h4 : x 4 = .slice (some ⟨g, 0, none⟩) 3 3 := h4
      revert hK
      simp only [Nat.reduceAdd, h4]
      intro hK
      go_simp
      refine (samepairs_yes _ _ pr3 w1 hF.p hr (by decide)).mono ?_
      rintro e w9 ⟨rfl, ho⟩
      exact hK w9 (fun _ _ _ => hF.go ho) ho
    refine And.intro ?_ ?_
    · refine Reg.ob_pure (fun _ => rfl) rfl rfl rfl rfl (fun x w1 hF => ?_)
      have r0 := hF.i.cell 0
      have r1 := hF.i.cell 1
      have r2 := hF.i.cell 2
      simp at r0 r1 r2
      go_simp
      with_reducible rfl
    refine And.intro ?_ ?_
    · refine Reg.ob_pure (fun _ => rfl) rfl rfl rfl rfl (fun x w1 hF => ?_)
      have r0 := hF.i.cell 0
      have r1 := hF.i.cell 1
      have r2 := hF.i.cell 2
      simp at r0 r1 r2
      go_simp
      with_reducible rfl
    refine And.intro ?_ ?_
    · refine Reg.ob_some (fun _ => rfl) rfl (fun x w1 hF hU K hK => ?_)
      replace hF := hF rfl
      go_simp
      exact hK _ _ (fun _ _ _ => hF.go ((Only.refl _ _).alloc _)) ((Only.refl _ _).alloc _) ⟨_, rfl, rd16_lit w1 nm3⟩
    refine And.intro ?_ ?_
    · refine Reg.ob_known (fun _ => rfl) rfl rfl (fun x w1 hF hU K hK => ?_)
      replace hF := hF rfl
      obtain ⟨⟨g, h4, hr⟩, -⟩ := hU
      have h4 : x 8 = .slice (some ⟨g, 0, none⟩) 3 3 := h4
      revert hK
      simp only [Nat.reduceAdd, h4]
      intro hK
      go_simp
      refine (samenums_yes _ _ nm3 w1 hF.n hr (by decide)).mono ?_
      rintro e w9 ⟨rfl, ho⟩
      exact hK w9 (fun _ _ _ => hF.go ho) ho
    refine And.intro ?_ ?_
    · refine Reg.ob_pure (fun _ => rfl) rfl rfl rfl rfl (fun x w1 hF => ?_)
      have r0 := hF.i.cell 0
      have r1 := hF.i.cell 1
      have r2 := hF.i.cell 2
      simp at r0 r1 r2
      go_simp
      with_reducible rfl
    refine And.intro ?_ ?_
    · refine Reg.ob_pure (fun _ => rfl) rfl rfl rfl rfl (fun x w1 hF => ?_)
      have r0 := hF.i.cell 0
      have r1 := hF.i.cell 1
      have r2 := hF.i.cell 2
      simp at r0 r1 r2
      go_simp
      with_reducible rfl
    refine And.intro ?_ ?_
    · refine Reg.ob_pure (fun _ => rfl) rfl rfl rfl rfl (fun x w1 hF => ?_)
      have r0 := hF.i.cell 0
      have r1 := hF.i.cell 1
      have r2 := hF.i.cell 2
      simp at r0 r1 r2
      go_simp
      with_reducible rfl
    refine And.intro ?_ ?_
    · refine Reg.ob_pure (fun _ => rfl) rfl rfl rfl rfl (fun x w1 hF => ?_)
      have r0 := hF.i.cell 0
      have r1 := hF.i.cell 1
      have r2 := hF.i.cell 2
      simp at r0 r1 r2
      go_simp
      with_reducible rfl
    refine And.intro ?_ ?_
    · refine Reg.ob_pure (fun _ => rfl) rfl rfl rfl rfl (fun x w1 hF => ?_)
      have r0 := hF.i.cell 0
      have r1 := hF.i.cell 1
      have r2 := hF.i.cell 2
      simp at r0 r1 r2
      go_simp
      with_reducible rfl
    refine And.intro ?_ ?_
    · refine Reg.ob_pure (fun _ => rfl) rfl rfl rfl rfl (fun x w1 hF => ?_)
      have r0 := hF.i.cell 0
      have r1 := hF.i.cell 1
      have r2 := hF.i.cell 2
      simp at r0 r1 r2
      go_simp
      with_reducible rfl
    refine And.intro ?_ ?_
    · refine Reg.ob_pure (fun _ => rfl) rfl rfl rfl rfl (fun x w1 hF => ?_)
      have r0 := hF.i.cell 0
      have r1 := hF.i.cell 1
      have r2 := hF.i.cell 2
      simp at r0 r1 r2
      go_simp
      with_reducible rfl
    refine And.intro ?_ ?_
    · refine Reg.ob_pure (fun _ => rfl) rfl rfl rfl rfl (fun x w1 hF => ?_)
      have r0 := hF.i.cell 0
      have r1 := hF.i.cell 1
      have r2 := hF.i.cell 2
      simp at r0 r1 r2
      go_simp
      with_reducible rfl
    refine And.intro ?_ ?_
    · refine Reg.ob_pure (fun _ => rfl) rfl rfl rfl rfl (fun x w1 hF => ?_)
      have r0 := hF.i.cell 0
      have r1 := hF.i.cell 1
      have r2 := hF.i.cell 2
      simp at r0 r1 r2
      go_simp
      with_reducible rfl
    refine And.intro ?_ ?_
    · refine Reg.ob_pure (fun _ => rfl) rfl rfl rfl rfl (fun x w1 hF => ?_)
      have r0 := hF.i.cell 0
      have r1 := hF.i.cell 1
      have r2 := hF.i.cell 2
      simp at r0 r1 r2
      go_simp
      with_reducible rfl
    refine And.intro ?_ ?_
    · refine Reg.ob_pure (fun _ => rfl) rfl rfl rfl rfl (fun x w1 hF => ?_)
      have r0 := hF.i.cell 0
      have r1 := hF.i.cell 1
      have r2 := hF.i.cell 2
      simp at r0 r1 r2
      go_simp
      with_reducible rfl
    refine And.intro ?_ ?_
    · refine Reg.ob_pure (fun _ => rfl) rfl rfl rfl rfl (fun x w1 hF => ?_)
      have r0 := hF.i.cell 0
      have r1 := hF.i.cell 1
      have r2 := hF.i.cell 2
      simp at r0 r1 r2
      go_simp
      with_reducible rfl
    refine And.intro ?_ ?_
    · refine Reg.ob_pure (fun _ => rfl) rfl rfl rfl rfl (fun x w1 hF => ?_)
      have r0 := hF.i.cell 0
      have r1 := hF.i.cell 1
      have r2 := hF.i.cell 2
      simp at r0 r1 r2
      go_simp
      with_reducible rfl
    refine And.intro ?_ ?_
    · refine Reg.ob_pure (fun _ => rfl) rfl rfl rfl rfl (fun x w1 hF => ?_)
      have r0 := hF.i.cell 0
      have r1 := hF.i.cell 1
      have r2 := hF.i.cell 2
      simp at r0 r1 r2
      go_simp
      with_reducible rfl
    refine And.intro ?_ ?_
    · refine Reg.ob_pure (fun _ => rfl) rfl rfl rfl rfl (fun x w1 hF => ?_)
      have r0 := hF.i.cell 0
      have r1 := hF.i.cell 1
      have r2 := hF.i.cell 2
      simp at r0 r1 r2
      go_simp
      with_reducible rfl
    refine And.intro ?_ ?_
    · refine Reg.ob_pure (fun _ => rfl) rfl rfl rfl rfl (fun x w1 hF => ?_)
      have r0 := hF.i.cell 0
      have r1 := hF.i.cell 1
      have r2 := hF.i.cell 2
      simp at r0 r1 r2
      go_simp
      with_reducible rfl
    refine And.intro ?_ ?_
    · refine Reg.ob_pure (fun _ => rfl) rfl rfl rfl rfl (fun x w1 hF => ?_)
      have r0 := hF.i.cell 0
      have r1 := hF.i.cell 1
      have r2 := hF.i.cell 2
      simp at r0 r1 r2
      go_simp
      with_reducible rfl
    refine And.intro ?_ ?_
    · refine Reg.ob_pure (fun _ => rfl) rfl rfl rfl rfl (fun x w1 hF => ?_)
      have r0 := hF.i.cell 0
      have r1 := hF.i.cell 1
      have r2 := hF.i.cell 2
      simp at r0 r1 r2
      go_simp
      with_reducible rfl
    refine And.intro ?_ ?_
    · refine Reg.ob_pure (fun _ => rfl) rfl rfl rfl rfl (fun x w1 hF => ?_)
      have r0 := hF.i.cell 0
      have r1 := hF.i.cell 1
      have r2 := hF.i.cell 2
      simp at r0 r1 r2
      go_simp
      with_reducible rfl
    refine And.intro ?_ ?_
    · refine Reg.ob_pure (fun _ => rfl) rfl rfl rfl rfl (fun x w1 hF => ?_)
      have r0 := hF.i.cell 0
      have r1 := hF.i.cell 1
      have r2 := hF.i.cell 2
      simp at r0 r1 r2
      go_simp
      with_reducible rfl
    refine And.intro ?_ ?_
    · refine Reg.ob_pure (fun _ => rfl) rfl rfl rfl rfl (fun x w1 hF => ?_)
      have r0 := hF.i.cell 0
      have r1 := hF.i.cell 1
      have r2 := hF.i.cell 2
      simp at r0 r1 r2
      go_simp
      with_reducible rfl
    refine And.intro ?_ ?_
    · refine Reg.ob_pure (fun _ => rfl) rfl rfl rfl rfl (fun x w1 hF => ?_)
      have r0 := hF.i.cell 0
      have r1 := hF.i.cell 1
      have r2 := hF.i.cell 2
      simp at r0 r1 r2
      go_simp
      with_reducible rfl
    refine And.intro ?_ ?_
    · refine Reg.ob_pure (fun _ => rfl) rfl rfl rfl rfl (fun x w1 hF => ?_)
      have r0 := hF.i.cell 0
      have r1 := hF.i.cell 1
      have r2 := hF.i.cell 2
      simp at r0 r1 r2
      go_simp
      with_reducible rfl
    refine And.intro ?_ ?_
    · refine Reg.ob_pure (fun _ => rfl) rfl rfl rfl rfl (fun x w1 hF => ?_)
      have r0 := hF.i.cell 0
      have r1 := hF.i.cell 1
      have r2 := hF.i.cell 2
      simp at r0 r1 r2
      go_simp
      with_reducible rfl
    refine And.intro ?_ ?_
    · refine Reg.ob_pure (fun _ => rfl) rfl rfl rfl rfl (fun x w1 hF => ?_)
      have r0 := hF.i.cell 0
      have r1 := hF.i.cell 1
      have r2 := hF.i.cell 2
      simp at r0 r1 r2
      go_simp
      with_reducible rfl
    refine And.intro ?_ ?_
    · refine Reg.ob_pure (fun _ => rfl) rfl rfl rfl rfl (fun x w1 hF => ?_)
      have r0 := hF.i.cell 0
      have r1 := hF.i.cell 1
      have r2 := hF.i.cell 2
      simp at r0 r1 r2
      go_simp
      with_reducible rfl
    refine And.intro ?_ ?_
    · refine Reg.ob_pure (fun _ => rfl) rfl rfl rfl rfl (fun x w1 hF => ?_)
      have r0 := hF.i.cell 0
      have r1 := hF.i.cell 1
      have r2 := hF.i.cell 2
      simp at r0 r1 r2
      go_simp
      with_reducible rfl
    refine And.intro ?_ ?_
    · refine Reg.ob_pure (fun _ => rfl) rfl rfl rfl rfl (fun x w1 hF => ?_)
      have r0 := hF.i.cell 0
      have r1 := hF.i.cell 1
      have r2 := hF.i.cell 2
      simp at r0 r1 r2
      go_simp
      with_reducible rfl
    refine And.intro ?_ ?_
    · refine Reg.ob_pure (fun _ => rfl) rfl rfl rfl rfl (fun x w1 hF => ?_)
      have r0 := hF.i.cell 0
      have r1 := hF.i.cell 1
      have r2 := hF.i.cell 2
      simp at r0 r1 r2
      go_simp
      with_reducible rfl
    refine And.intro ?_ ?_
    · refine Reg.ob_pure (fun _ => rfl) rfl rfl rfl rfl (fun x w1 hF => ?_)
      have r0 := hF.i.cell 0
      have r1 := hF.i.cell 1
      have r2 := hF.i.cell 2
      simp at r0 r1 r2
      go_simp
      with_reducible rfl
    refine And.intro ?_ ?_
    · refine Reg.ob_pure (fun _ => rfl) rfl rfl rfl rfl (fun x w1 hF => ?_)
      have r0 := hF.i.cell 0
      have r1 := hF.i.cell 1
      have r2 := hF.i.cell 2
      simp at r0 r1 r2
      go_simp
      with_reducible rfl
    refine And.intro ?_ ?_
    · refine Reg.ob_pure (fun _ => rfl) rfl rfl rfl rfl (fun x w1 hF => ?_)
      have r0 := hF.i.cell 0
      have r1 := hF.i.cell 1
      have r2 := hF.i.cell 2
      simp at r0 r1 r2
      go_simp
      with_reducible rfl
    refine And.intro ?_ ?_
    · refine Reg.ob_pure (fun _ => rfl) rfl rfl rfl rfl (fun x w1 hF => ?_)
      have r0 := hF.i.cell 0
      have r1 := hF.i.cell 1
      have r2 := hF.i.cell 2
      simp at r0 r1 r2
      go_simp
      with_reducible rfl
    refine And.intro ?_ ?_
    · refine Reg.ob_pure (fun _ => rfl) rfl rfl rfl rfl (fun x w1 hF => ?_)
      have r0 := hF.i.cell 0
      have r1 := hF.i.cell 1
      have r2 := hF.i.cell 2
      simp at r0 r1 r2
      go_simp
      with_reducible rfl
    refine And.intro ?_ ?_
    · refine Reg.ob_some (fun _ => rfl) rfl (fun x w1 hF hU K hK => ?_)
      replace hF := hF rfl
      go_simp
      exact hK _ _ (fun _ _ _ => hF.go ((Only.refl _ _).alloc _)) ((Only.refl _ _).alloc _) ⟨_, rfl, src_lit w1 bs8⟩
    refine And.intro ?_ ?_
    · refine Reg.ob_known (fun _ => rfl) rfl rfl (fun x w1 hF hU K hK => ?_)
      replace hF := hF rfl
      obtain ⟨⟨g, h4, hr⟩, -⟩ := hU
      have h4 : x 44 = .slice (some ⟨g, 0, none⟩) 8 8 := h4
      revert hK
      simp only [Nat.reduceAdd, h4]
      intro hK
      go_simp
      refine (same_is _ _ bs8 bs8 w1 hF.s hr (by decide)).mono ?_
      rintro e w9 ⟨rfl, n9, rfl⟩
      exact hK _ (fun _ _ _ => hF.go (only_drewN _ _)) (only_drewN _ _)
    refine And.intro ?_ ?_
    · refine Reg.ob_pure (fun _ => rfl) rfl rfl rfl rfl (fun x w1 hF => ?_)
      have r0 := hF.i.cell 0
      have r1 := hF.i.cell 1
      have r2 := hF.i.cell 2
      simp at r0 r1 r2
      go_simp
      with_reducible rfl
    refine And.intro ?_ ?_
    · refine Reg.ob_pure (fun _ => rfl) rfl rfl rfl rfl (fun x w1 hF => ?_)
      have r0 := hF.i.cell 0
      have r1 := hF.i.cell 1
      have r2 := hF.i.cell 2
      simp at r0 r1 r2
      go_simp
      with_reducible rfl
    exact trivial
  case hF =>
    exact K6.out
  case hini =>
    exact trivial
  case pres =>
    intro i hi j hj hc x w1 w2 hF hE hW
    simp only [List.mem_cons, List.mem_nil_iff, or_false] at hj
    rcases hj with rfl | rfl | rfl
    · obtain ⟨g, h1, h2⟩ := hW
      exact ⟨g, h1, h2.only hE⟩
    · obtain ⟨g, h1, h2⟩ := hW
      exact ⟨g, h1, h2.only hE (by simp)⟩
    · obtain ⟨g, h1, h2⟩ := hW
      exact ⟨g, h1, h2.of_only hE⟩
  case fin =>
    rintro x w9 hF -
    have O9 := Lib.hid (hF rfl).pure
    clear hF
    go_wp2
    go_ret
    exact ⟨rfl, only_more O6.out O9.out⟩
end Go.Proofs.Ytefcimkopgcagaa
