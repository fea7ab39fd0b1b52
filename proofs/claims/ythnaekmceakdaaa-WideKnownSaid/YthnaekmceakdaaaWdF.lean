/- The reference of layer 8: Next. Conditions: as each says. -/
import Derived.Test.YthnaekmceakdaaaWdE
set_option linter.unusedVariables false
namespace Go.Proofs.Ythnaekmceakdaaa
open Go.RowKit

/-- What is answered of a struct and two more. -/
theorem res_cell2 {P : Program} {fn : Func} {p q r : Tmp} {ty : TypeId} (h : fn.results = #[.cell p ty, .tmp q, .tmp r]) (tmps : Array Value) (w : World) (g : Nat) (t : TypeId) (cs : Array Value) (d : TypeDesc) (x y : Value)
    (hp : tmps.getD p undef = .pointer (some ⟨g, 0, none⟩)) (hq : tmps.getD q undef = x) (hr : tmps.getD r undef = y) (hg : Is w g t cs)
    (hu : P.underlying ty = some d) (hd : (match d with | .struct _ | .array _ _ => true | _ => false) = true) (hi : (P.info? ty).map (·.size) = some cs.size) :
    (results fn tmps).run P w = .ok (.tuple #[.agg cs, x, y]) w := by
  have hp' : tmps[p]?.getD undef = .pointer (some ⟨g, 0, none⟩) := by simpa using hp
  have hq' : tmps[q]?.getD undef = x := by simpa using hq
  have hr' : tmps[r]?.getD undef = y := by simpa using hr
  simp [results, h, hp', hq', hr', asAddr, run_loadVar_row w g t ty cs (0, 0) d hg hu hd hi]
theorem Try.sizeRx : (Try.prog.info? 31).map (·.size) = some 3 := by kernel_rfl
abbrev rxC (d top : Nat) (s : Bool) : Array Value := #[.int .i64 (d : Int), .int .u64 (top : Int), .bool s]

set_option maxRecDepth 100000 in
set_option maxHeartbeats 2000000 in
theorem rnext_is (d C n top : Nat) (s : Bool) (w : World) (hd : Dig d C) (h1 : 1 < C) (ht : top < 4611686018427387904) (hf : Fine C top s) (hn : n < 4294967296) :
    Calls Try.prog 16 #[rxV d top s, .int .u32 (n : Int)] w (Says (.tuple #[rxV d (max top (peekN C top s n)) true, .int .u64 ((peekN C top s n : Nat) : Int), .bool (!s)]) w) := by
  have HP := Lib.hid (fun w => rpeek_is d C n top s w hd h1 ht hf hn)
  have hd1 := hd.1
  have hf0 := hf.none
  have H0 := Lib.hid hf0
  clear hd h1 hf hf0 hn
  generalize peekN C top s n = pk at *
  obtain ⟨mx, hmx⟩ : ∃ m, max top pk = m := ⟨_, rfl⟩
  have HMX := Lib.hid hmx
  rw [hmx]
  clear hmx
  go_enter Try.func16, Try.ntmps16
  go_upto_region 1 with (fail)
  obtain ⟨p, hp⟩ : ∃ p, w.heap.size = p := ⟨_, rfl⟩
  obtain ⟨q, hq⟩ : ∃ q, w.heap.size + 1 = q := ⟨_, rfl⟩
  generalize hw2 : World.alloc (World.alloc w _) _ = w2
  have I1 := Lib.hid (show Is w2 p 31 (rxC d top s) from by rw [← hw2, ← hp]; exact (Is.made w _ _).alloc _)
  have I2 := Lib.hid (show Is w2 q 31 (rxC 0 0 false) from by
    have e : (w.alloc (.cells (rxC d top s) 31)).heap.size = w.heap.size + 1 := by simp
    rw [← hw2, ← hq, ← e]
    exact Is.made _ _ _)
  have O2 := Lib.hid (show Only (fun _ => False) w w2 from by rw [← hw2]; exact ((Only.refl _ w).alloc _).alloc _)
  rw [hq, hp]
  have hwp : w.heap.size ≤ p := by omega
  have hwq : w.heap.size ≤ q := by omega
  have HNE := Lib.hid (show p ≠ q by omega)
  clear hw2 hp hq
  cases s
  · have HM := Lib.hid (show mx = pk from by rw [← HMX.out, H0.out rfl]; omega)
    go_upto_region 6 with (first | (refine wpList_load_want (o := ⟨some 9, _, _, _, _, _⟩) rfl _ _ rfl p rfl _ _ _ I1.out Try.underlying31 rfl Try.sizeRx ?_) | (go_at_call 12; refine (HP.out _).mono ?_; rintro e w3 ⟨rfl, ho⟩; have HO := Lib.hid ho; clear ho; have J1 := Lib.hid (I1.out.only HO.out (by simp)); have J2 := Lib.hid (I2.out.only HO.out (by simp)); have O3 := Lib.hid (O2.out.trans HO.out (fun _ _ e => e)); have c1 := J1.out.cell 1; have c2 := J1.out.cell 2; have f1 := J1.out.free 1; have f2 := J1.out.free 2; simp at c1 c2))
    generalize hw5 : World.setCell (World.setCell w3 _ _) _ _ = w5
    have K1 := Lib.hid (show Is w5 p 31 (rxC d pk true) from by rw [← hw5]; exact (J1.out.put 1 _).put 2 _)
    have K2 := Lib.hid (show Is w5 q 31 (rxC 0 0 false) from by rw [← hw5]; exact (J2.out.far (p := ⟨p, 1, none⟩) HNE.out.symm _).far (p := ⟨p, 2, none⟩) HNE.out.symm _)
    have O5 := Lib.hid (show Only (fun _ => False) w w5 from by rw [← hw5]; exact (O3.out.set (p := ⟨p, 1, none⟩) (fun h => absurd h (Nat.not_lt.2 hwp)) _).set (p := ⟨p, 2, none⟩) (fun h => absurd h (Nat.not_lt.2 hwp)) _)
    clear hw5 c1 c2 f1 f2
    go_wp2_with (first | (refine wpList_load_want (o := ⟨some 25, _, _, _, _, _⟩) rfl _ _ rfl p rfl _ _ _ K1.out Try.underlying31 rfl Try.sizeRx ?_) | (refine wpList_store_is rfl 31 _ _ rfl q (rxC d pk true) rfl rfl 31 (rxC 0 0 false) K2.out Try.sizeRx rfl (by simp [Value.oneCell']) ?_; intro w6 hi6 ho6))
    refine bodyPost_ret (res_cell2 Try.results16 _ w6 q 31 _ _ _ _ rfl rfl rfl hi6 Try.underlying31 rfl Try.sizeRx) rfl ?_
    exact ⟨by rw [HM.out]; rfl, O5.out.trans ho6 (fun i hi e => by omega)⟩
  · by_cases hgt : top < pk
    · have hgt2 : (top : Int) < (pk : Int) := by omega
      have HM := Lib.hid (show mx = pk from by rw [← HMX.out]; omega)
      go_upto_region 6 with (first | (refine wpList_load_want (o := ⟨some 9, _, _, _, _, _⟩) rfl _ _ rfl p rfl _ _ _ I1.out Try.underlying31 rfl Try.sizeRx ?_) | (go_at_call 12; refine (HP.out _).mono ?_; rintro e w3 ⟨rfl, ho⟩; have HO := Lib.hid ho; clear ho; have J1 := Lib.hid (I1.out.only HO.out (by simp)); have J2 := Lib.hid (I2.out.only HO.out (by simp)); have O3 := Lib.hid (O2.out.trans HO.out (fun _ _ e => e)); have c1 := J1.out.cell 1; have c2 := J1.out.cell 2; have f1 := J1.out.free 1; have f2 := J1.out.free 2; simp at c1 c2))
      generalize hw5 : World.setCell (World.setCell w3 _ _) _ _ = w5
      have K1 := Lib.hid (show Is w5 p 31 (rxC d pk true) from by rw [← hw5]; exact (J1.out.put 1 _).put 2 _)
      have K2 := Lib.hid (show Is w5 q 31 (rxC 0 0 false) from by rw [← hw5]; exact (J2.out.far (p := ⟨p, 1, none⟩) HNE.out.symm _).far (p := ⟨p, 2, none⟩) HNE.out.symm _)
      have O5 := Lib.hid (show Only (fun _ => False) w w5 from by rw [← hw5]; exact (O3.out.set (p := ⟨p, 1, none⟩) (fun h => absurd h (Nat.not_lt.2 hwp)) _).set (p := ⟨p, 2, none⟩) (fun h => absurd h (Nat.not_lt.2 hwp)) _)
      clear hw5 c1 c2 f1 f2
      go_wp2_with (first | (refine wpList_load_want (o := ⟨some 25, _, _, _, _, _⟩) rfl _ _ rfl p rfl _ _ _ K1.out Try.underlying31 rfl Try.sizeRx ?_) | (refine wpList_store_is rfl 31 _ _ rfl q (rxC d pk true) rfl rfl 31 (rxC 0 0 false) K2.out Try.sizeRx rfl (by simp [Value.oneCell']) ?_; intro w6 hi6 ho6))
      refine bodyPost_ret (res_cell2 Try.results16 _ w6 q 31 _ _ _ _ rfl rfl rfl hi6 Try.underlying31 rfl Try.sizeRx) rfl ?_
      exact ⟨by rw [HM.out]; rfl, O5.out.trans ho6 (fun i hi e => by omega)⟩
    · have hgt2 : ¬ (top : Int) < (pk : Int) := by omega
      have HM := Lib.hid (show mx = top from by rw [← HMX.out]; omega)
      go_upto_region 6 with (first | (refine wpList_load_want (o := ⟨some 9, _, _, _, _, _⟩) rfl _ _ rfl p rfl _ _ _ I1.out Try.underlying31 rfl Try.sizeRx ?_) | (go_at_call 12; refine (HP.out _).mono ?_; rintro e w3 ⟨rfl, ho⟩; have HO := Lib.hid ho; clear ho; have J1 := Lib.hid (I1.out.only HO.out (by simp)); have J2 := Lib.hid (I2.out.only HO.out (by simp)); have O3 := Lib.hid (O2.out.trans HO.out (fun _ _ e => e)); have c1 := J1.out.cell 1; have c2 := J1.out.cell 2; have f1 := J1.out.free 1; have f2 := J1.out.free 2; simp at c1 c2))
      generalize hw5 : World.setCell w3 _ _ = w5
      have K1 := Lib.hid (show Is w5 p 31 (rxC d top true) from by rw [← hw5]; exact J1.out.put 2 _)
      have K2 := Lib.hid (show Is w5 q 31 (rxC 0 0 false) from by rw [← hw5]; exact J2.out.far (p := ⟨p, 2, none⟩) HNE.out.symm _)
      have O5 := Lib.hid (show Only (fun _ => False) w w5 from by rw [← hw5]; exact O3.out.set (p := ⟨p, 2, none⟩) (fun h => absurd h (Nat.not_lt.2 hwp)) _)
      clear hw5 c1 c2 f1 f2
      go_wp2_with (first | (refine wpList_load_want (o := ⟨some 25, _, _, _, _, _⟩) rfl _ _ rfl p rfl _ _ _ K1.out Try.underlying31 rfl Try.sizeRx ?_) | (refine wpList_store_is rfl 31 _ _ rfl q (rxC d top true) rfl rfl 31 (rxC 0 0 false) K2.out Try.sizeRx rfl (by simp [Value.oneCell']) ?_; intro w6 hi6 ho6))
      refine bodyPost_ret (res_cell2 Try.results16 _ w6 q 31 _ _ _ _ rfl rfl rfl hi6 Try.underlying31 rfl Try.sizeRx) rfl ?_
      exact ⟨by rw [HM.out]; rfl, O5.out.trans ho6 (fun i hi e => by omega)⟩
end Go.Proofs.Ythnaekmceakdaaa
