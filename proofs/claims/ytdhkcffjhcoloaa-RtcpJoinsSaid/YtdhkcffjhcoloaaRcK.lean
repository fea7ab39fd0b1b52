/- rtcp.PutChunks: its walk. Conditions: as it says. -/
import Derived.Test.YtdhkcffjhcoloaaRcI
set_option linter.unusedVariables false
namespace Go.Proofs.Ytdhkcffjhcoloaa
open Go.RowKit

theorem results_two {P : Program} {fn : Func} {p q : Tmp} {ty : TypeId} (h : fn.results = #[.cell p ty, .tmp q]) (tmps : Array Value) (w : World) (g : Nat) (t : TypeId) (cs : Array Value) (d : TypeDesc) (x : Value)
    (hp : tmps.getD p undef = .pointer (some ⟨g, 0, none⟩)) (hq : tmps.getD q undef = x) (hg : Is w g t cs)
    (hu : P.underlying ty = some d) (hd : (match d with | .struct _ | .array _ _ => true | _ => false) = true) (hi : (P.info? ty).map (·.size) = some cs.size) :
    (results fn tmps).run P w = .ok (.tuple #[.agg cs, x]) w := by
  have hp' : tmps[p]?.getD undef = .pointer (some ⟨g, 0, none⟩) := by simpa using hp
  have hq' : tmps[q]?.getD undef = x := by simpa using hq
  simp [results, h, hp', hq', asAddr, run_loadVar_row w g t ty cs (0, 0) d hg hu hd hi]

/-- A body with a chunk behind it. -/
def encC (b : List Nat) (c : Nat × ByteArray) : List Nat := pad4 (b ++ b4 c.1 ++ (if c.2.size = 0 then [] else [1, c.2.size] ++ strB c.2) ++ [0])
/-- Chunks that can be read. -/
def RdC (w : World) (v : Value) (l : List (Nat × ByteArray)) : Prop :=
  ∃ A c, v = .slice A l.length c ∧ (0 < l.length → ∃ g o, A = some ⟨g, o, none⟩ ∧ ∀ (i : Nat) (x : Nat × ByteArray), l[i]? = some x → w.cell? ⟨g, o + i * 2, none⟩ = some (.int .u32 (x.1 : Nat)) ∧ w.cell? ⟨g, o + i * 2 + 1, none⟩ = some (.string x.2))
theorem pad4_len (l : List Nat) : (pad4 l).length = (l.length + 3) / 4 * 4 := by unfold pad4; rw [List.length_append, List.length_replicate]; omega
theorem Try.sizeCh : (Try.prog.info? 97).map (·.size) = some 2 := by kernel_rfl
/-- A number in a literal of its own. -/
theorem nums_lit (w : World) (n : Nat) : Nums (w.alloc (.cells #[.int .u32 (n : Nat)] 48)) (.slice (some ⟨w.heap.size, 0, none⟩) 1 1) [n] := by
  refine ⟨⟨_, 1, rfl, Nat.le_refl _, fun _ => ⟨w.heap.size, 0, rfl, fun j hj => ?_⟩⟩, fun b hb => ?_⟩
  · have h := (Is.made w 48 #[Value.int .u32 (n : Nat)]).cell j
    have hj0 : j = 0 := by simp [nats] at hj; omega
    subst hj0
    simp [nats]
  · have e : w.heap.size = b := by simpa [Value.ownBlock] using hb
    subst e
    exact ⟨_, _, Is.made w 48 #[Value.int .u32 (n : Nat)], by decide⟩

/-- What PutChunks answers. -/
def ChunksEnd (l : List (Nat × ByteArray)) (w : World) (e : Ending) (w' : World) : Prop :=
  Only (fun _ => False) w w' ∧ ((¬ (l.length ≤ 31 ∧ ∀ c ∈ l, c.2.size ≤ 255) ∧ e = .returned (.tuple #[.agg zeroP, .int .i64 2])) ∨
    ((l.length ≤ 31 ∧ ∀ c ∈ l, c.2.size ≤ 255) ∧ ∃ A c, e = .returned (.tuple #[.agg #[.int .u8 (l.length : Nat), .int .u8 202, .slice A (l.foldl encC []).length c, .int .u8 0], .int .i64 0]) ∧ Acc w (.slice A (l.foldl encC []).length c) (l.foldl encC []) w'))
theorem foldl_snoc {l : List (Nat × ByteArray)} {k : Nat} {x : Nat × ByteArray} (h : l[k]? = some x) : (l.take (k + 1)).foldl encC [] = encC ((l.take k).foldl encC []) x := by
  obtain ⟨hk, rfl⟩ := List.getElem?_eq_some_iff.1 h
  rw [List.take_succ_eq_append_getElem hk, List.foldl_append]
  rfl

set_option maxRecDepth 100000 in
set_option maxHeartbeats 1000000 in
theorem chunks_is (v : Value) (l : List (Nat × ByteArray)) (w : World) (hr : RdC w v l) (hf : ∀ c ∈ l, c.1 < 4294967296) (hl : l.length ≤ 1000) (hbs : ∀ c ∈ l, c.2.size ≤ 100000) :
    Calls Try.prog 26 #[v] w (ChunksEnd l w) := by
  obtain ⟨A, c, rfl, hh⟩ := hr
  have HF := Lib.hid hf
  have HH := Lib.hid hh
  have HBS := Lib.hid hbs
  obtain ⟨L, hL⟩ : ∃ L, l.length = L := ⟨_, rfl⟩
  have HL := Lib.hid hL
  rw [hL] at hl ⊢
  have HI := Lib.hid (Is.made w 36 zeroP)
  clear hf hh hL hbs
  by_cases h31 : 31 < L
  · have z : decide ((31 : Int) < (L : Int)) = true := decide_eq_true (by omega)
    have HNO := Lib.hid (show ¬ (l.length ≤ 31 ∧ ∀ c ∈ l, c.2.size ≤ 255) from fun h => by have := h.1; rw [HL.out] at this; omega)
    clear h31 hl
    go_enter Try.func26, Try.ntmps26
    go_wp2_with (refine wpList_store_is rfl 36 _ _ rfl w.heap.size zeroP rfl rfl 36 zeroP HI.out Try.sizeRc rfl zeroP_one ?_; intro w5 hi5 ho5)
    exact bodyPost_ret (results_two Try.results26 _ w5 w.heap.size 36 zeroP _ _ rfl rfl hi5 Try.underlying36 rfl Try.sizeRc) rfl ⟨only_made ho5, .inl ⟨HNO.out, rfl⟩⟩
  · have z : decide ((31 : Int) < (L : Int)) = false := decide_eq_false (by omega)
    go_enter Try.func26, Try.ntmps26
    go_upto_region 3 with (fail)
    obtain ⟨rb, hrb⟩ : ∃ rb, w.heap.size = rb := ⟨_, rfl⟩
    generalize hw1 : World.alloc _ _ = w1
    have I1 := Lib.hid (show Is w1 rb 36 zeroP from by rw [← hw1, ← hrb]; exact Is.made _ _ _)
    have O1 := Lib.hid (show Only (fun _ => False) w w1 from by rw [← hw1]; exact (Only.refl _ w).alloc _)
    have RB := Lib.hid hrb
    rw [hrb]
    clear hw1 HI hrb
    go_wp2
    go_loopw [4, 13] (fun s4 s13 wr => ∃ k : Nat, k ≤ L ∧ s13 = .int .i64 k ∧ Acc w s4 ((l.take k).foldl encC []) wr ∧ ((l.take k).foldl encC []).length ≤ 300 * k ∧ Is wr rb 36 zeroP ∧ (∀ c ∈ l.take k, c.2.size ≤ 255)) (fun _ s13 _ => L - (intOf s13).toNat)
    case atStart => exact ⟨0, by omega, rfl, ⟨World.ownsRow_nil _ _ _ _, O1.out⟩, by simp, I1.out, by simp⟩
    case round =>
      obtain ⟨k, hk, rfl, hacc, hcl, hi, hsm⟩ := hrel
      obtain ⟨cur, hcur⟩ : ∃ cur, (l.take k).foldl encC [] = cur := ⟨_, rfl⟩
      rw [hcur] at hacc hcl
      have HCUR := Lib.hid hcur
      clear hcur
      obtain ⟨A4, c4, rfl⟩ := hacc.slice
      have AC := Lib.hid hacc
      have IR := Lib.hid hi
      have HSM := Lib.hid hsm
      clear hacc hi hsm
      by_cases hkl : k < L
      · have hkb : k < l.length := by rw [HL.out]; exact hkl
        obtain ⟨⟨n, s⟩, hx⟩ : ∃ x, l[k]? = some x := ⟨_, List.getElem?_eq_getElem hkb⟩
        have hm := List.mem_of_getElem? hx
        have hn : n < 4294967296 := HF.out _ hm
        have hss : s.size ≤ 100000 := HBS.out _ hm
        obtain ⟨g, o, rfl, hcell⟩ := HH.out (by rw [HL.out]; omega)
        obtain ⟨q0, q1⟩ := hcell k _ hx
        have q0 := (AC.out.pure.cell (World.block_lt_of_cell? w _ q0) (by simp)).trans q0
        have q1 := (AC.out.pure.cell (World.block_lt_of_cell? w _ q1) (by simp)).trans q1
        simp only at q0 q1
        have HSN := Lib.hid (foldl_snoc hx)
        have HTK := Lib.hid (show s.size ≤ 255 → ∀ c ∈ l.take (k + 1), c.2.size ≤ 255 from fun h c hc => by
          rw [List.take_succ_eq_append_getElem hkb] at hc
          rcases List.mem_append.1 hc with hc | hc
          · exact HSM.out c hc
          · rw [List.mem_singleton.1 hc, show l[k] = (n, s) from by have := List.getElem?_eq_getElem hkb; rw [hx] at this; injection this with this; exact this.symm]
            exact h)
        have HBIG := Lib.hid (show 255 < s.size → ¬ (l.length ≤ 31 ∧ ∀ c ∈ l, c.2.size ≤ 255) from fun h hh => by have := hh.2 _ hm; simp only at this; omega)
        have hkI : (k : Int) < (L : Int) := by omega
        have V1 := Lib.hid (show (#[.int .u32 (n : Nat), .string s] : Array Value).all (·.oneCell') = true from by simp [Value.oneCell'])
        clear hcell hx hm hkb
        go_upto_region 7 with (refine wpList_store_is rfl 97 _ _ rfl wr.heap.size #[.int .u32 (n : Nat), .string s] rfl rfl 97 _ (Is.made _ _ _) Try.sizeCh rfl V1.out ?_; intro w2 hi2 ho2)
        have I2 := Lib.hid hi2
        have O2 := Lib.hid (only_made ho2)
        have R2 := Lib.hid (IR.out.only O2.out (by simp))
        have A2 := Lib.hid (AC.out.go O2.out)
        have CB := Lib.hid (show w.heap.size ≤ wr.heap.size from AC.out.pure.size)
        generalize wr.heap.size = cb at *
        clear hi2 ho2 q0 q1
        have q0 := I2.out.cell 0
        have q1 := I2.out.cell 1
        simp at q0 q1
        by_cases hbig : 255 < s.size
        · have zb : decide ((255 : Int) < (s.size : Int)) = true := decide_eq_true (by omega)
          have HNO := Lib.hid (HBIG.out hbig)
          clear hbig hcl
          go_wp2_with (refine wpList_store_is rfl 36 _ _ rfl rb zeroP rfl rfl 36 zeroP R2.out Try.sizeRc rfl zeroP_one ?_; intro w5 hi5 ho5)
          exact bodyPost_ret (results_two Try.results26 _ w5 rb 36 zeroP _ _ rfl rfl hi5 Try.underlying36 rfl Try.sizeRc) rfl ⟨A2.out.pure.trans ho5 (fun i hi e => by have := RB.out; omega), .inl ⟨HNO.out, rfl⟩⟩
        · have zb : decide ((255 : Int) < (s.size : Int)) = false := decide_eq_false (by omega)
          have hs255 : s.size ≤ 255 := by omega
          clear hbig
          have HCX := Lib.hid (show cur.length ≤ 9300 from by omega)
          have HR2 := Lib.hid (appended_is w (w2.alloc (.cells #[.int .u32 (n : Nat)] 48)) _ (.slice (some ⟨w2.heap.size, 0, none⟩) 1 1) cur [n] (A2.out.go ((Only.refl _ w2).alloc _)) (nums_lit w2 n) (by simpa using hn) (by omega) (by simp))
          go_wp2_with fail
          refine HR2.out.mono ?_
          rintro e w3 ⟨v3, rfl, hacc3, -, hkt3⟩
          have hkt : KeepsT w2 w3 := (KeepsT.pure ((Only.refl _ w2).alloc _)).trans hkt3
          have I3 := Lib.hid (hkt _ _ _ (by decide) I2.out)
          have R3 := Lib.hid (hkt _ _ _ (by decide) R2.out)
          have A3 := Lib.hid (show Acc w v3 (cur ++ b4 n) w3 from by simpa using hacc3)
          have L3 := Lib.hid (show (cur ++ b4 n).length = cur.length + 4 from by rw [List.length_append]; rfl)
          clear q0 q1 hkt hkt3 hacc3
          have q0 := I3.out.cell 0
          have q1 := I3.out.cell 1
          simp at q0 q1
          go_upto_region 10 with (fail)
          obtain ⟨em, hem⟩ : ∃ em, decide (s.size = 0) = em := ⟨_, rfl⟩
          have hTL : s.toList.isEmpty = em := by
            rw [← hem, ByteArray.toList_eq, Bool.eq_iff_iff, List.isEmpty_iff, decide_eq_true_iff, ← List.length_eq_zero_iff, Array.length_toList]
            exact Iff.rfl
          have hTL2 : (!s.toList.isEmpty) = !em := by rw [hTL]
          have HMID := Lib.hid (show cur ++ b4 n ++ (if s.size = 0 then [] else [1, s.size] ++ strB s) = if em = true then cur ++ b4 n else cur ++ b4 n ++ [1, s.size] ++ strB s from by
            rw [← hem]
            by_cases h : s.size = 0
            · rw [if_pos h, if_pos (decide_eq_true h), List.append_nil]
            · rw [if_neg h, if_neg (by simpa using h), ← List.append_assoc])
          have HSL := Lib.hid (strB_len s)
          clear hem
          go_upto_if 29 with (fail)
          obtain ⟨mid, hmid⟩ : ∃ mid, cur ++ b4 n ++ (if s.size = 0 then [] else [1, s.size] ++ strB s) = mid := ⟨_, rfl⟩
          rw [hmid] at HMID
          have HME := Lib.hid hmid
          have LM := Lib.hid (show mid.length ≤ cur.length + 4 + 2 + 255 from by
            rw [HMID.out]
            split
            · rw [L3.out]; omega
            · rw [List.length_append, List.length_append, L3.out, HSL.out]; simp; omega)
          clear hmid
          go_cut [4] (fun s4 wx => ∃ A c, s4 = .slice A mid.length c ∧ Acc w s4 mid wx ∧ Is wx rb 36 zeroP)
          case first =>
            cases em
            · have HM2 := Lib.hid (show mid = cur ++ b4 n ++ [1, s.size] ++ strB s from HMID.out)
              go_upto_region 12 with (at_builtin; refine wpList_acc_lit rfl _ _ rfl A3.out rfl [1, s.size] rfl (by rw [L3.out]; simp; omega) ?_; intro v4 w4 hacc4 hg4)
              have kt4 := KeepsT.row A3.out.own hg4
              have R4 := Lib.hid (kt4 _ _ _ (by decide) R3.out)
              have I4 := Lib.hid (kt4 _ _ _ (by decide) I3.out)
              have A4 := Lib.hid hacc4
              have L4 := Lib.hid (show (cur ++ b4 n ++ [1, s.size]).length = cur.length + 6 from by rw [List.length_append, L3.out]; rfl)
              clear kt4 hacc4 hg4 q0 q1
              have q1 := I4.out.cell 1
              simp at q1
              go_wp2_with (at_builtin; refine wpList_acc_text rfl _ _ 9 Try.underlying9 rfl A4.out rfl s rfl (by rw [L4.out]; omega) ?_; intro v5 w5 hacc5 hg5)
              go_meet
              have kt5 := KeepsT.row A4.out.own hg5
              rw [← HM2.out] at hacc5
              obtain ⟨A5, c5, rfl⟩ := hacc5.slice
              exact ⟨A5, c5, rfl, hacc5, kt5 _ _ _ (by decide) R4.out⟩
            · have HM2 := Lib.hid (show mid = cur ++ b4 n from HMID.out)
              go_wp2_with fail
              go_meet
              have hA := A3.out
              rw [← HM2.out] at hA
              obtain ⟨A5, c5, rfl⟩ := hA.slice
              exact ⟨A5, c5, rfl, hA, R3.out⟩
          case rest =>
            obtain ⟨A5, c5, rfl, hacc5, hr5⟩ := hcut
            generalize wc = w5 at *
            have A6 := Lib.hid hacc5
            have R6 := Lib.hid hr5
            clear hacc5 hr5 q0 q1 hTL hTL2
            have LM2 : mid.length ≤ cur.length + 261 := by have := LM.out; omega
            have LP := Lib.hid (show (pad4 (mid ++ [0])).length ≤ 300 * (k + 1) from by rw [pad4_len, List.length_append]; simp; omega)
            go_wp2_with (at_builtin; refine wpList_acc_lit rfl _ _ rfl A6.out rfl [0] rfl (by simp; omega) ?_; intro v6 w6 hacc6 hg6)
            have kt6 := KeepsT.row A6.out.own hg6
            have R7 := Lib.hid (kt6 _ _ _ (by decide) R6.out)
            have A7 := Lib.hid hacc6
            clear hacc6 hg6 kt6
            refine (noughts_is w w6 v6 (mid ++ [0]) A7.out (by simp; omega)).mono ?_
            rintro e w7 ⟨v7, rfl, hacc7, hg7⟩
            have R8 := Lib.hid (KeepsT.row A7.out.own hg7 _ _ _ (by decide) R7.out)
            have A8 := Lib.hid hacc7
            clear hacc7 hg7
            go_wp2
            have hE : (l.take (k + 1)).foldl encC [] = pad4 (mid ++ [0]) := by
              rw [HSN.out, HCUR.out]
              unfold encC
              rw [HME.out]
            exact ⟨⟨k + 1, by omega, by go_num, by rw [hE]; exact A8.out, by rw [hE]; exact LP.out, R8.out, HTK.out hs255⟩, by simp [intOf]; omega⟩
      · have hkl : k = L := by omega
        subst hkl
        have hT : l.take k = l := List.take_of_length_le (by rw [HL.out]; exact Nat.le_refl _)
        have hE : l.foldl encC [] = cur := by rw [← HCUR.out, hT]
        have hS := HSM.out
        rw [hT] at hS
        have HALL := Lib.hid hS
        have HEE := Lib.hid hE
        have V3 := Lib.hid (show (#[.int .u8 (k : Nat), .int .u8 202, .slice A4 cur.length c4, .int .u8 0] : Array Value).all (·.oneCell') = true from by simp [Value.oneCell'])
        have sw : IntKind.u8.wrap (k : Int) = (k : Int) := by rw [IntKind.wrap_u8]; omega
        clear hT hE hS hcl
        go_wp2_with (refine wpList_store_is rfl 36 _ _ rfl rb #[.int .u8 (k : Nat), .int .u8 202, .slice A4 cur.length c4, .int .u8 0] rfl rfl 36 zeroP IR.out Try.sizeRc rfl V3.out ?_; intro w5 hi5 ho5)
        refine bodyPost_ret (results_two Try.results26 _ w5 rb 36 _ _ _ rfl rfl hi5 Try.underlying36 rfl Try.sizeRc) rfl ⟨AC.out.pure.trans ho5 (fun i hi e => by have := RB.out; omega), .inr ⟨⟨by rw [HL.out]; omega, HALL.out⟩, A4, c4, by rw [HEE.out, HL.out]; rfl, ?_⟩⟩
        rw [HEE.out]
        exact ⟨owned_only AC.out.own ho5 (fun q hq e => row_apart IR.out AC.out.own (by decide) (by rw [hq, e])), AC.out.pure.trans ho5 (fun i hi e => by have := RB.out; omega)⟩
end Go.Proofs.Ytdhkcffjhcoloaa
