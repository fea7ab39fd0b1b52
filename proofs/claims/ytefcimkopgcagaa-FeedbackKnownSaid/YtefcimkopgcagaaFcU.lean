/- easelref07.Parse. Conditions: as each says. -/
import Derived.Test.YtefcimkopgcagaaFsGr
import Derived.Test.YtefcimkopgcagaaBase
set_option linter.unusedVariables false
set_option linter.unusedSimpArgs false
namespace Go.Proofs.Ytefcimkopgcagaa
open Go.RowKit

def pairAt (bs : List Nat) (j : Nat) : Pr := ⟨fourB bs (8 + 4 * j) / 65536, fourB bs (8 + 4 * j) % 65536⟩
def orderAt (bs : List Nat) (j : Nat) : Od := ⟨fourB bs (8 + 8 * j), bs.getD (8 + 8 * j + 4) 0⟩
def ms0 : Ms := ⟨0, 0, 0, [], [], 0, 0, []⟩
def msAt (s : Nat) (bs : List Nat) : Ms := ⟨s, fourB bs 0, fourB bs 4, [], [], 0, 0, []⟩
/-- What a packet tells: the message; the error. -/
def rparse (kd ct : Nat) (bs : List Nat) : Ms × Int :=
  if sOf kd ct = 0 then (ms0, 62) else if bs.length < 8 then (ms0, 63)
  else if sOf kd ct = 1 then if 4 ≤ bs.length - 8 ∧ (bs.length - 8) % 4 = 0 then ({ msAt 1 bs with pairs := (List.range ((bs.length - 8) / 4)).map (pairAt bs) }, 0) else (ms0, 63)
  else if sOf kd ct = 2 then if bs.length - 8 = 0 then (msAt 2 bs, 0) else (ms0, 63)
  else if sOf kd ct = 3 then if 8 ≤ bs.length - 8 ∧ (bs.length - 8) % 8 = 0 then ({ msAt 3 bs with orders := (List.range ((bs.length - 8) / 8)).map (orderAt bs) }, 0) else (ms0, 63)
  else if 8 ≤ bs.length - 8 ∧ (bs.drop 8).take 4 = [82, 69, 77, 66] ∧ bs.length - 8 = 8 + 4 * bs.getD 12 0 then
    ({ msAt 4 bs with exp := fourB bs 12 % 16777216 / 262144, mant := fourB bs 12 % 16777216 % 262144, srcs := (List.range ((bs.length - 16) / 4)).map fun j => fourB bs (16 + 4 * j) }, 0) else (ms0, 63)
/-- What is told of a packet. -/
def RParsed (kd ct : Nat) (bs : List Nat) (w : World) (e : Ending) (w' : World) : Prop := ∃ vp vo vs, e = .returned (.tuple #[.agg ((rparse kd ct bs).1.cls vp vo vs), .int .i64 (rparse kd ct bs).2]) ∧ RdM (rparse kd ct bs).1 vp vo vs w' ∧ Only (fun _ => False) w w'
abbrev roC (s a b : Nat) (vp vo : Value) (e t : Nat) (vs : Value) : Array Value := #[.int .u8 (s : Int), .int .u32 (a : Int), .int .u32 (b : Int), vp, vo, .int .u8 (e : Int), .int .u32 (t : Int), vs]
theorem remb_str : (strOfNums (nats [82, 69, 77, 66])).toList = [82, 69, 77, 66] := by
  rw [ByteArray.toList_eq, strOfNums_data]
  rfl
theorem own32s_rd {w : World} {B : Nat} {v : Value} {ns : List Nat} (h : OwnS w B 22 1 v (ns.map fun n => [Value.int .u32 (n : Nat)])) : Rd .u32 w v (nats ns) := by
  obtain ⟨A, c, rfl, hc⟩ := OwnS.slice h
  rw [List.length_map] at hc ⊢
  refine ⟨A, c, by rw [nats_length], by rw [nats_length]; exact hc, fun hp => ?_⟩
  rw [nats_length] at hp
  obtain ⟨g, c', e, -, -, -, hcell⟩ := OwnS.at_ h (by simpa using hp)
  injection e with e1
  subst e1
  refine ⟨g, 0, rfl, fun j hj => ?_⟩
  rw [nats_length] at hj
  have h0 := hcell j 0 [Value.int .u32 (ns[j] : Nat)] (by simp [hj]) (by omega)
  rw [Nat.add_zero, Nat.mul_one] at h0
  rw [Nat.zero_add, h0]
  simp [nats]
theorem rdm0 (w : World) : RdM ms0 (.slice none 0 0) (.slice none 0 0) (.slice none 0 0) w := ⟨RdP.nil w, RdO.nil w, Rd.nil _ w⟩
theorem four_lt (bs : List Nat) (k : Nat) (hb : ∀ x ∈ bs, x < 256) (hk : k + 4 ≤ bs.length) : fourB bs k < 4294967296 := by
  have h := vu_lt 4 ((bs.drop k).take 4) (by rw [List.length_take, List.length_drop]; omega) (fun x hx => hb x (List.mem_of_mem_drop (List.mem_of_mem_take hx)))
  unfold fourB
  simpa using h
set_option maxRecDepth 100000 in
set_option maxHeartbeats 8000000 in
theorem rparse_is (kd ct pad : Nat) (vb : Value) (bs : List Nat) (w : World) (hs : Src w vb bs) (hb : ∀ x ∈ bs, x < 256) (hl : bs.length ≤ 1200) :
    Calls Try.prog 22 #[.agg #[.int .u8 (ct : Nat), .int .u8 (kd : Nat), vb, .int .u8 (pad : Nat)]] w (RParsed kd ct bs w) := by
  obtain ⟨s, hsv⟩ : ∃ s, sOf kd ct = s := ⟨_, rfl⟩
  obtain ⟨rr, hrr⟩ : ∃ rr, rparse kd ct bs = rr := ⟨_, rfl⟩
  unfold RParsed
  rw [hrr]
  unfold rparse at hrr
  rw [hsv] at hrr
  have HR := Lib.hid hrr.symm
  clear hrr
  have HSO := Lib.hid (fun wx => rsort_is kd ct pad vb wx)
  rw [hsv] at HSO
  have hs5 : s < 5 := by
    rw [← hsv]
    unfold sOf
    repeat' split
    all_goals omega
  have HS := Lib.hid hs
  have HFO := Lib.hid (fun k (hk : k + 4 ≤ bs.length) (wx : World) (h : Only (fun _ => False) w wx) => four_is vb bs k wx (hs.of_only h) hb hk (by omega))
  have HB := Lib.hid hb
  obtain ⟨A, c0, rfl⟩ := hs.slice
  have HAT := Lib.hid (fun (h : 0 < bs.length) => hs.at_ h)
  obtain ⟨L, hL⟩ : ∃ L, bs.length = L := ⟨_, rfl⟩
  have HL := Lib.hid hL
  rw [hL] at hl HFO HSO ⊢
  clear hsv hs hb hL
  go_enter Try.func22, Try.ntmps22
  go_upto_region 1 with (fail)
  obtain ⟨p, hp⟩ : ∃ p, w.heap.size = p := ⟨_, rfl⟩
  obtain ⟨rb, hrb⟩ : ∃ q, w.heap.size + 1 = q := ⟨_, rfl⟩
  generalize hw2 : World.alloc (World.alloc w _) _ = w2
  have IP := Lib.hid (show Is w2 p 37 #[.int .u8 (ct : Nat), .int .u8 (kd : Nat), .slice A L c0, .int .u8 (pad : Nat)] from by rw [← hw2, ← hp]; exact (Is.made w _ _).alloc _)
  have IR := Lib.hid (show Is w2 rb 33 msZ from by
    have e : (w.alloc (.cells #[.int .u8 (ct : Nat), .int .u8 (kd : Nat), .slice A L c0, .int .u8 (pad : Nat)] 37)).heap.size = w.heap.size + 1 := by simp
    rw [← hw2, ← hrb, ← e]
    exact Is.made _ _ _)
  have O2 := Lib.hid (show Only (fun _ => False) w w2 from by rw [← hw2]; exact ((Only.refl _ w).alloc _).alloc _)
  rw [hrb, hp]
  have HRB := Lib.hid (show w.heap.size ≤ rb from by omega)
  clear hw2 hrb hp
  have cp : w2.cell? ⟨p, 2, none⟩ = some (.slice A L c0) := IP.out.cell 2
  go_wp2_with (refine wpList_load_want (o := ⟨some 14, _, _, _, _, _⟩) rfl _ _ rfl p rfl _ _ _ IP.out Try.underlying37 rfl Try.sizeRq ?_)
  refine (HSO.out _).mono ?_
  rintro e w3 ⟨rfl, ho⟩
  have IR3 := Lib.hid (IR.out.only ho (by simp))
  have O3 := Lib.hid (O2.out.trans ho (fun _ _ e => e))
  clear ho IR IP O2 cp HSO
  go_upto_region 3 with (fail)
  obtain ⟨ob, hob⟩ : ∃ p, w3.heap.size = p := ⟨_, rfl⟩
  generalize hw4 : World.alloc w3 _ = w4
  have o34 : Only (fun _ => False) w3 w4 := by rw [← hw4]; exact (Only.refl _ w3).alloc _
  have RO4 := Lib.hid (show Ro (roC s 0 0 (.slice none 0 0) (.slice none 0 0) 0 0 (.slice none 0 0)) ob rb w w4 from ⟨by rw [← hw4, ← hob]; exact Is.made w3 _ _, IR3.out.only o34 (by simp), O3.out.trans o34 (fun _ _ e => e)⟩)
  have HOB := Lib.hid (show w.heap.size ≤ ob ∧ rb ≠ ob from by have := O3.out.size; have := IR3.out.lt; omega)
  rw [hob]
  clear hw4 hob o34 IR3 O3
  have c40 : w4.cell? ⟨ob, 0, none⟩ = some (.int .u8 (s : Int)) := RO4.out.io.cell 0
  by_cases hs0 : s = 0
  · subst hs0
    have HRR := Lib.hid (show rr = (ms0, 62) from HR.out)
    have IRR := Lib.hid RO4.out.ir
    have OO := Lib.hid RO4.out.pure
    clear HR
    go_wp2_with (refine wpList_store_is rfl 33 _ _ rfl rb msZ rfl rfl 33 _ IRR.out Try.sizeRme rfl (by simp [msZ, Value.oneCell']) ?_; intro w8 hi8 ho8)
    refine bodyPost_ret (res_pair Try.results22 _ w8 rb 33 _ _ _ rfl rfl hi8 Try.underlying33 rfl Try.sizeRme) rfl ?_
    exact ⟨.slice none 0 0, .slice none 0 0, .slice none 0 0, by rw [HRR.out]; rfl, by rw [HRR.out]; exact rdm0 _, OO.out.trans ho8 (fun i hi e => by have := HRB.out; omega)⟩
  have hsn : ((s : Int) == 0) = false := by rw [beq_eq_false_iff_ne]; omega
  by_cases hL8 : L < 8
  · have HRR := Lib.hid (show rr = (ms0, 63) from by rw [HR.out, if_neg hs0, HL.out, if_pos hL8])
    have IRR := Lib.hid RO4.out.ir
    have OO := Lib.hid RO4.out.pure
    clear HR
    go_wp2_with (refine wpList_store_is rfl 33 _ _ rfl rb msZ rfl rfl 33 _ IRR.out Try.sizeRme rfl (by simp [msZ, Value.oneCell']) ?_; intro w8 hi8 ho8)
    refine bodyPost_ret (res_pair Try.results22 _ w8 rb 33 _ _ _ rfl rfl hi8 Try.underlying33 rfl Try.sizeRme) rfl ?_
    exact ⟨.slice none 0 0, .slice none 0 0, .slice none 0 0, by rw [HRR.out]; rfl, by rw [HRR.out]; exact rdm0 _, OO.out.trans ho8 (fun i hi e => by have := HRB.out; omega)⟩
  have hL8b : 8 ≤ L := by omega
  have HR2 := Lib.hid (HR.out.trans (by rw [if_neg hs0, HL.out, if_neg hL8]))
  clear HR hL8
  have HCAP := Lib.hid (show L ≤ c0 from by
    rcases HS.out with ⟨e, h0⟩ | ⟨a, c', e, h1, _⟩
    · rw [h0] at HL; have := HL.out; simp at this; omega
    · injection e with _ _ e3; rw [e3, ← HL.out]; exact h1)
  obtain ⟨q, o, c1, e1, hcl⟩ := HAT.out (by rw [HL.out]; omega)
  injection e1 with e1 _ e3
  subst e1 e3
  have HCL := Lib.hid hcl
  clear hcl
  have H40 := Lib.hid (HFO.out 0 (by omega))
  have H44 := Lib.hid (HFO.out 4 (by omega))
  have hf0 := four_lt bs 0 HB.out (by rw [HL.out]; omega)
  have hf4 := four_lt bs 4 HB.out (by rw [HL.out]; omega)
  obtain ⟨xa, hxa⟩ : ∃ x, fourB bs 0 = x := ⟨_, rfl⟩
  obtain ⟨xb, hxb⟩ : ∃ x, fourB bs 4 = x := ⟨_, rfl⟩
  have HXA := Lib.hid hxa
  have HXB := Lib.hid hxb
  rw [hxa] at H40 hf0
  rw [hxb] at H44 hf4
  clear hxa hxb
  have f1 := RO4.out.io.free 1
  have c41 : w4.cell? ⟨ob, 1, none⟩ = some (.int .u32 0) := RO4.out.io.cell 1
  go_wp2_with fail
  refine (H40.out w4 RO4.out.pure).mono ?_
  rintro e w5 ⟨rfl, rfl⟩
  go_upto_region 8 with (fail)
  have RO5 := Lib.hid (RO4.out.put HOB.out.2 HOB.out.1 1 (.int .u32 (xa : Int)))
  generalize World.setCell w4 _ _ = w5 at *
  clear c40 c41 f1 RO4
  have f2 := RO5.out.io.free 2
  have c52 : w5.cell? ⟨ob, 2, none⟩ = some (.int .u32 0) := RO5.out.io.cell 2
  go_wp2_with fail
  refine (H44.out w5 RO5.out.pure).mono ?_
  rintro e w6 ⟨rfl, rfl⟩
  go_upto_region 9 with (fail)
  have RO6 := Lib.hid (show Ro (roC s xa xb (.slice none 0 0) (.slice none 0 0) 0 0 (.slice none 0 0)) ob rb w _ from RO5.out.put HOB.out.2 HOB.out.1 2 (.int .u32 (xb : Int)))
  generalize World.setCell w5 _ _ = w6 at *
  clear c52 f2 RO5 H40 H44
  have c60 : w6.cell? ⟨ob, 0, none⟩ = some (.int .u8 (s : Int)) := RO6.out.io.cell 0
  obtain ⟨n, hn⟩ : ∃ n, L - 8 = n := ⟨_, rfl⟩
  have en : (L : Int) - 8 = (n : Int) := by omega
  rw [hn] at HR2
  have HNL := Lib.hid (show L = n + 8 from by omega)
  clear hn hL8b
  have hs1234 : s = 1 ∨ s = 2 ∨ s = 3 ∨ s = 4 := by omega
  rcases hs1234 with rfl | rfl | rfl | rfl
  · by_cases hfit : 4 ≤ n ∧ n % 4 = 0
    · obtain ⟨h4n, hm4⟩ := hfit
      obtain ⟨K, hK⟩ : ∃ K, n = 4 * K := ⟨n / 4, by omega⟩
      have HRR := Lib.hid (show rr = ({ msAt 1 bs with pairs := (List.range K).map (pairAt bs) }, 0) from by
        rw [HR2.out, if_pos rfl, if_pos ⟨h4n, hm4⟩, show n / 4 = K from by omega])
      have e4 : (n : Int) % 4 = 0 := by omega
      have h4I : (4 : Int) ≤ (n : Int) := by omega
      clear HR2
      go_wp2
      go_loopw [8] (fun i wr => ∃ (i0 j : Nat) (A : Option Addr) (c : Nat), i = .int .i64 (i0 : Int) ∧ i0 = 8 + 4 * j ∧ j ≤ K ∧ Ro (roC 1 xa xb (.slice A j c) (.slice none 0 0) 0 0 (.slice none 0 0)) ob rb w wr ∧ OwnS wr w.heap.size 83 2 (.slice A j c) (((List.range j).map (pairAt bs)).map Pr.lst)) (fun i _ => L - (intOf i).toNat)
      case atStart => exact ⟨8, 0, none, 0, rfl, rfl, by omega, RO6.out, OwnS.nil _ _ _ _⟩
      case round =>
        obtain ⟨i0, j, A, c, rfl, hi0, hj, hro, hown⟩ := hrel
        have RJ := Lib.hid hro
        have WJ := Lib.hid hown
        clear hro hown RO6 c60
        by_cases hjK : j < K
        · have hiL : i0 < L := by have := HNL.out; omega
          have hiI : (i0 : Int) < (L : Int) := by omega
          have hx0 := four_lt bs i0 HB.out (by rw [HL.out]; have := HNL.out; omega)
          have HF := Lib.hid (HFO.out i0 (by have := HNL.out; omega))
          have HPA := Lib.hid (show pairAt bs j = ⟨fourB bs i0 / 65536, fourB bs i0 % 65536⟩ from by unfold pairAt; rw [hi0])
          generalize fourB bs i0 = x0 at *
          go_upto_region 17 with (fail)
          refine rp17 (roC 1 xa xb (.slice A j c) (.slice none 0 0) 0 0 (.slice none 0 0)) q o c0 L i0 j c x0 ob rb A (((List.range j).map (pairAt bs)).map Pr.lst) (x0 / 65536) (x0 % 65536) w rfl (by simp) (by have := HNL.out; omega) HOB.out.1 HOB.out.2 hx0 HF.out rfl rfl _ _ _ _ _ _ _ _ _ _ _ _ _ _ _ _ _ _ _ _ _ _ _ _ _ _ _ _ _ _ _ _ _ _ _ _ _ _ _ _ _ _ _ _ _ _ _ _ _ _ _ _ _ _ _ _ _ _ _ _ _ _ _ _ _ _ _ _ _ _ _ _ _ _ _ _ _ _ _ _ _ _ _ _ _ _ _ _ _ _ _ _ _ _ _ _ _ _ _ _ _ _ _ _ _ _ _ _ _ _ _ _ _ _ _ _ _ _ _ _ _ _ _ _ _ _ _ _ _ _ _ _ _ _ _ _ _ _ _ _ _ _ _ _ _ _ _ _ _ _ _ _ _ _ wr RJ.out WJ.out ?_
          rintro y56 y57 y58 y59 y60 y61 y62 y63 y64 y65 y66 y67 y68 y69 y70 y71 w7 ⟨A', c', hro, hown⟩
          have RJ2 := Lib.hid (show Ro (roC 1 xa xb (.slice A' (j + 1) c') (.slice none 0 0) 0 0 (.slice none 0 0)) ob rb w w7 from hro)
          have WJ2 := Lib.hid (show OwnS w7 w.heap.size 83 2 (.slice A' (j + 1) c') (((List.range (j + 1)).map (pairAt bs)).map Pr.lst) from by
            rw [List.range_succ, List.map_append, List.map_append, List.map_singleton, List.map_singleton, HPA.out]
            exact hown)
          clear hro hown RJ WJ HF
          go_wp2
          exact ⟨⟨i0 + 4, j + 1, A', c', int_congr (by omega), by omega, by omega, RJ2.out, WJ2.out⟩, by simp [intOf]; omega⟩
        · obtain rfl : j = K := by omega
          obtain rfl : L = i0 := by have := HNL.out; omega
          go_wp2_with (first | (refine wpList_load_want (o := ⟨some 155, _, _, _, _, _⟩) rfl _ _ rfl ob rfl _ _ _ RJ.out.io Try.underlying33 rfl Try.sizeRme ?_) | (refine wpList_store_is rfl 33 _ _ rfl rb (roC 1 xa xb (.slice A j c) (.slice none 0 0) 0 0 (.slice none 0 0)) rfl rfl 33 _ RJ.out.ir Try.sizeRme rfl (by simp [Value.oneCell']) ?_; intro w8 hi8 ho8))
          refine bodyPost_ret (res_pair Try.results22 _ w8 rb 33 _ _ _ rfl rfl hi8 Try.underlying33 rfl Try.sizeRme) rfl ?_
          have o8 : Only (fun _ => False) w w8 := RJ.out.pure.trans ho8 (fun i hi e => by have := HRB.out; omega)
          have wo8 := OwnS.only WJ.out ho8 (fun k hk e => owned_off WJ.out.1 RJ.out.ir (by decide) (by rw [hk, e]))
          refine ⟨.slice A j c, .slice none 0 0, .slice none 0 0, ?_, ?_, o8⟩
          · rw [HRR.out, ← HXA.out, ← HXB.out]; rfl
          · rw [HRR.out]; exact ⟨OwnP.rd wo8, RdO.nil _, Rd.nil _ _⟩
    · have HRR := Lib.hid (show rr = (ms0, 63) from by rw [HR2.out, if_pos rfl, if_neg hfit])
      have IRR := Lib.hid RO6.out.ir
      have OO := Lib.hid RO6.out.pure
      clear HR2
      have hn4 : ¬ (4 ≤ n) ∨ n % 4 ≠ 0 := by
        rcases Nat.lt_or_ge n 4 with h | h
        · exact .inl (by omega)
        · exact .inr (fun e => hfit ⟨h, e⟩)
      clear hfit
      by_cases h4 : 4 ≤ n
      · have h4I : (4 : Int) ≤ (n : Int) := by omega
        have hm : n % 4 ≠ 0 := by omega
        have hmI : ((n : Int) % 4 == 0) = false := by rw [beq_eq_false_iff_ne]; omega
        clear hn4
        go_wp2
        go_loopw [8] (fun i wr => i = .int .i64 8 ∧ wr = w6) (fun _ _ => 0)
        case atStart => exact ⟨rfl, rfl⟩
        case round =>
          obtain ⟨rfl, rfl⟩ := hrel
          go_wp2_with (refine wpList_store_is rfl 33 _ _ rfl rb msZ rfl rfl 33 _ IRR.out Try.sizeRme rfl (by simp [msZ, Value.oneCell']) ?_; intro w8 hi8 ho8)
          refine bodyPost_ret (res_pair Try.results22 _ w8 rb 33 _ _ _ rfl rfl hi8 Try.underlying33 rfl Try.sizeRme) rfl ?_
          exact ⟨.slice none 0 0, .slice none 0 0, .slice none 0 0, by rw [HRR.out]; rfl, by rw [HRR.out]; exact rdm0 _, OO.out.trans ho8 (fun i hi e => by have := HRB.out; omega)⟩
      · have h4b : n < 4 := by omega
        have h4I : ¬ (4 : Int) ≤ (n : Int) := by omega
        clear hn4
        go_wp2
        go_loopw [8] (fun i wr => i = .int .i64 8 ∧ wr = w6) (fun _ _ => 0)
        case atStart => exact ⟨rfl, rfl⟩
        case round =>
          obtain ⟨rfl, rfl⟩ := hrel
          go_wp2_with (refine wpList_store_is rfl 33 _ _ rfl rb msZ rfl rfl 33 _ IRR.out Try.sizeRme rfl (by simp [msZ, Value.oneCell']) ?_; intro w8 hi8 ho8)
          refine bodyPost_ret (res_pair Try.results22 _ w8 rb 33 _ _ _ rfl rfl hi8 Try.underlying33 rfl Try.sizeRme) rfl ?_
          exact ⟨.slice none 0 0, .slice none 0 0, .slice none 0 0, by rw [HRR.out]; rfl, by rw [HRR.out]; exact rdm0 _, OO.out.trans ho8 (fun i hi e => by have := HRB.out; omega)⟩
  · by_cases hn0 : n = 0
    · subst hn0
      have HRR := Lib.hid (show rr = (msAt 2 bs, 0) from HR2.out)
      clear HR2
      go_wp2_with (first | (refine wpList_load_want (o := ⟨some 155, _, _, _, _, _⟩) rfl _ _ rfl ob rfl _ _ _ RO6.out.io Try.underlying33 rfl Try.sizeRme ?_) | (refine wpList_store_is rfl 33 _ _ rfl rb (roC 2 xa xb (.slice none 0 0) (.slice none 0 0) 0 0 (.slice none 0 0)) rfl rfl 33 _ RO6.out.ir Try.sizeRme rfl (by simp [Value.oneCell']) ?_; intro w8 hi8 ho8))
      refine bodyPost_ret (res_pair Try.results22 _ w8 rb 33 _ _ _ rfl rfl hi8 Try.underlying33 rfl Try.sizeRme) rfl ?_
      refine ⟨.slice none 0 0, .slice none 0 0, .slice none 0 0, ?_, ?_, RO6.out.pure.trans ho8 (fun i hi e => by have := HRB.out; omega)⟩
      · rw [HRR.out, ← HXA.out, ← HXB.out]; rfl
      · rw [HRR.out]; exact ⟨RdP.nil _, RdO.nil _, Rd.nil _ _⟩
    · have HRR := Lib.hid (show rr = (ms0, 63) from by rw [HR2.out]; simp [hn0])
      have hn0b : ((n : Int) == 0) = false := by rw [beq_eq_false_iff_ne]; omega
      have IRR := Lib.hid RO6.out.ir
      have OO := Lib.hid RO6.out.pure
      clear HR2 hn0
      go_wp2_with (refine wpList_store_is rfl 33 _ _ rfl rb msZ rfl rfl 33 _ IRR.out Try.sizeRme rfl (by simp [msZ, Value.oneCell']) ?_; intro w8 hi8 ho8)
      refine bodyPost_ret (res_pair Try.results22 _ w8 rb 33 _ _ _ rfl rfl hi8 Try.underlying33 rfl Try.sizeRme) rfl ?_
      exact ⟨.slice none 0 0, .slice none 0 0, .slice none 0 0, by rw [HRR.out]; rfl, by rw [HRR.out]; exact rdm0 _, OO.out.trans ho8 (fun i hi e => by have := HRB.out; omega)⟩
  · by_cases hfit : 8 ≤ n ∧ n % 8 = 0
    · obtain ⟨h4n, hm4⟩ := hfit
      obtain ⟨K, hK⟩ : ∃ K, n = 8 * K := ⟨n / 8, by omega⟩
      have HRR := Lib.hid (show rr = ({ msAt 3 bs with orders := (List.range K).map (orderAt bs) }, 0) from by
        rw [HR2.out, if_neg (by decide), if_neg (by decide), if_pos rfl, if_pos ⟨h4n, hm4⟩, show n / 8 = K from by omega])
      have e4 : (n : Int) % 8 = 0 := by omega
      have h4I : (8 : Int) ≤ (n : Int) := by omega
      clear HR2
      go_wp2
      go_loopw [9] (fun i wr => ∃ (i0 j : Nat) (A : Option Addr) (c : Nat), i = .int .i64 (i0 : Int) ∧ i0 = 8 + 8 * j ∧ j ≤ K ∧ Ro (roC 3 xa xb (.slice none 0 0) (.slice A j c) 0 0 (.slice none 0 0)) ob rb w wr ∧ OwnS wr w.heap.size 86 2 (.slice A j c) (((List.range j).map (orderAt bs)).map Od.lst)) (fun i _ => L - (intOf i).toNat)
      case atStart => exact ⟨8, 0, none, 0, rfl, rfl, by omega, RO6.out, OwnS.nil _ _ _ _⟩
      case round =>
        obtain ⟨i0, j, A, c, rfl, hi0, hj, hro, hown⟩ := hrel
        have RJ := Lib.hid hro
        have WJ := Lib.hid hown
        clear hro hown RO6 c60
        by_cases hjK : j < K
        · have hiL : i0 < L := by have := HNL.out; omega
          have hiI : (i0 : Int) < (L : Int) := by omega
          have hx0 := four_lt bs i0 HB.out (by rw [HL.out]; have := HNL.out; omega)
          have HF := Lib.hid (HFO.out i0 (by have := HNL.out; omega))
          have hi4 : i0 + 4 < bs.length := by rw [HL.out]; have := HNL.out; omega
          have hnc := HCL.out (i0 + 4) hi4
          obtain ⟨no, hno⟩ : ∃ x, bs.getD (i0 + 4) 0 = x := ⟨_, rfl⟩
          have hno2 : bs[i0 + 4] = no := by rw [← hno, List.getD_eq_getElem?_getD, List.getElem?_eq_getElem hi4]; rfl
          rw [hno2] at hnc
          have hqw : q < w.heap.size := World.block_lt_of_cell? w ⟨q, o + (i0 + 4), none⟩ hnc
          have HPA := Lib.hid (show orderAt bs j = ⟨fourB bs i0, no⟩ from by unfold orderAt; rw [← hi0, ← hno])
          generalize fourB bs i0 = x0 at *
          go_upto_region 23 with (fail)
          refine rp23 (roC 3 xa xb (.slice none 0 0) (.slice A j c) 0 0 (.slice none 0 0)) q o c0 L i0 j c x0 ob rb A (((List.range j).map (orderAt bs)).map Od.lst) no w rfl (by simp) (by have := HNL.out; omega) HOB.out.1 HOB.out.2 hx0 HF.out hnc hqw (by rw [HL.out] at hi4; exact hi4) (by omega) _ _ _ _ _ _ _ _ _ _ _ _ _ _ _ _ _ _ _ _ _ _ _ _ _ _ _ _ _ _ _ _ _ _ _ _ _ _ _ _ _ _ _ _ _ _ _ _ _ _ _ _ _ _ _ _ _ _ _ _ _ _ _ _ _ _ _ _ _ _ _ _ _ _ _ _ _ _ _ _ _ _ _ _ _ _ _ _ _ _ _ _ _ _ _ _ _ _ _ _ _ _ _ _ _ _ _ _ _ _ _ _ _ _ _ _ _ _ _ _ _ _ _ _ _ _ _ _ _ _ _ _ _ _ _ _ _ _ _ _ _ _ _ _ _ _ _ _ _ _ _ _ _ _ wr RJ.out WJ.out ?_
          rintro y90 y91 y92 y93 y94 y95 y96 y97 y98 y99 y100 y101 y102 y103 w7 ⟨A', c', hro, hown⟩
          have RJ2 := Lib.hid (show Ro (roC 3 xa xb (.slice none 0 0) (.slice A' (j + 1) c') 0 0 (.slice none 0 0)) ob rb w w7 from hro)
          have WJ2 := Lib.hid (show OwnS w7 w.heap.size 86 2 (.slice A' (j + 1) c') (((List.range (j + 1)).map (orderAt bs)).map Od.lst) from by
            rw [List.range_succ, List.map_append, List.map_append, List.map_singleton, List.map_singleton, HPA.out]
            exact hown)
          clear hro hown RJ WJ HF
          go_wp2
          exact ⟨⟨i0 + 8, j + 1, A', c', int_congr (by omega), by omega, by omega, RJ2.out, WJ2.out⟩, by simp [intOf]; omega⟩
        · obtain rfl : j = K := by omega
          obtain rfl : L = i0 := by have := HNL.out; omega
          go_wp2_with (first | (refine wpList_load_want (o := ⟨some 155, _, _, _, _, _⟩) rfl _ _ rfl ob rfl _ _ _ RJ.out.io Try.underlying33 rfl Try.sizeRme ?_) | (refine wpList_store_is rfl 33 _ _ rfl rb (roC 3 xa xb (.slice none 0 0) (.slice A j c) 0 0 (.slice none 0 0)) rfl rfl 33 _ RJ.out.ir Try.sizeRme rfl (by simp [Value.oneCell']) ?_; intro w8 hi8 ho8))
          refine bodyPost_ret (res_pair Try.results22 _ w8 rb 33 _ _ _ rfl rfl hi8 Try.underlying33 rfl Try.sizeRme) rfl ?_
          have o8 : Only (fun _ => False) w w8 := RJ.out.pure.trans ho8 (fun i hi e => by have := HRB.out; omega)
          have wo8 := OwnS.only WJ.out ho8 (fun k hk e => owned_off WJ.out.1 RJ.out.ir (by decide) (by rw [hk, e]))
          refine ⟨.slice none 0 0, .slice A j c, .slice none 0 0, ?_, ?_, o8⟩
          · rw [HRR.out, ← HXA.out, ← HXB.out]; rfl
          · rw [HRR.out]; exact ⟨RdP.nil _, OwnO.rd wo8, Rd.nil _ _⟩
    · have HRR := Lib.hid (show rr = (ms0, 63) from by rw [HR2.out, if_neg (by decide), if_neg (by decide), if_pos rfl, if_neg hfit])
      have IRR := Lib.hid RO6.out.ir
      have OO := Lib.hid RO6.out.pure
      clear HR2
      have hn4 : ¬ (8 ≤ n) ∨ n % 8 ≠ 0 := by
        rcases Nat.lt_or_ge n 8 with h | h
        · exact .inl (by omega)
        · exact .inr (fun e => hfit ⟨h, e⟩)
      clear hfit
      by_cases h4 : 8 ≤ n
      · have h4I : (8 : Int) ≤ (n : Int) := by omega
        have hm : n % 8 ≠ 0 := by omega
        have hmI : ((n : Int) % 8 == 0) = false := by rw [beq_eq_false_iff_ne]; omega
        clear hn4
        go_wp2
        go_loopw [9] (fun i wr => i = .int .i64 8 ∧ wr = w6) (fun _ _ => 0)
        case atStart => exact ⟨rfl, rfl⟩
        case round =>
          obtain ⟨rfl, rfl⟩ := hrel
          go_wp2_with (refine wpList_store_is rfl 33 _ _ rfl rb msZ rfl rfl 33 _ IRR.out Try.sizeRme rfl (by simp [msZ, Value.oneCell']) ?_; intro w8 hi8 ho8)
          refine bodyPost_ret (res_pair Try.results22 _ w8 rb 33 _ _ _ rfl rfl hi8 Try.underlying33 rfl Try.sizeRme) rfl ?_
          exact ⟨.slice none 0 0, .slice none 0 0, .slice none 0 0, by rw [HRR.out]; rfl, by rw [HRR.out]; exact rdm0 _, OO.out.trans ho8 (fun i hi e => by have := HRB.out; omega)⟩
      · have h4b : n < 8 := by omega
        have h4I : ¬ (8 : Int) ≤ (n : Int) := by omega
        clear hn4
        go_wp2
        go_loopw [9] (fun i wr => i = .int .i64 8 ∧ wr = w6) (fun _ _ => 0)
        case atStart => exact ⟨rfl, rfl⟩
        case round =>
          obtain ⟨rfl, rfl⟩ := hrel
          go_wp2_with (refine wpList_store_is rfl 33 _ _ rfl rb msZ rfl rfl 33 _ IRR.out Try.sizeRme rfl (by simp [msZ, Value.oneCell']) ?_; intro w8 hi8 ho8)
          refine bodyPost_ret (res_pair Try.results22 _ w8 rb 33 _ _ _ rfl rfl hi8 Try.underlying33 rfl Try.sizeRme) rfl ?_
          exact ⟨.slice none 0 0, .slice none 0 0, .slice none 0 0, by rw [HRR.out]; rfl, by rw [HRR.out]; exact rdm0 _, OO.out.trans ho8 (fun i hi e => by have := HRB.out; omega)⟩
  · obtain ⟨bs4, hbs4⟩ : ∃ x, (bs.drop 8).take 4 = x := ⟨_, rfl⟩
    obtain ⟨c12, hc12⟩ : ∃ x, bs.getD 12 0 = x := ⟨_, rfl⟩
    rw [hbs4, hc12] at HR2
    by_cases h8 : 8 ≤ n
    · have h8I : (8 : Int) ≤ (n : Int) := by omega
      have hsrc : Src w (.slice (some ⟨q, o + 8, none⟩) 4 (c0 - 8)) bs4 := by
        rw [← hbs4]
        exact src_cut (c := 0) 8 4 HCL.out (by rw [HL.out]; have := HNL.out; omega) rfl (by have := HCAP.out; have := HNL.out; omega)
      have hlen4 : bs4.length = 4 := by rw [← hbs4, List.length_take, List.length_drop, HL.out]; have := HNL.out; omega
      have hb4 : ∀ x ∈ bs4, x < 256 := by rw [← hbs4]; exact fun x hx => HB.out x (List.mem_of_mem_drop (List.mem_of_mem_take hx))
      have QC := conv_src (hsrc.of_only RO6.out.pure) hlen4
      have QE := str_eq bs4 [82, 69, 77, 66] hb4 (by decide)
      have hi12 : 12 < bs.length := by rw [HL.out]; have := HNL.out; omega
      have cn := HCL.out 12 hi12
      have hbc : bs[12] = c12 := by rw [← hc12, List.getD_eq_getElem?_getD, List.getElem?_eq_getElem hi12]; rfl
      rw [hbc] at cn
      have hc256 : c12 < 256 := by rw [← hbc]; exact HB.out _ (List.getElem_mem hi12)
      have hqw : q < w.heap.size := World.block_lt_of_cell? w ⟨q, o + 12, none⟩ cn
      have c12c := (RO6.out.pure.cell (p := ⟨q, o + 12, none⟩) hqw (by simp)).trans cn
      have HQE := Lib.hid QE
      have h12L : 12 ≤ L := by have := HNL.out; omega
      have h12c : 12 ≤ c0 := by have := HCAP.out; omega
      have h13L : (12 : Int) < (L : Int) := by have := HNL.out; omega
      clear QE hsrc hb4 hlen4 cn hqw hbc hi12
      generalize strOfNums (nats bs4) = sa at *
      by_cases hnm : bs4 = [82, 69, 77, 66]
      · have hsa : sa.toList = [82, 69, 77, 66] := by
          have := HQE.out
          rw [decide_eq_true hnm, beq_iff_eq] at this
          rw [this]
          exact remb_str
        by_cases hnf : n = 8 + 4 * c12
        · have hnfI : ((n : Int) == 8 + 4 * (c12 : Int)) = true := by rw [beq_iff_eq]; omega
          have H412 := Lib.hid (HFO.out 12 (by have := HNL.out; omega))
          have hx12 := four_lt bs 12 HB.out (by rw [HL.out]; have := HNL.out; omega)
          have HRR := Lib.hid (show rr = ({ msAt 4 bs with exp := fourB bs 12 % 16777216 / 262144, mant := fourB bs 12 % 16777216 % 262144, srcs := (List.range c12).map fun j => fourB bs (16 + 4 * j) }, 0) from by
            rw [HR2.out, if_neg (by decide), if_neg (by decide), if_neg (by decide), if_pos ⟨h8, hnm, hnf⟩, show (L - 16) / 4 = c12 from by have := HNL.out; omega])
          obtain ⟨x12, hx⟩ : ∃ x, fourB bs 12 = x := ⟨_, rfl⟩
          rw [hx] at H412 hx12 HRR
          obtain ⟨ex, hex⟩ : ∃ x, x12 % 16777216 / 262144 = x := ⟨_, rfl⟩
          obtain ⟨mt, hmt⟩ : ∃ x, x12 % 16777216 % 262144 = x := ⟨_, rfl⟩
          obtain ⟨x24, hx24⟩ : ∃ x, x12 % 16777216 = x := ⟨_, rfl⟩
          have g1 : (x12 : Int) % 16777216 = (x24 : Int) := by omega
          rw [hx24] at hex hmt
          have g2 : (x24 : Int) / 262144 = (ex : Int) := by omega
          have g3 : (x24 : Int) % 262144 = (mt : Int) := by omega
          have g4 : IntKind.u8.wrap (ex : Int) = (ex : Int) := by rw [IntKind.wrap_u8]; omega
          have HEX := Lib.hid (show x12 % 16777216 / 262144 = ex from by rw [hx24]; exact hex)
          have HMT := Lib.hid (show x12 % 16777216 % 262144 = mt from by rw [hx24]; exact hmt)
          have f5 := RO6.out.io.free 5
          have f6 := RO6.out.io.free 6
          have c65 : w6.cell? ⟨ob, 5, none⟩ = some (.int .u8 0) := RO6.out.io.cell 5
          have c66 : w6.cell? ⟨ob, 6, none⟩ = some (.int .u32 0) := RO6.out.io.cell 6
          clear HR2 hex hmt hx24 hx
          go_wp2_with fail
          refine (H412.out w6 RO6.out.pure).mono ?_
          rintro e w7 ⟨rfl, rfl⟩
          go_upto_region 30 with (fail)
          have RO7 := Lib.hid (show Ro (roC 4 xa xb (.slice none 0 0) (.slice none 0 0) ex mt (.slice none 0 0)) ob rb w ((w6.setCell ⟨ob, 5, none⟩ (.int .u8 (ex : Int))).setCell ⟨ob, 6, none⟩ (.int .u32 (mt : Int))) from (RO6.out.put HOB.out.2 HOB.out.1 5 (.int .u8 (ex : Int))).put HOB.out.2 HOB.out.1 6 (.int .u32 (mt : Int)))
          have hLc : L = 16 + 4 * c12 := by have := HNL.out; omega
          have HLC := Lib.hid hLc
          clear RO6 c60 c65 c66 c12c H412 f5 f6 QC g1 g2 g3 g4 hLc
          generalize (w6.setCell ⟨ob, 5, none⟩ (.int .u8 (ex : Int))).setCell ⟨ob, 6, none⟩ (.int .u32 (mt : Int)) = w7 at *
          go_wp2
          go_loopw [11] (fun i wr => ∃ (i0 j : Nat) (A : Option Addr) (c : Nat), i = .int .i64 (i0 : Int) ∧ i0 = 16 + 4 * j ∧ j ≤ c12 ∧ Ro (roC 4 xa xb (.slice none 0 0) (.slice none 0 0) ex mt (.slice A j c)) ob rb w wr ∧ OwnS wr w.heap.size 22 1 (.slice A j c) (((List.range j).map fun j => fourB bs (16 + 4 * j)).map fun n => [Value.int .u32 (n : Nat)])) (fun i _ => L - (intOf i).toNat)
          case atStart => exact ⟨16, 0, none, 0, rfl, rfl, by omega, RO7.out, OwnS.nil _ _ _ _⟩
          case round =>
            obtain ⟨i0, j, A, c, rfl, hi0, hj, hro, hown⟩ := hrel
            have RJ := Lib.hid hro
            have WJ := Lib.hid hown
            clear hro hown RO7
            by_cases hjK : j < c12
            · have hiL : i0 < L := by have := HLC.out; omega
              have hiI : (i0 : Int) < (L : Int) := by omega
              have hx0 := four_lt bs i0 HB.out (by rw [HL.out]; have := HLC.out; omega)
              have HF := Lib.hid (HFO.out i0 (by have := HLC.out; omega))
              have HPA := Lib.hid (show fourB bs (16 + 4 * j) = fourB bs i0 from by rw [← hi0])
              obtain ⟨x0, hx00⟩ : ∃ x, fourB bs i0 = x := ⟨_, rfl⟩
              rw [hx00] at hx0 HF HPA
              go_upto_region 33 with (fail)
              refine rp33 (roC 4 xa xb (.slice none 0 0) (.slice none 0 0) ex mt (.slice A j c)) q o c0 L i0 j c x0 ob rb A (((List.range j).map fun j => fourB bs (16 + 4 * j)).map fun n => [Value.int .u32 (n : Nat)]) w rfl (by simp) (by omega) HOB.out.1 HOB.out.2 hx0 HF.out _ _ _ _ _ _ _ _ _ _ _ _ _ _ _ _ _ _ _ _ _ _ _ _ _ _ _ _ _ _ _ _ _ _ _ _ _ _ _ _ _ _ _ _ _ _ _ _ _ _ _ _ _ _ _ _ _ _ _ _ _ _ _ _ _ _ _ _ _ _ _ _ _ _ _ _ _ _ _ _ _ _ _ _ _ _ _ _ _ _ _ _ _ _ _ _ _ _ _ _ _ _ _ _ _ _ _ _ _ _ _ _ _ _ _ _ _ _ _ _ _ _ _ _ _ _ _ _ _ _ _ _ _ _ _ _ _ _ _ _ _ _ _ _ _ _ _ _ _ _ _ _ _ _ wr RJ.out WJ.out ?_
              rintro y144 y145 y146 y147 y148 y149 y150 y151 w8 ⟨A', c', hro, hown⟩
              have RJ2 := Lib.hid (show Ro (roC 4 xa xb (.slice none 0 0) (.slice none 0 0) ex mt (.slice A' (j + 1) c')) ob rb w w8 from hro)
              have WJ2 := Lib.hid (show OwnS w8 w.heap.size 22 1 (.slice A' (j + 1) c') (((List.range (j + 1)).map fun j => fourB bs (16 + 4 * j)).map fun n => [Value.int .u32 (n : Nat)]) from by
                rw [List.range_succ, List.map_append, List.map_append, List.map_singleton, List.map_singleton, HPA.out]
                exact hown)
              clear hro hown RJ WJ HF
              go_wp2
              exact ⟨⟨i0 + 4, j + 1, A', c', int_congr (by omega), by omega, by omega, RJ2.out, WJ2.out⟩, by simp [intOf]; omega⟩
            · obtain rfl : j = c12 := by omega
              obtain rfl : L = i0 := by have := HLC.out; omega
              go_wp2_with (first | (refine wpList_load_want (o := ⟨some 155, _, _, _, _, _⟩) rfl _ _ rfl ob rfl _ _ _ RJ.out.io Try.underlying33 rfl Try.sizeRme ?_) | (refine wpList_store_is rfl 33 _ _ rfl rb (roC 4 xa xb (.slice none 0 0) (.slice none 0 0) ex mt (.slice A j c)) rfl rfl 33 _ RJ.out.ir Try.sizeRme rfl (by simp [Value.oneCell']) ?_; intro w8 hi8 ho8))
              refine bodyPost_ret (res_pair Try.results22 _ w8 rb 33 _ _ _ rfl rfl hi8 Try.underlying33 rfl Try.sizeRme) rfl ?_
              have o8 : Only (fun _ => False) w w8 := RJ.out.pure.trans ho8 (fun i hi e => by have := HRB.out; omega)
              have wo8 := OwnS.only WJ.out ho8 (fun k hk e => owned_off WJ.out.1 RJ.out.ir (by decide) (by rw [hk, e]))
              refine ⟨.slice none 0 0, .slice none 0 0, .slice A j c, ?_, ?_, o8⟩
              · rw [HRR.out, ← HXA.out, ← HXB.out, ← HEX.out, ← HMT.out]; rfl
              · rw [HRR.out]; exact ⟨RdP.nil _, RdO.nil _, own32s_rd wo8⟩
        · have hnfI : ((n : Int) == 8 + 4 * (c12 : Int)) = false := by rw [beq_eq_false_iff_ne]; omega
          have HRR := Lib.hid (show rr = (ms0, 63) from by rw [HR2.out, if_neg (by decide), if_neg (by decide), if_neg (by decide), if_neg (fun h => hnf h.2.2)])
          have IRR := Lib.hid RO6.out.ir
          have OO := Lib.hid RO6.out.pure
          clear HR2
          go_wp2
          go_loopw [11] (fun i wr => i = .int .i64 16 ∧ wr = w6) (fun _ _ => 0)
          case atStart => exact ⟨rfl, rfl⟩
          case round =>
            obtain ⟨rfl, rfl⟩ := hrel
            go_wp2_with (refine wpList_store_is rfl 33 _ _ rfl rb msZ rfl rfl 33 _ IRR.out Try.sizeRme rfl (by simp [msZ, Value.oneCell']) ?_; intro w8 hi8 ho8)
            refine bodyPost_ret (res_pair Try.results22 _ w8 rb 33 _ _ _ rfl rfl hi8 Try.underlying33 rfl Try.sizeRme) rfl ?_
            exact ⟨.slice none 0 0, .slice none 0 0, .slice none 0 0, by rw [HRR.out]; rfl, by rw [HRR.out]; exact rdm0 _, OO.out.trans ho8 (fun i hi e => by have := HRB.out; omega)⟩
      · have hsa : ¬ sa.toList = [82, 69, 77, 66] := by
          have := HQE.out
          rw [decide_eq_false hnm] at this
          intro e
          rw [e, remb_str] at this
          simp at this
        have HRR := Lib.hid (show rr = (ms0, 63) from by rw [HR2.out, if_neg (by decide), if_neg (by decide), if_neg (by decide), if_neg (fun h => hnm h.2.1)])
        have IRR := Lib.hid RO6.out.ir
        have OO := Lib.hid RO6.out.pure
        clear HR2
        go_wp2
        go_loopw [11] (fun i wr => i = .int .i64 16 ∧ wr = w6) (fun _ _ => 0)
        case atStart => exact ⟨rfl, rfl⟩
        case round =>
          obtain ⟨rfl, rfl⟩ := hrel
          go_wp2_with (refine wpList_store_is rfl 33 _ _ rfl rb msZ rfl rfl 33 _ IRR.out Try.sizeRme rfl (by simp [msZ, Value.oneCell']) ?_; intro w8 hi8 ho8)
          refine bodyPost_ret (res_pair Try.results22 _ w8 rb 33 _ _ _ rfl rfl hi8 Try.underlying33 rfl Try.sizeRme) rfl ?_
          exact ⟨.slice none 0 0, .slice none 0 0, .slice none 0 0, by rw [HRR.out]; rfl, by rw [HRR.out]; exact rdm0 _, OO.out.trans ho8 (fun i hi e => by have := HRB.out; omega)⟩
    · have h8I : ¬ (8 : Int) ≤ (n : Int) := by omega
      have h8N : n < 8 := by omega
      have HRR := Lib.hid (show rr = (ms0, 63) from by rw [HR2.out, if_neg (by decide), if_neg (by decide), if_neg (by decide), if_neg (fun h => h8 h.1)])
      have IRR := Lib.hid RO6.out.ir
      have OO := Lib.hid RO6.out.pure
      clear HR2
      go_wp2
      go_loopw [11] (fun i wr => i = .int .i64 16 ∧ wr = w6) (fun _ _ => 0)
      case atStart => exact ⟨rfl, rfl⟩
      case round =>
        obtain ⟨rfl, rfl⟩ := hrel
        go_wp2_with (refine wpList_store_is rfl 33 _ _ rfl rb msZ rfl rfl 33 _ IRR.out Try.sizeRme rfl (by simp [msZ, Value.oneCell']) ?_; intro w8 hi8 ho8)
        refine bodyPost_ret (res_pair Try.results22 _ w8 rb 33 _ _ _ rfl rfl hi8 Try.underlying33 rfl Try.sizeRme) rfl ?_
        exact ⟨.slice none 0 0, .slice none 0 0, .slice none 0 0, by rw [HRR.out]; rfl, by rw [HRR.out]; exact rdm0 _, OO.out.trans ho8 (fun i hi e => by have := HRB.out; omega)⟩
end Go.Proofs.Ytefcimkopgcagaa
