/- reorder: what waits, gone over by a function to range over. Conditions: as each says. -/
import Derived.Shelf.Abstract
import Derived.WalkKit
import Derived.TacticsInMore
import Derived.LoopNIn
import Derived.LoopIn
import Derived.Maps.AppendAt
import Derived.Test.YtdcclighccejhaaFen
import Derived.Test.YtdcclighccejhaaRoGr
set_option linter.unusedVariables false
set_option linter.unusedSimpArgs false
namespace Go.Proofs.Ytdcclighccejhaa
open Go Go.RowKit Go.Shelf
attribute [local go_sem] Oper.semAt_some

def pkNo : Pk := ⟨false, 0, 0, 0, 0, [], false, 0, [], [], 0⟩
/-- A slice, whatever it is. -/
def sl : Value → Value
  | .slice A n c => .slice A n c
  | _ => .slice none 0 0
theorem sl_is (v : Value) : isSl (sl v) := by
  unfold sl isSl
  split
  · exact ⟨_, _, _, rfl⟩
  · exact ⟨_, _, _, rfl⟩
theorem sl_of {v : Value} (h : isSl v) : sl v = v := by
  obtain ⟨A, n, c, rfl⟩ := h
  rfl
/-- A thing that goes: a packet, or a gap. -/
structure It where
  gap : Bool
  a : Nat
  z : Nat
  p : Pk
  u : V3
def It.cls (x : It) : List Value := .bool x.gap :: .int .u64 (x.a : Int) :: .int .u64 (x.z : Int) :: (x.p.cls (sl x.u.1) (sl x.u.2.1) (sl x.u.2.2)).toList
theorem It.cls_length (x : It) : x.cls.length = 14 := rfl
theorem It.cls_one (x : It) : ∀ v ∈ x.cls, v.oneCell' = true := by
  have h1 := x.p.cls_one (sl_is x.u.1) (sl_is x.u.2.1) (sl_is x.u.2.2)
  intro v hv
  unfold It.cls at hv
  simp only [List.mem_cons] at hv
  rcases hv with rfl | rfl | rfl | hv
  · rfl
  · rfl
  · rfl
  · rw [Array.all_eq_true'] at h1
    exact h1 v (by simpa using hv)
def gapIt (a z : Nat) : It := ⟨true, a, z, pkNo, (.slice none 0 0, .slice none 0 0, .slice none 0 0)⟩
def pkIt (x : Wt) (u : V3) : It := ⟨false, x.n, x.n, x.p, u⟩
def stepIt (next : Nat) (x : Wt) (u : V3) : List It := if x.n = next then [pkIt x u] else [gapIt next (x.n - 1), pkIt x u]
/-- All that would go. -/
def items : Nat → List Wt → List V3 → List It
  | next, x :: ws, u :: us => stepIt next x u ++ items (x.n + 1) ws us
  | _, _, _ => []
theorem items_nil (next : Nat) (us : List V3) : items next [] us = [] := by
  cases us <;> rfl
/-- What comes next. -/
def Bf.nx (m : Bf) : Nat := (m.last + 1) % 18446744073709551616
/-- A buffer as it stands: what waits is not below what comes next. -/
structure Bf.Ok (m : Bf) : Prop where
  fit : m.Fit
  top : ∀ x ∈ m.ws, x.n < 9223372036854775808
  nx : ∀ x ∈ m.ws, m.nx ≤ x.n
/-- What the iterator reads: a box with the buffer's place, and the buffer. -/
def BMem (Bn b : Nat) (m : Bf) (v : Value) (us : List V3) (B : Nat) (W : World) : Prop := Is W Bn 26 #[ptr b] ∧ Bfr W b m v us B
theorem BMem.pure {Bn b B : Nat} {m : Bf} {v : Value} {us : List V3} {w w1 : World} (h : BMem Bn b m v us B w) (ho : Only (fun _ => False) w w1) : BMem Bn b m v us B w1 := ⟨h.1.only ho (by simp), h.2.pure ho⟩
/-- What a round must keep: what the iterator reads, and its own boxes. -/
def BKp (Bn b : Nat) (m : Bf) (v : Value) (us : List V3) (B : Nat) (X Y : World) : Prop := (BMem Bn b m v us B X → BMem Bn b m v us B Y) ∧ ∀ k cs, Is X k 79 cs → Is Y k 79 cs
theorem Try.infoOtF : (Try.prog.info? 62).map (fun i => (i.zero, i.size, i.bytes)) = some (some (.agg #[.bool false, .int .u64 0, .int .u64 0, .bool false, .int .u8 0, .int .u16 0, .int .u32 0, .int .u32 0, .slice none 0 0, .bool false, .int .u16 0, .slice none 0 0, .slice none 0 0, .int .u8 0]), 14, 128) := by kernel_rfl
theorem Try.infoOt : (Try.prog.info? 62).map (·.size) = some 14 := by kernel_rfl
theorem built_pk (n a : Int) (c0 c1 c2 c3 c4 c5 c6 c7 c8 c9 c10 : Value) : Try.prog.built 62 [(1, .int .u64 n), (2, .int .u64 a), (3, .agg #[c0, c1, c2, c3, c4, c5, c6, c7, c8, c9, c10])] = some #[.bool false, .int .u64 n, .int .u64 a, c0, c1, c2, c3, c4, c5, c6, c7, c8, c9, c10] := by kernel_rfl
theorem built_gap (n a : Int) : Try.prog.built 62 [(0, .bool true), (1, .int .u64 n), (2, .int .u64 a)] = some #[.bool true, .int .u64 n, .int .u64 a, .bool false, .int .u8 0, .int .u16 0, .int .u32 0, .int .u32 0, .slice none 0 0, .bool false, .int .u16 0, .slice none 0 0, .slice none 0 0, .int .u8 0] := by kernel_rfl
theorem gap_cls (a z : Nat) : (gapIt a z).cls.toArray = #[.bool true, .int .u64 (a : Int), .int .u64 (z : Int), .bool false, .int .u8 0, .int .u16 0, .int .u32 0, .int .u32 0, .slice none 0 0, .bool false, .int .u16 0, .slice none 0 0, .slice none 0 0, .int .u8 0] := rfl
theorem drop_at {α : Type} {l : List α} {k : Nat} {x : α} (h : l[k]? = some x) : l.drop k = x :: l.drop (k + 1) := by
  obtain ⟨hk, rfl⟩ := List.getElem?_eq_some_iff.1 h
  exact List.drop_eq_getElem_cons hk
theorem wt_rest (x : Wt) (u : V3) : ∀ j z, (x.p.cls u.1 u.2.1 u.2.2).toList[j]? = some z → (x.cls u)[2 + j]? = some z := fun j z h => by
  rw [show 2 + j = j + 2 by omega]
  exact h
set_option maxRecDepth 100000 in
set_option maxHeartbeats 4000000 in
theorem all1_in (Bn b l B : Nat) (m : Bf) (v : Value) (us : List V3) (hok : m.Ok) (ALL : List It) (hall : ALL = items m.nx m.ws us) (J Jx : List It → World → Prop) (W : World)
    (hg : ∀ s A B, J s A → Only (fun _ => False) A B → J s B)
    (hY : ∀ pre x W, J pre W → pre.length < ALL.length → YieldAt Fence.wide (3 - 1) Try.prog l #[.agg x.cls.toArray] W fun e W' =>
      (e = .returned (.bool true) ∧ J (pre ++ [x]) W' ∧ BKp Bn b m v us B W W') ∨ (e = .returned (.bool false) ∧ Jx (pre ++ [x]) W'))
    (hM : BMem Bn b m v us B W) (h0 : J [] W) :
    CallsIn Fence.wide 3 Try.prog 52 #[.func (.yield l) #[] #[], .pointer (some ⟨Bn, 0, none⟩)] W fun e W' => (∃ v, e = .returned v) ∧
      ((∃ ys, ys = ALL ∧ J ys W') ∨ (∃ pre, pre <+: ALL ∧ Jx pre W')) := by
  refine callsIn_of_wp Try.func52 rfl trivial ?_ rfl
  simp only [Try.ntmps52, List.size_toArray, List.length_cons, List.length_nil, Nat.reduceAdd, Nat.reduceSub, Array.replicate_succ, Array.replicate_zero, List.push_toArray, List.append_toArray, List.nil_append, List.cons_append]
  obtain ⟨A, c, rfl, hc⟩ := hM.2.slice
  have hL := hok.fit.len
  have hlast := hok.fit.last
  have hget : ∀ i, i < m.ws.length → ∃ (x : Wt) (u : V3), m.ws[i]? = some x ∧ us[i]? = some u ∧ isSl u.1 ∧ isSl u.2.1 ∧ isSl u.2.2 ∧ x.n < 9223372036854775808 ∧ (∀ v ∈ x.cls u, v.oneCell' = true) ∧ ∀ wr, BMem Bn b m (.slice A m.ws.length c) us B wr → ∃ g : Nat, A = some ⟨g, 0, none⟩ ∧ wr.rangeAt g (i * 13) (x.cls u) := fun i hi => by
    have hx := List.getElem?_eq_getElem hi
    have hui : i < us.length := by rw [hM.2.pks.len]; exact hi
    have hu := List.getElem?_eq_getElem hui
    have ho := hM.2.pks.own i _ _ hx hu
    refine ⟨_, _, hx, hu, own_isSl ho.1, own_isSl ho.2.1, own_isSl ho.2.2, hok.top _ (List.getElem_mem hi), Wt.cls_one _ ho, fun wr hwr => ?_⟩
    obtain ⟨g, c', e, h1, h2, h3, h4⟩ := hwr.2.at_ (by omega)
    injection e with e1 e2 e3
    obtain ⟨u', hu', hcell⟩ := h4 i _ hx
    rw [hu] at hu'
    injection hu' with hu'
    refine ⟨g, e1, fun j z hj => ?_⟩
    have hjl : j < 13 := by rw [← Wt.cls_length m.ws[i] us[i]]; exact (List.getElem?_eq_some_iff.1 hj).1
    rw [hcell j hjl, ← hu', hj]
  have hw1 : IntKind.u64.wrap ((m.last : Int) + 1) = (m.nx : Int) := by rw [IntKind.wrap_u64]; unfold Bf.nx; omega
  have hnx64 : m.nx < 18446744073709551616 := Nat.mod_lt _ (by decide)
  have hlow : ∀ x ∈ m.ws, m.nx ≤ x.n := hok.nx
  have hrise := hok.fit.rise
  have HG := Lib.hid hg
  have HY := Lib.hid hY
  have HGET := Lib.hid hget
  have HLOW := Lib.hid hlow
  have HRISE := Lib.hid hrise
  have M1 := Lib.hid hM
  have J1 := Lib.hid h0
  have c0 := hM.1.cell 0
  simp at c0
  have c3 := hM.2.last
  have c4 := hM.2.list
  obtain ⟨nx, hnx⟩ : ∃ nx, m.nx = nx := ⟨_, rfl⟩
  rw [hnx] at hall hw1 hnx64 HLOW
  obtain ⟨lst, hlst⟩ : ∃ lst, m.last = lst := ⟨_, rfl⟩
  rw [hlst] at hlast hw1 c3
  obtain ⟨L, hLd⟩ : ∃ L, m.ws.length = L := ⟨_, rfl⟩
  have HLD := Lib.hid hLd
  rw [hLd] at hL hc c4 HGET M1 HY
  have HALL := Lib.hid hall
  clear hg hY hget hlow hrise hM h0 hok hall hnx hlst hLd
  gi_wp2
  gi_loopw [3, 16] (fun s3 s16 wr => ∃ (k next : Nat) (pre : List It), k ≤ L ∧ s16 = .int .i64 (k : Int) ∧ s3 = .int .u64 (next : Int) ∧ next < 18446744073709551616 ∧ (∀ x, m.ws[k]? = some x → next ≤ x.n) ∧ pre ++ items next (m.ws.drop k) (us.drop k) = ALL ∧ BMem Bn b m (.slice A L c) us B wr ∧ J pre wr) (fun _ s16 _ => L - (intOf s16).toNat)
  case atStart => exact ⟨0, nx, [], by omega, rfl, rfl, hnx64, fun x hx => HLOW.out x (List.mem_of_getElem? hx), by simpa using HALL.out.symm, M1.out, J1.out⟩
  case round =>
    obtain ⟨k, next, pre, hk, rfl, rfl, hn64, hnext, heq, hM, hJ⟩ := hrel
    have HM := Lib.hid hM
    have HJ := Lib.hid hJ
    clear M1 J1 c0 c3 c4 hlast hw1
    by_cases hlt : k < L
    · have hltI : (k : Int) < (L : Int) := by omega
      obtain ⟨x, u, hx, hu, i1, i2, i3, hxn, hone, hra⟩ := HGET.out k hlt
      obtain ⟨g, rfl, hra2⟩ := hra wr hM
      have RA := Lib.hid hra2
      clear hra
      have hnn := hnext x hx
      have HEQ := Lib.hid (show pre ++ (stepIt next x u ++ items (x.n + 1) (m.ws.drop (k + 1)) (us.drop (k + 1))) = ALL from by rw [← heq, drop_at hx, drop_at hu]; rfl)
      have HV := Lib.hid (show (x.cls u).toArray.all (·.oneCell') = true from all_oneCell_toArray hone)
      have hsz : (Try.prog.info? 79).map (·.size) = some (x.cls u).length := by rw [Try.sizeWt]; rfl
      have hsz2 : (Try.prog.info? 79).map (·.size) = some (x.cls u).toArray.size := by rw [Try.sizeWt]; rfl
      have hs3 : zeroWt.size = (x.cls u).toArray.size := rfl
      have hn0 : (x.cls u)[0]? = some (.int .u64 (x.n : Int)) := rfl
      have HR2 := Lib.hid (wt_rest x u)
      have HNXT := Lib.hid (show ∀ y, m.ws[k + 1]? = some y → x.n + 1 ≤ y.n from fun y hy => HRISE.out k (k + 1) x y (by omega) hx hy)
      have hst : IntKind.u64.wrap ((x.n : Int) + 1) = ((x.n + 1 : Nat) : Int) := by rw [IntKind.wrap_u64]; omega
      obtain ⟨q0, q1, q2, q3, q4, q5, q6, q7, q8, q9, q10, hq⟩ : ∃ q0 q1 q2 q3 q4 q5 q6 q7 q8 q9 q10 : Value, x.p.cls u.1 u.2.1 u.2.2 = #[q0, q1, q2, q3, q4, q5, q6, q7, q8, q9, q10] := ⟨_, _, _, _, _, _, _, _, _, _, _, rfl⟩
      have HPKC := Lib.hid (show (pkIt x u).cls.toArray = #[.bool false, .int .u64 (x.n : Int), .int .u64 (x.n : Int), q0, q1, q2, q3, q4, q5, q6, q7, q8, q9, q10] from by
        unfold pkIt It.cls
        rw [sl_of i1, sl_of i2, sl_of i3, hq])
      rw [hq] at HR2
      have Try.sizePqL : (Try.prog.info? 42).map (·.size) = some [q0, q1, q2, q3, q4, q5, q6, q7, q8, q9, q10].length := Try.sizePq
      generalize hcs : x.cls u = cs at *
      by_cases hz : x.n = next
      · have HQ := Lib.hid (show pre ++ [pkIt x u] ++ items (x.n + 1) (m.ws.drop (k + 1)) (us.drop (k + 1)) = ALL from by rw [← HEQ.out, stepIt, if_pos hz, List.append_assoc])
        have hlen : pre.length < ALL.length := by rw [← HQ.out]; simp
        subst hz
        generalize hzd : x.n = z at *
        clear hcs hq heq hnext hM hJ hra2 hone hk hx hu hn64
        gi_wp2_with (first
          | (refine wpListIn_load_mid rfl 79 _ rfl g (k * 13) rfl cs _ RA.out Try.underlying79 rfl hsz ?_)
          | (refine wpListIn_store_is (o := ⟨none, _, _, _, _, _⟩) rfl 79 _ _ rfl wr.heap.size cs.toArray rfl rfl 79 _ (Is.made wr _ _) hsz2 hs3 HV.out ?_; intro w4 hi4 ho4; have I4 := Lib.hid hi4; have O4 := Lib.hid (((Only.refl _ wr).alloc _).trans ho4 (fun i hi e => by omega) : Only (fun _ => False) wr w4); clear hi4 ho4; have cN4 : w4.cell? ⟨wr.heap.size, 0, none⟩ = some (.int .u64 (z : Int)) := (by rw [I4.out.cell]; simpa using hn0); have RA4 := Lib.hid (show w4.rangeAt wr.heap.size 2 [q0, q1, q2, q3, q4, q5, q6, q7, q8, q9, q10] from fun j v hj => by rw [I4.out.cell]; simpa using HR2.out j v hj); have M4 := Lib.hid (HM.out.pure O4.out); have J4 := Lib.hid (HG.out _ _ _ HJ.out O4.out); have HYP := HY.out pre (pkIt x u) w4 J4.out hlen; rw [HPKC.out] at HYP; obtain ⟨fn, tmps, assign, body, hy, hR⟩ := HYP; have HRR := Lib.hid hR; clear hR)
          | (refine wpListIn_load_mid rfl 42 _ rfl wr.heap.size 2 rfl [q0, q1, q2, q3, q4, q5, q6, q7, q8, q9, q10] _ RA4.out Try.underlying42 rfl Try.sizePqL ?_))
        refine ⟨fun _ h => (by cases h), ?_⟩
        gi_wp2_with (first
          | (refine wpListIn_load_mid rfl 42 _ rfl wr.heap.size 2 rfl [q0, q1, q2, q3, q4, q5, q6, q7, q8, q9, q10] _ RA4.out Try.underlying42 rfl Try.sizePqL ?_))
        refine HRR.out.mono ?_
        rintro e w6 (⟨rfl, hJ6, hm6, hk6⟩ | ⟨rfl, hJ6⟩)
        · have M6 := Lib.hid (hm6 M4.out)
          have J6 := Lib.hid hJ6
          have cN6 : w6.cell? ⟨wr.heap.size, 0, none⟩ = some (.int .u64 (z : Int)) := (by have := hk6 _ _ I4.out; rw [this.cell]; simpa using hn0)
          clear hJ6 hm6 hk6 HRR
          gi_wp2
          go_roundw
          case rel => exact ⟨k + 1, z + 1, pre ++ [pkIt x u], by omega, by go_num, rfl, by omega, HNXT.out, HQ.out, M6.out, J6.out⟩
          case measure => simp [intOf]; omega
        · have J6 := Lib.hid hJ6
          clear hJ6
          gi_wp2
          refine bodyPost_ret (results_none rfl _ _ _) rfl ?_
          exact ⟨⟨_, rfl⟩, .inr ⟨pre ++ [pkIt x u], ⟨_, HQ.out⟩, J6.out⟩⟩
      · have HQ := Lib.hid (show pre ++ [gapIt next (x.n - 1)] ++ [pkIt x u] ++ items (x.n + 1) (m.ws.drop (k + 1)) (us.drop (k + 1)) = ALL from by rw [← HEQ.out, stepIt, if_neg hz, List.append_assoc, List.append_assoc]; rfl)
        have HPX := Lib.hid (show pre ++ [gapIt next (x.n - 1)] <+: ALL from ⟨[pkIt x u] ++ items (x.n + 1) (m.ws.drop (k + 1)) (us.drop (k + 1)), by rw [← HQ.out, List.append_assoc (pre ++ [gapIt next (x.n - 1)])]⟩)
        have hlen : pre.length < ALL.length := by rw [← HQ.out]; simp
        have hlen2 : (pre ++ [gapIt next (x.n - 1)]).length < ALL.length := by rw [← HQ.out]; simp
        have hsub : IntKind.u64.wrap ((x.n : Int) - 1) = ((x.n - 1 : Nat) : Int) := by rw [IntKind.wrap_u64]; omega
        have HGP := Lib.hid (show Try.prog.built 62 [(0, .bool true), (1, .int .u64 (next : Int)), (2, .int .u64 ((x.n - 1 : Nat) : Int))] = some (gapIt next (x.n - 1)).cls.toArray from built_gap _ _)
        generalize hzd : x.n = z at *
        generalize z - 1 = z1 at *
        have hz2 : ¬ (z : Int) = (next : Int) := by omega
        clear hcs hq heq hnext hM hJ hra2 hone hk hx hu hn64
        gi_wp2_with (first
          | (refine wpListIn_load_mid rfl 79 _ rfl g (k * 13) rfl cs _ RA.out Try.underlying79 rfl hsz ?_)
          | (refine wpListIn_store_is (o := ⟨none, _, _, _, _, _⟩) rfl 79 _ _ rfl wr.heap.size cs.toArray rfl rfl 79 _ (Is.made wr _ _) hsz2 hs3 HV.out ?_; intro w4 hi4 ho4; have I4 := Lib.hid hi4; have O4 := Lib.hid (((Only.refl _ wr).alloc _).trans ho4 (fun i hi e => by omega) : Only (fun _ => False) wr w4); clear hi4 ho4; have cN4 : w4.cell? ⟨wr.heap.size, 0, none⟩ = some (.int .u64 (z : Int)) := (by rw [I4.out.cell]; simpa using hn0); have RA4 := Lib.hid (show w4.rangeAt wr.heap.size 2 [q0, q1, q2, q3, q4, q5, q6, q7, q8, q9, q10] from fun j v hj => by rw [I4.out.cell]; simpa using HR2.out j v hj); have M4 := Lib.hid (HM.out.pure O4.out); have J4 := Lib.hid (HG.out _ _ _ HJ.out O4.out); have HYG := HY.out pre (gapIt next z1) w4 J4.out hlen; rw [gap_cls] at HYG; obtain ⟨fn, tmps, assign, body, hy, hR⟩ := HYG; have HRR := Lib.hid hR; clear hR)
          | (refine wpListIn_load_mid rfl 42 _ rfl wr.heap.size 2 rfl [q0, q1, q2, q3, q4, q5, q6, q7, q8, q9, q10] _ RA4.out Try.underlying42 rfl Try.sizePqL ?_))
        refine HRR.out.mono ?_
        rintro e w5 (⟨rfl, hJ5, hm5, hk5⟩ | ⟨rfl, hJ5⟩)
        · have M5 := Lib.hid (hm5 M4.out)
          have J5 := Lib.hid hJ5
          have I5 := Lib.hid (hk5 _ _ I4.out)
          clear hJ5 hm5 hk5 HRR cN4 RA4 hy
          have cN5 : w5.cell? ⟨wr.heap.size, 0, none⟩ = some (.int .u64 (z : Int)) := (by rw [I5.out.cell]; simpa using hn0); have RA5 := Lib.hid (show w5.rangeAt wr.heap.size 2 [q0, q1, q2, q3, q4, q5, q6, q7, q8, q9, q10] from fun j v hj => by rw [I5.out.cell]; simpa using HR2.out j v hj)
          have HYP := HY.out (pre ++ [gapIt next z1]) (pkIt x u) w5 J5.out hlen2
          rw [HPKC.out] at HYP
          obtain ⟨fn, tmps, assign, body, hy, hR⟩ := HYP
          have HRR := Lib.hid hR
          clear hR
          gi_wp2_with (first
            | (refine wpListIn_load_mid rfl 42 _ rfl wr.heap.size 2 rfl [q0, q1, q2, q3, q4, q5, q6, q7, q8, q9, q10] _ RA5.out Try.underlying42 rfl Try.sizePqL ?_))
          refine HRR.out.mono ?_
          rintro e w6 (⟨rfl, hJ6, hm6, hk6⟩ | ⟨rfl, hJ6⟩)
          · have M6 := Lib.hid (hm6 M5.out)
            have J6 := Lib.hid hJ6
            have cN6 : w6.cell? ⟨wr.heap.size, 0, none⟩ = some (.int .u64 (z : Int)) := (by have := hk6 _ _ I5.out; rw [this.cell]; simpa using hn0)
            clear hJ6 hm6 hk6 HRR
            gi_wp2
            go_roundw
            case rel => exact ⟨k + 1, z + 1, pre ++ [gapIt next z1] ++ [pkIt x u], by omega, by go_num, rfl, by omega, HNXT.out, HQ.out, M6.out, J6.out⟩
            case measure => simp [intOf]; omega
          · have J6 := Lib.hid hJ6
            clear hJ6
            gi_wp2
            refine bodyPost_ret (results_none rfl _ _ _) rfl ?_
            exact ⟨⟨_, rfl⟩, .inr ⟨pre ++ [gapIt next z1] ++ [pkIt x u], ⟨_, HQ.out⟩, J6.out⟩⟩
        · have J6 := Lib.hid hJ5
          clear hJ5
          gi_wp2
          refine bodyPost_ret (results_none rfl _ _ _) rfl ?_
          exact ⟨⟨_, rfl⟩, .inr ⟨pre ++ [gapIt next z1], HPX.out, J6.out⟩⟩
    · obtain rfl : k = L := by omega
      have hend : pre = ALL := by
        rw [← heq, List.drop_of_length_le (by rw [HLD.out]; exact Nat.le_refl _), items_nil, List.append_nil]
      have HE := Lib.hid hend
      clear heq hend hnext
      gi_wp2
      go_end0
      exact ⟨⟨_, rfl⟩, .inl ⟨pre, HE.out, HJ.out⟩⟩
end Go.Proofs.Ytdcclighccejhaa
