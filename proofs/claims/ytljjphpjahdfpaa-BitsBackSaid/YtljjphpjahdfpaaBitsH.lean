/- SameBytes, Pack, and the chapter's examples (works). Conditions: xs each says. -/
import Derived.Test.YtljjphpjahdfpaaBitsG
set_option linter.unusedVariables false
namespace Go.Proofs.Ytljjphpjahdfpaa
open Go.RowKit

theorem Src.at_ {w : World} {v : Value} {bs : List Nat} (h : Src w v bs) (hp : 0 < bs.length) : ∃ g o c, v = .slice (some ⟨g, o, none⟩) bs.length c ∧ ∀ j (hj : j < bs.length), w.cell? ⟨g, o + j, none⟩ = some (.int .u8 (bs[j] : Int)) := by
  rcases h with ⟨_, rfl⟩ | ⟨a, c, rfl, _, hc⟩
  · simp at hp
  · obtain ⟨g, o, spot⟩ := a
    have h0 := hc 0 _ (cellsOf_get bs 0 hp)
    have hspot : spot = none := by simpa [Addr.add] using World.cell?_spot h0
    subst hspot
    refine ⟨g, o, c, rfl, fun j hj => ?_⟩
    have := hc j _ (cellsOf_get bs j hj)
    rwa [add_plain] at this
theorem Src.slice {w : World} {v : Value} {bs : List Nat} (h : Src w v bs) : ∃ A c, v = .slice A bs.length c := by
  rcases h with ⟨rfl, rfl⟩ | ⟨a, c, rfl, _⟩
  · exact ⟨none, 0, rfl⟩
  · exact ⟨_, c, rfl⟩
theorem Src.drewN {w : World} {v : Value} {bs : List Nat} (h : Src w v bs) (n : Nat) : Src (w.drewN n) v bs := h
theorem Src.only {w w1 : World} {v : Value} {bs : List Nat} {S : Nat → Prop} (h : Src w v bs) (ho : Only S w w1) (hn : ∀ k, v.ownBlock = some k → ¬ S k) : Src w1 v bs := by
  rcases h with h | ⟨a, c, rfl, hl, hc⟩
  · exact .inl h
  · refine .inr ⟨a, c, rfl, hl, fun j u hu => ?_⟩
    have h1 := hc j u hu
    have hb : (a.add j).block = a.block := by unfold Addr.add; split <;> rfl
    exact (ho.cell (World.block_lt_of_cell? w _ h1) (by rw [hb]; exact hn a.block rfl)).trans h1

theorem take_eq_of (xs bs : List Nat) (k : Nat) (hk : k < xs.length) (hk2 : k < bs.length) (h : xs.take k = bs.take k) (he : xs[k] = bs[k]) : xs.take (k + 1) = bs.take (k + 1) := by
  rw [List.take_succ_eq_append_getElem hk, List.take_succ_eq_append_getElem hk2, h, he]

set_option maxHeartbeats 400000 in
theorem same_is (va vb : Value) (xs bs : List Nat) (w : World) (ha : Src w va xs) (hb : Src w vb bs) (hl : xs.length ≤ 140737488355328) :
    Calls Try.prog 25 #[va, vb] w fun e w' => e = .returned (.bool (decide (xs = bs))) ∧ ∃ n, w' = w.drewN n := by
  by_cases hlen : xs.length = bs.length
  · rcases Nat.eq_zero_or_pos xs.length with h0 | hpos
    · have e1 : xs = [] := List.eq_nil_of_length_eq_zero h0
      have e2 : bs = [] := List.eq_nil_of_length_eq_zero (by omega)
      subst e1 e2
      obtain ⟨A, c, rfl⟩ := ha.slice
      obtain ⟨A', c', rfl⟩ := hb.slice
      simp only [List.length_nil]
      clear ha hb hl hlen h0
      go_enter Try.func25, Try.ntmps25
      go_wp2
      go_loopw [5] (fun i wr => i = .int .i64 0 ∧ w = wr) (fun _ _ => 0)
      case atStart => exact ⟨rfl, rfl⟩
      case round =>
        obtain ⟨rfl, rfl⟩ := hrel
        go_wp2
        go_ret
        exact ⟨rfl, 0, rfl⟩
    · obtain ⟨g, o, c, rfl, hca⟩ := ha.at_ hpos
      obtain ⟨g', o', c', rfl, hcb⟩ := hb.at_ (by omega)
      have HA := Lib.hid hca
      have HB := Lib.hid hcb
      clear ha hb hca hcb
      obtain ⟨L, hla⟩ : ∃ L, xs.length = L := ⟨_, rfl⟩
      rw [hla] at hl hpos hlen
      rw [← hlen, hla]
      have HLA := Lib.hid hla
      have HLB := Lib.hid hlen.symm
      clear hla hlen
      go_enter Try.func25, Try.ntmps25
      go_wp2
      go_loopw [5] (fun i wr => ∃ k : Nat, k ≤ L ∧ i = .int .i64 k ∧ Hid (xs.take k = bs.take k) ∧ ∃ n, wr = w.drewN n) (fun i _ => L - (intOf i).toNat)
      case atStart => exact ⟨0, by omega, rfl, by simp [Hid], 0, rfl⟩
      case round =>
        obtain ⟨k, hk, rfl, hpre, n, rfl⟩ := hrel
        by_cases hlt : k < L
        · have hka : k < xs.length := by rw [HLA.out]; exact hlt
          have hkb : k < bs.length := by rw [HLB.out]; exact hlt
          have qa := HA.out k hka
          have qb := HB.out k hkb
          by_cases heq : xs[k] = bs[k]
          · have hbne : (((xs[k] : Nat) : Int) != ((bs[k] : Nat) : Int)) = false := by simp [heq]
            have HP := Lib.hid (take_eq_of xs bs k hka hkb hpre.out heq)
            generalize xs[k] = x at *
            generalize bs[k] = y at *
            clear hka hkb heq
            go_wp2
            go_quiet (fail)
            go_wp2
            refine ⟨⟨k + 1, by omega, by go_num, HP.out, _, rfl⟩, by simp [intOf]; omega⟩
          · have hbne : (((xs[k] : Nat) : Int) != ((bs[k] : Nat) : Int)) = true := by simp; omega
            have hne : xs ≠ bs := fun e => heq (by subst e; rfl)
            have HNE := Lib.hid hne
            generalize xs[k] = x at *
            generalize bs[k] = y at *
            clear hka hkb heq hne
            go_wp2
            go_quiet (fail)
            go_wp2
            go_ret
            exact ⟨by rw [decide_eq_false HNE.out]; rfl, n + nq, by simp⟩
        · have hkl : k = L := by omega
          subst hkl
          have hp := hpre.out
          rw [List.take_of_length_le (by rw [HLA.out]; exact Nat.le_refl _), List.take_of_length_le (by rw [HLB.out]; exact Nat.le_refl _)] at hp
          have HP := Lib.hid hp
          clear hp hpre
          go_wp2
          go_ret
          exact ⟨by rw [decide_eq_true HP.out]; rfl, _, rfl⟩
  · have hne : xs ≠ bs := fun e => hlen (by rw [e])
    obtain ⟨A, c, rfl⟩ := ha.slice
    obtain ⟨A', c', rfl⟩ := hb.slice
    have hb : (((xs.length : Nat) : Int) != ((bs.length : Nat) : Int)) = true := by simp; omega
    rw [decide_eq_false hne]
    clear ha hne hl
    generalize xs.length = L at *
    generalize bs.length = L' at *
    go_enter Try.func25, Try.ntmps25
    go_wp2
    go_ret
    exact ⟨rfl, 0, rfl⟩

/-- A writer of new memory: what its calls change was not there. -/
theorem only_new {w w1 w2 : World} {b B : Nat} {d bs : List Nat} {v : Value} (hw : Wr w1 b d bs v B) (h : Only (fun _ => False) w w1) (hB : w.heap.size ≤ B) (ho : Only (Mine b v) w1 w2) : Only (fun _ => False) w w2 := by
  refine h.trans ho ?_
  intro i hi hm
  rcases hm with rfl | hm
  · have := hw.base
    omega
  · have := (hw.row.lt i hm).1
    omega

def nats (xs : List Nat) : List Int := xs.map fun (x : Nat) => (x : Int)
theorem nats_length (xs : List Nat) : (nats xs).length = xs.length := by simp [nats]

/-- What Pack answers. -/
def Packed (C : Nat) (d : List Nat) (w : World) (e : Ending) (w' : World) : Prop := ∃ bs, Wrote bs d ∧ OwnRow C (cellsOf bs) w e w'

theorem flat_length (k : Nat) (xs : List Nat) : (xs.flatMap (digs k)).length = k * xs.length := by
  induction xs with
  | nil => simp
  | cons x xs ih => rw [List.flatMap_cons, List.length_append, digs_length, ih, List.length_cons, Nat.mul_add, Nat.mul_one, Nat.add_comm]
theorem clamp_le (n : Int) : clamp n ≤ 64 := by unfold clamp; omega
theorem flat_room (n : Int) (xs : List Nat) (h : xs.length ≤ 1000000) : (xs.flatMap (digs (clamp n))).length ≤ 64000000 := by
  rw [flat_length]
  have := Nat.mul_le_mul (clamp_le n) h
  omega
theorem flat_snoc (n k : Nat) (xs : List Nat) (h : k < xs.length) : (xs.take (k + 1)).flatMap (digs n) = (xs.take k).flatMap (digs n) ++ digs n xs[k] := by
  rw [List.take_succ_eq_append_getElem h, List.flatMap_append]
  simp

set_option maxHeartbeats 400000 in
theorem pack_is (dg : Int) (v : Value) (xs : List Nat) (w : World) (C : Nat) (hC : C ≤ w.heap.size) (h : Rd .u64 w v (nats xs)) (hx : ∀ x ∈ xs, x < 18446744073709551616) (hl : xs.length ≤ 1000000) :
    Calls Try.prog 26 #[.int .i64 dg, v] w (Packed C (xs.flatMap (digs (clamp dg))) w) := by
  have HRD := Lib.hid h
  obtain ⟨A, c, rfl, hlc, hcell⟩ := h
  have hnl := nats_length xs
  rw [hnl] at hlc ⊢
  have HX := Lib.hid hx
  have HC := Lib.hid hcell
  clear hx hcell hnl
  obtain ⟨L, hL⟩ : ∃ L, xs.length = L := ⟨_, rfl⟩
  rw [hL] at hl hlc ⊢
  have HL := Lib.hid hL
  clear hL
  go_enter Try.func26, Try.ntmps26
  go_wp2_with (go_at_call 7; refine (new_is w).mono ?_; rintro e w' ⟨rfl, rfl⟩)
  go_loopw [11] (fun i wr => ∃ (k : Nat) (bs : List Nat) (u : Value), k ≤ L ∧ i = .int .i64 k ∧ Wr wr w.heap.size ((xs.take k).flatMap (digs (clamp dg))) bs u w.heap.size ∧ Only (fun _ => False) w wr) (fun i _ => L - (intOf i).toNat)
  case atStart => exact ⟨0, [], .slice none 0 0, by omega, rfl, by simpa using wr_new w w.heap.size (Nat.le_refl _), (Only.refl _ w).alloc _⟩
  case round =>
    obtain ⟨k, bs, u, hk, rfl, hw, ho⟩ := hrel
    have HW := Lib.hid hw
    have HO := Lib.hid ho
    have hsz := ho.size
    clear hw ho
    by_cases hlt : k < L
    · obtain ⟨g, o, rfl, hcl⟩ := HC.out (by rw [nats_length, HL.out]; omega)
      have hkx : k < xs.length := by rw [HL.out]; exact hlt
      have q0 := hcl k (by rw [nats_length]; exact hkx)
      have q1 : wr.cell? ⟨g, o + k, none⟩ = some (.int .u64 (xs[k] : Nat)) := by
        rw [HO.out.cell (World.block_lt_of_cell? w _ q0) (by simp), q0]
        simp [nats]
      have hxk := HX.out _ (List.getElem_mem hkx)
      have hfl := flat_snoc (clamp dg) k xs hkx
      have hroom := flat_room dg (xs.take k) (by rw [List.length_take, HL.out]; omega)
      generalize xs[k] = x at *
      have HF := Lib.hid hfl
      clear q0 hcl hfl hkx
      go_wp2_with fail
      refine (put_is w.heap.size w.heap.size x dg _ bs u wr HW.out hsz hxk (by omega)).mono ?_
      rintro e w1 ⟨rfl, bs1, u1, hw1, hm1, ho1⟩
      have HW1 := Lib.hid hw1
      have HO1 := Lib.hid (only_new HW.out HO.out (Nat.le_refl _) ho1)
      clear hw1 hm1 ho1 q1
      go_wp2
      go_roundw
      case rel =>
        refine ⟨k + 1, bs1, u1, by omega, by go_num, ?_, HO1.out⟩
        rw [HF.out]
        exact HW1.out
      case measure => simp [intOf]; omega
    · have hkl : k = L := by omega
      subst hkl
      rw [List.take_of_length_le (by rw [HL.out]; exact Nat.le_refl _)] at HW
      have hroom := flat_room dg xs (by rw [HL.out]; omega)
      go_wp2_with fail
      refine (out_is w.heap.size w.heap.size C _ bs u wr HW.out (by omega) (by omega)).mono ?_
      rintro e w1 ⟨y, rfl, hq⟩
      have HQ := Lib.hid hq
      clear hq
      go_wp2
      go_ret
      refine ⟨bs, HW.out.wrote, y, rfl, HQ.out.1, HO.out.trans HQ.out.2.1 (by simp), fun q hq => ?_⟩
      have := HQ.out.2.2 q hq
      omega
end Go.Proofs.Ytljjphpjahdfpaa
