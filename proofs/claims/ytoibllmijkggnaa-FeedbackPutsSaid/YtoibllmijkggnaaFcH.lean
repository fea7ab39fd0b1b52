/- What putRate puts. Conditions: as it says. -/
import Derived.Test.YtoibllmijkggnaaFcG
set_option linter.unusedVariables false
namespace Go.Proofs.Ytoibllmijkggnaa
open Go.RowKit

def rateD (m : Ms) : List Nat := digs 8 m.srcs.length ++ (digs 6 m.exp ++ (digs 18 m.mant ++ m.srcs.flatMap (digs 32)))
set_option maxRecDepth 100000 in
set_option maxHeartbeats 4000000 in
theorem putrate_is (m : Ms) (p1 o1 s1 : Value) (b B : Nat) (d : List Nat) (wB w : World) (hP : Pw b B d w wB w) (hr : Rd .u32 wB s1 (nats m.srcs)) (hBw : wB.heap.size ≤ B) (hf : ∀ x ∈ m.srcs, x < 4294967296) (hx : m.exp < 256 ∧ m.mant < 4294967296) (hl : m.srcs.length ≤ 100000) (hd : d.length ≤ 1000) :
    Calls Try.prog 75 #[.agg (m.cls p1 o1 s1), ptr b] w fun e w' => e = .returned (.tuple #[]) ∧ Pw b B (d ++ rateD m) w wB w' := by
  obtain ⟨A1, c1, ha, hc, hh⟩ := hr
  rw [nats_length] at ha hc
  have HHH := Lib.hid hh
  have HFF := Lib.hid hf
  have HP := Lib.hid hP
  have HXX := Lib.hid hx
  have HLL := Lib.hid hl
  have HAA := Lib.hid ha
  have HD := Lib.hid hd
  obtain ⟨A, hA⟩ : ∃ a, m.cls p1 o1 s1 = a := ⟨_, rfl⟩
  have HA := Lib.hid hA
  rw [hA]
  clear hh hf hP hA ha hd hx
  go_enter Try.func75, Try.ntmps75
  go_upto_region 1 with (fail)
  obtain ⟨mb, hmb⟩ : ∃ g, w.heap.size = g := ⟨_, rfl⟩
  generalize hw1 : World.alloc _ _ = w1
  have I1 := Lib.hid (show Is w1 mb 27 (m.cls p1 o1 (.slice A1 m.srcs.length c1)) from by rw [← hw1, ← HAA.out, HA.out, ← hmb]; exact Is.made _ _ _)
  have P1 := Lib.hid (show Pw b B d w wB w1 from by rw [← hw1]; exact HP.out.go ((Only.refl _ _).alloc _))
  rw [hmb]
  clear hw1 hmb
  refine putr1 b B mb d wB m p1 o1 A1 c1 ⟨HXX.out.1, HXX.out.2, HLL.out⟩ (by have := HD.out; omega) _ _ _ _ _ _ _ _ _ _ _ _ _ _ _ _ _ _ _ _ _ _ _ _ _ _ _ _ _ _ _ w1 I1.out P1.out.here ?_
  rintro y6 y7 y8 y9 y10 y11 y12 y13 y14 y15 y16 y17 y18 y19 w2 hP2
  have I2 := Lib.hid (hP2.far _ _ _ (by decide) (by decide) I1.out)
  have P2 := Lib.hid (hP2.from_ P1.out.far)
  clear hP2
  obtain ⟨L, hL⟩ : ∃ n, m.srcs.length = n := ⟨_, rfl⟩
  have HL := Lib.hid hL
  rw [hL] at hl hc
  obtain ⟨m0, m1, m2, m3, m4, m5, m6, m7⟩ := cls_cells I2.out
  rw [hL] at m7
  clear hL
  go_wp2
  go_loopw [23] (fun i wx => ∃ k : Nat, k ≤ L ∧ i = .int .i64 k ∧ Pw b B ((((d ++ digs 8 m.srcs.length) ++ digs 6 m.exp) ++ digs 18 m.mant) ++ (m.srcs.take k).flatMap (digs 32)) w wB wx) (fun i _ => L - (intOf i).toNat)
  case atStart => exact ⟨0, by omega, rfl, by simpa using P2.out⟩
  case round =>
    obtain ⟨k, hk, rfl, hPk⟩ := hrel
    have PK := Lib.hid hPk
    clear hPk P1 m0 m1 m2 m3 m4 m5 m6 m7
    by_cases hlt : k < L
    · have zk : (k : Int) < (L : Int) := by omega
      have hko : k < m.srcs.length := by rw [HL.out]; exact hlt
      obtain ⟨q, o, rfl, hcc⟩ := HHH.out (by rw [nats_length]; omega)
      obtain ⟨p, hp⟩ : ∃ p, m.srcs[k]? = some p := ⟨_, List.getElem?_eq_getElem hko⟩
      have hcp := hcc k (by rw [nats_length]; exact hko)
      rw [show (nats m.srcs)[k]'(by rw [nats_length]; exact hko) = (p : Int) by simp [nats]; exact_mod_cast (List.getElem?_eq_some_iff.1 hp).2] at hcp
      have hq : q < wB.heap.size := World.block_lt_of_cell? wB _ hcp
      have d0 := (PK.out.old.cell (p := ⟨q, o + k, none⟩) hq (by show ¬ B ≤ q; omega)).trans hcp
      have hpf := HFF.out p (List.mem_of_getElem? hp)
      have HSN := Lib.hid (flat_take (digs 32) m.srcs k p hp)
      have HFL := Lib.hid (show ((((d ++ digs 8 m.srcs.length) ++ digs 6 m.exp) ++ digs 18 m.mant) ++ (m.srcs.take k).flatMap (digs 32)).length ≤ 1000000000 from by simp only [List.length_append, digs_length, srcsD_len, List.length_take]; have := HD.out; omega)
      have HPF := Lib.hid hpf
      have wx : IntKind.u64.wrap (p : Int) = (p : Int) := by rw [IntKind.wrap_u64]; omega
      clear hcp hcc hp hko
      go_wp2_with fail
      refine (pw_put 32 PK.out (by have := HPF.out; omega) HFL.out).mono ?_
      rintro e w3 ⟨rfl, hP3⟩
      have P3 := Lib.hid (show Pw b B ((((d ++ digs 8 m.srcs.length) ++ digs 6 m.exp) ++ digs 18 m.mant) ++ (m.srcs.take (k + 1)).flatMap (digs 32)) w wB w3 from by rw [HSN.out, ← List.append_assoc]; exact hP3)
      clear hP3
      go_wp2
      exact ⟨⟨k + 1, by omega, by go_num, P3.out⟩, by simp [intOf]; omega⟩
    · obtain rfl : k = L := by omega
      have hp := PK.out
      rw [List.take_of_length_le (by rw [HL.out]; exact Nat.le_refl _)] at hp
      have HPE := Lib.hid (show Pw b B (d ++ rateD m) w wB wr from by unfold rateD; simpa only [List.append_assoc] using hp)
      clear hp
      go_wp2
      go_end0
      exact ⟨rfl, HPE.out⟩
end Go.Proofs.Ytoibllmijkggnaa
