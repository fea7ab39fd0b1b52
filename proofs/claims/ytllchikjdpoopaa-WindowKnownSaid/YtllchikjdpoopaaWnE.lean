/- A window's missing numbers, gone over by a function to range over. Conditions: as each says. -/
import Derived.RangeFuncBox
import Derived.RangeFuncLeaves
import Derived.Shelf.Abstract
import Derived.WalkKit
import Derived.OwnWalkIn
import Derived.TacticsInMore
import Derived.LoopNIn
import Derived.LoopIn
import Derived.Maps.AppendAt
import Derived.Test.YtllchikjdpoopaaRegL
import Derived.Test.YtllchikjdpoopaaWnD
set_option linter.unusedVariables false
namespace Go.Proofs.Ytllchikjdpoopaa
open Go Go.RowKit Go.Shelf
attribute [local go_sem] Oper.semAt_some

/-- What is missing, from lo up to k. -/
def missTo (f : Nat → Bool) (lo k : Nat) : List Nat := (List.range' lo (k - lo)).filter fun n => !f (n % 1024)
theorem missTo_start (f : Nat → Bool) (lo k : Nat) (h : k ≤ lo) : missTo f lo k = [] := by
  unfold missTo
  rw [show k - lo = 0 by omega]
  rfl
theorem missTo_succ (f : Nat → Bool) (lo k : Nat) (h : lo ≤ k) : missTo f lo (k + 1) = missTo f lo k ++ (if f (k % 1024) then [] else [k]) := by
  unfold missTo
  rw [show k + 1 - lo = (k - lo) + 1 by omega, List.range'_concat, List.filter_append, Nat.one_mul, show lo + (k - lo) = k by omega]
  congr 1
  cases hf : f (k % 1024) <;> simp [hf]
theorem missTo_pre (f : Nat → Bool) (lo k : Nat) (h : lo ≤ k) : ∀ j, missTo f lo k <+: missTo f lo (k + j)
  | 0 => List.prefix_refl _
  | j + 1 => by
    rw [← Nat.add_assoc, missTo_succ f lo (k + j) (by omega)]
    exact (missTo_pre f lo k h j).trans (List.prefix_append _ _)
theorem missTo_lt (f : Nat → Bool) (lo k t : Nat) (h : lo ≤ k) (hk : k < t) (hf : f (k % 1024) = false) : (missTo f lo k).length < (missTo f lo t).length := by
  have h1 := (missTo_pre f lo (k + 1) (by omega) (t - (k + 1))).length_le
  rw [missTo_succ f lo k h, hf, show k + 1 + (t - (k + 1)) = t by omega] at h1
  simp at h1
  omega
theorem onlyN (w : World) (n : Nat) : Only (fun _ => False) w (w.drewN n) := (Only.refl _ w).drewN n
/-- What the iterator reads: a box with the window's place, and the window. -/
def Mem (Bn b : Nat) (m : Wm) (D : Nat → Nat) (W : World) : Prop := Is W Bn 25 #[ptr b] ∧ WIs W b m D
theorem Mem.only {Bn b : Nat} {m : Wm} {D : Nat → Nat} {w w1 : World} (h : Mem Bn b m D w) (ho : Only (fun _ => False) w w1) : Mem Bn b m D w1 := ⟨h.1.only ho (by simp), h.2.only ho (by simp)⟩
theorem Only.grownNone {w w1 : World} (h : Only (fun _ => False) w w1) : w.grownBy w1 none := ⟨h.os, h.tape, h.output, h.size, fun k hk _ => h.same k hk (by simp)⟩
def miss0_A : List (List Nat) := ([] :: [0] :: [] :: [2] :: [3, 2] :: [4, 3, 2] :: [1, 5, 0, 4, 3, 2] :: [6, 1, 0, 2, 3, 4, 5] :: [])
def miss0_kill : List (List Nat) := ([] :: [] :: [] :: [] :: [] :: [] :: [] :: [] :: [])
def miss0_uses : List (List Nat) := ([] :: [] :: [] :: [] :: [] :: [] :: [] :: [] :: [])
noncomputable def miss0_code : Code := ((Try.f32.body.bind (codeRegion 0)).getD .skip)
set_option maxRecDepth 100000 in
set_option maxHeartbeats 4000000 in
theorem miss0_in (Bn b : Nat) (m : Wm) (D : Nat → Nat) (hf : m.Fit) (u0 u2 u3 u4 u5 u6 u7 u8 u9 u10 u11 u12 u13 u14 u15 u16 u17 u18 u19 u20 u21 u22 u23 u24 u25 u26 u27 u28 u29 u30 : Value) (w0 : World) (hM : Mem Bn b m D w0) :
    Code.wp Try.prog miss0_code (fun e a w' => ∃ y4 y5 y6 y7 y8 y9 y10 : Value, a = ⟨(List.toArray (u0 :: .pointer (some ⟨Bn, 0, none⟩) :: u2 :: .int .u64 (if m.low < m.least then (m.least : Int) else (m.low : Int)) :: y4 :: y5 :: y6 :: y7 :: y8 :: y9 :: y10 :: u11 :: u12 :: u13 :: u14 :: u15 :: u16 :: u17 :: u18 :: u19 :: u20 :: u21 :: u22 :: u23 :: u24 :: u25 :: u26 :: u27 :: u28 :: u29 :: u30 :: [])), []⟩ ∧ e = .normal ∧ (Mem Bn b m D w' ∧ Only (fun _ => False) w0 w')) ⟨(List.toArray (u0 :: .pointer (some ⟨Bn, 0, none⟩) :: u2 :: u3 :: u4 :: u5 :: u6 :: u7 :: u8 :: u9 :: u10 :: u11 :: u12 :: u13 :: u14 :: u15 :: u16 :: u17 :: u18 :: u19 :: u20 :: u21 :: u22 :: u23 :: u24 :: u25 :: u26 :: u27 :: u28 :: u29 :: u30 :: [])), []⟩ w0 := by
  conv => arg 2; whnf
  refine wp_region_posts miss0_A [1] [] miss0_kill miss0_uses [] [] [] []
      (some ?v0 :: some (.int .u64 (m.low : Int)) :: some ?v2 :: some ?v3 :: some ?v4 :: some ?v5 :: some ?v6 :: some ?v7 :: [])
      ?T (fun wx => Mem Bn b m D wx ∧ Only (fun _ => False) w0 wx) ?W ?E (by kernel_rfl) (by kernel_rfl) (by kernel_rfl) (fun x => ?hT) ?hF ?hini (Reg.all_ops ?runs) ?pres ?fin
  case W => exact fun j x w' => True
  case E => exact fun _ w' w'' => True
  case hT =>
    simp only [Reg.fillV, Act.put, List.setIfInBounds_toArray, List.set_cons_zero, List.set_cons_succ]
    rfl
  case runs =>
    refine And.intro ?_ ?_
    · refine Reg.ob_pure (fun _ => rfl) rfl rfl rfl rfl (fun x w1 hF => ?_)
      obtain ⟨⟨h1, h2⟩, -⟩ := hF
      have c0 := h1.cell 0
      have c3 := h2.least
      simp at c0
      go_simp
      with_reducible rfl
    refine And.intro ?_ ?_
    · refine Reg.ob_known (fun _ => rfl) rfl rfl (fun x w1 hF hU K hK => ?_)
      obtain ⟨h1, h2⟩ := hF rfl
      go_simp
      refine (lowest_is b m D w1 h1.2 hf).mono ?_
      rintro e w4 ⟨rfl, ho⟩
      exact hK w4 (fun _ _ _ => ⟨h1.only ho, h2.trans ho (fun _ _ e => e)⟩) trivial
    refine And.intro ?_ ?_
    · refine Reg.ob_pure (fun _ => rfl) rfl rfl rfl rfl (fun x w1 hF => ?_)
      obtain ⟨⟨h1, h2⟩, -⟩ := hF
      have c0 := h1.cell 0
      have c3 := h2.least
      simp at c0
      go_simp
      with_reducible rfl
    refine And.intro ?_ ?_
    · refine Reg.ob_pure (fun _ => rfl) rfl rfl rfl rfl (fun x w1 hF => ?_)
      obtain ⟨⟨h1, h2⟩, -⟩ := hF
      have c0 := h1.cell 0
      have c3 := h2.least
      simp at c0
      go_simp
      with_reducible rfl
    refine And.intro ?_ ?_
    · refine Reg.ob_pure (fun _ => rfl) rfl rfl rfl rfl (fun x w1 hF => ?_)
      obtain ⟨⟨h1, h2⟩, -⟩ := hF
      have c0 := h1.cell 0
      have c3 := h2.least
      simp at c0
      go_simp
      with_reducible rfl
    refine And.intro ?_ ?_
    · refine Reg.ob_pure (fun _ => rfl) rfl rfl rfl rfl (fun x w1 hF => ?_)
      obtain ⟨⟨h1, h2⟩, -⟩ := hF
      have c0 := h1.cell 0
      have c3 := h2.least
      simp at c0
      go_simp
      with_reducible rfl
    refine And.intro ?_ ?_
    · refine Reg.ob_pure (fun _ => rfl) rfl rfl rfl rfl (fun x w1 hF => ?_)
      obtain ⟨⟨h1, h2⟩, -⟩ := hF
      have c0 := h1.cell 0
      have c3 := h2.least
      simp at c0
      go_simp
      with_reducible rfl
    refine And.intro ?_ ?_
    · refine Reg.ob_pure (fun _ => rfl) rfl rfl rfl rfl (fun x w1 hF => ?_)
      obtain ⟨⟨h1, h2⟩, -⟩ := hF
      have c0 := h1.cell 0
      have c3 := h2.least
      simp at c0
      go_simp
      with_reducible rfl
    exact trivial
  case hF =>
    exact ⟨hM.only (onlyN _ 1), onlyN _ 1⟩
  case hini =>
    exact trivial
  case pres =>
    intro i hi j hj hc x wx wy hF hE hW
    trivial
  case fin =>
    rintro x w9 hF hU
    repeat apply Exists.intro
    exact ⟨rfl, rfl, hF rfl⟩

set_option maxRecDepth 100000 in
set_option maxHeartbeats 4000000 in
theorem miss0 (Bn b : Nat) (m : Wm) (D : Nat → Nat) (hf : m.Fit) (u0 u2 u3 u4 u5 u6 u7 u8 u9 u10 u11 u12 u13 u14 u15 u16 u17 u18 u19 u20 u21 u22 u23 u24 u25 u26 u27 u28 u29 u30 : Value) (Q : Exit → Act → World → Prop) (w0 : World) (hM : Mem Bn b m D w0)
    (hend : ∀ (y4 y5 y6 y7 y8 y9 y10 : Value) (w' : World), (Mem Bn b m D w' ∧ Only (fun _ => False) w0 w') → Q .normal ⟨(List.toArray (u0 :: .pointer (some ⟨Bn, 0, none⟩) :: u2 :: .int .u64 (if m.low < m.least then (m.least : Int) else (m.low : Int)) :: y4 :: y5 :: y6 :: y7 :: y8 :: y9 :: y10 :: u11 :: u12 :: u13 :: u14 :: u15 :: u16 :: u17 :: u18 :: u19 :: u20 :: u21 :: u22 :: u23 :: u24 :: u25 :: u26 :: u27 :: u28 :: u29 :: u30 :: [])), []⟩ w') :
    Code.wp Try.prog miss0_code Q ⟨(List.toArray (u0 :: .pointer (some ⟨Bn, 0, none⟩) :: u2 :: u3 :: u4 :: u5 :: u6 :: u7 :: u8 :: u9 :: u10 :: u11 :: u12 :: u13 :: u14 :: u15 :: u16 :: u17 :: u18 :: u19 :: u20 :: u21 :: u22 :: u23 :: u24 :: u25 :: u26 :: u27 :: u28 :: u29 :: u30 :: [])), []⟩ w0 := by
  refine wp_mono (miss0_in Bn b m D hf _ _ _ _ _ _ _ _ _ _ _ _ _ _ _ _ _ _ _ _ _ _ _ _ _ _ _ _ _ _ w0 hM) ?_
  rintro e a w' h
  obtain ⟨y4, h⟩ := h
  obtain ⟨y5, h⟩ := h
  obtain ⟨y6, h⟩ := h
  obtain ⟨y7, h⟩ := h
  obtain ⟨y8, h⟩ := h
  obtain ⟨y9, h⟩ := h
  obtain ⟨y10, h⟩ := h
  obtain ⟨h, rfl, hq⟩ := h
  subst h
  exact hend y4 y5 y6 y7 y8 y9 y10 w' hq

set_option maxRecDepth 100000 in
set_option maxHeartbeats 2000000 in
theorem miss1_in (Bn b l : Nat) (m : Wm) (D : Nat → Nat) (hf : m.Fit) (J Jx : List Nat → World → Prop) (W : World)
    (hg : ∀ s A B, J s A → Only (fun _ => False) A B → J s B)
    (hY : ∀ pre x W, J pre W → pre.length < m.miss.length → YieldAt Fence.wide (3 - 1) Try.prog l #[.int .u64 ((x : Nat) : Int)] W fun e W' =>
      (e = .returned (.bool true) ∧ J (pre ++ [x]) W' ∧ (Mem Bn b m D W → Mem Bn b m D W')) ∨ (e = .returned (.bool false) ∧ Jx (pre ++ [x]) W'))
    (hM : Mem Bn b m D W) (h0 : J [] W) :
    CallsIn Fence.wide 3 Try.prog 32 #[.func (.yield l) #[] #[], .pointer (some ⟨Bn, 0, none⟩)] W fun e W' => (∃ v, e = .returned v) ∧
      ((∃ ys, ys = m.miss ∧ J ys W') ∨ (∃ pre, pre <+: m.miss ∧ Jx pre W')) := by
  refine callsIn_of_wp Try.func32 rfl trivial ?_ rfl
  simp only [Try.ntmps32, List.size_toArray, List.length_cons, List.length_nil, Nat.reduceAdd, Nat.reduceSub, Array.replicate_succ, Array.replicate_zero, List.push_toArray, List.append_toArray, List.nil_append, List.cons_append]
  refine wpIn_seq (wpIn_wide.2 ?_)
  refine miss0 Bn b m D hf _ _ _ _ _ _ _ _ _ _ _ _ _ _ _ _ _ _ _ _ _ _ _ _ _ _ _ _ _ _ _ W hM ?_
  rintro y4 y5 y6 y7 y8 y9 y10 w1 ⟨hM1, ho1⟩
  refine show Code.wpIn Fence.wide 3 Try.prog _ _ _ _ from ?_
  have HY := Lib.hid hY
  have HF := Lib.hid hf
  have J1 := Lib.hid (hg _ _ _ h0 ho1)
  have M1 := Lib.hid hM1
  have HG := Lib.hid hg
  have hMI : m.miss = missTo m.f (max m.low m.least) m.top := rfl
  rw [show (if m.low < m.least then (m.least : Int) else (m.low : Int)) = ((max m.low m.least : Nat) : Int) from by split <;> omega]
  have htop := hf.top
  have hlow : m.low ≤ m.top := Nat.sub_le _ _
  have hlst := hf.least
  generalize m.miss = ms at *
  have hlo : max m.low m.least < 18446744073709551616 := by omega
  generalize max m.low m.least = lo at *
  have HMI := Lib.hid hMI
  obtain ⟨t, ht⟩ : ∃ t, m.top = t := ⟨_, rfl⟩
  rw [ht] at htop HMI
  have HT := Lib.hid ht
  clear hY hf h0 ho1 hM1 hM hg hlow hlst hMI ht
  gi_wp2
  gi_loopw [3] (fun p wr => ∃ k : Nat, p = .int .u64 (k : Int) ∧ lo ≤ k ∧ (k ≤ t ∨ k = lo) ∧ Mem Bn b m D wr ∧ J (missTo m.f lo k) wr)
    (fun p wr => t - (intOf p).toNat)
  case atStart => exact ⟨lo, rfl, Nat.le_refl _, .inr rfl, M1.out, by rw [missTo_start _ _ _ (Nat.le_refl _)]; exact J1.out⟩
  case round =>
    obtain ⟨k, rfl, hlk, hkt, hM, hJ⟩ := hrel
    have HM := Lib.hid hM
    have HJ := Lib.hid hJ
    have c0 := hM.1.cell 0
    simp at c0
    have c2 := hM.2.top
    rw [HT.out] at c2
    clear hM hJ M1 J1
    by_cases hlt : k < t
    · have hst : IntKind.u64.wrap ((k : Int) + 1) = ((k + 1 : Nat) : Int) := by rw [IntKind.wrap_u64]; omega
      have HH := Lib.hid (has_is b k m D wr HM.out.2)
      obtain ⟨x, hx⟩ : ∃ x, m.f (k % 1024) = x := ⟨_, rfl⟩
      rw [hx] at HH
      have HSC := Lib.hid (missTo_succ m.f lo k hlk)
      have HLT := Lib.hid (fun h => missTo_lt m.f lo k t hlk hlt h)
      have HPR := Lib.hid (show missTo m.f lo (k + 1) <+: ms from by
        have := missTo_pre m.f lo (k + 1) (by omega) (t - (k + 1))
        rw [show k + 1 + (t - (k + 1)) = t by omega] at this
        rw [HMI.out]
        exact this)
      rw [hx] at HSC HLT
      rw [← HMI.out] at HLT
      cases x
      · obtain ⟨fn, tmps, assign, body, hy, hR⟩ := HY.out _ k wr HJ.out (HLT.out rfl)
        rw [if_neg (by simp)] at HSC
        have HRR := Lib.hid hR
        clear hR
        gi_wp2_with (refine ⟨trivial, ?_⟩; gi_at_call 24; refine (callsIn_wide.2 HH.out).mono ?_; rintro e w' ⟨rfl, rfl⟩)
        refine HRR.out.mono ?_
        rintro e w3 (⟨rfl, hJ3, hk3⟩ | ⟨rfl, hJx3⟩)
        · have J3 := Lib.hid (show J (missTo m.f lo (k + 1)) w3 from by rw [HSC.out]; exact hJ3)
          have M3 := Lib.hid (hk3 HM.out)
          clear hJ3 hk3 c0 c2
          gi_wp2
          go_roundw
          case rel => exact ⟨k + 1, by go_num, by omega, by omega, M3.out, J3.out⟩
          case measure => simp [intOf]; omega
        · have JX := Lib.hid (show Jx (missTo m.f lo (k + 1)) w3 from by rw [HSC.out]; exact hJx3)
          clear hJx3 c0 c2
          gi_wp2
          refine bodyPost_ret (results_none rfl _ _ _) rfl ?_
          exact ⟨⟨_, rfl⟩, .inr ⟨_, HPR.out, JX.out⟩⟩
      · rw [if_pos rfl, List.append_nil] at HSC
        gi_wp2_with (refine ⟨trivial, ?_⟩; gi_at_call 24; refine (callsIn_wide.2 HH.out).mono ?_; rintro e w' ⟨rfl, rfl⟩)
        refine ⟨fun _ h => (by cases h), ?_⟩
        gi_wp2
        go_roundw
        case rel => exact ⟨k + 1, by go_num, by omega, by omega, HM.out, by rw [HSC.out]; exact HJ.out⟩
        case measure => simp [intOf]; omega
    · have hms : ms = missTo m.f lo k := by
        rw [HMI.out]
        rcases hkt with h | rfl
        · obtain rfl : k = t := by omega
          rfl
        · rw [missTo_start _ _ _ (Nat.le_refl _), missTo_start _ _ _ (by omega)]
      have HMS := Lib.hid hms
      clear hms
      gi_wp2
      go_end0
      exact ⟨⟨_, rfl⟩, .inl ⟨ms, rfl, by rw [HMS.out]; exact HJ.out⟩⟩
end Go.Proofs.Ytllchikjdpoopaa
