/- Contributors, as Parse takes them. Conditions: as each says. -/
import Derived.Test.YtcgfmjdlningpaaRtpE
set_option linter.unusedVariables false
namespace Go.Proofs.Ytcgfmjdlningpaa
open Go.RowKit

/-- Numbers of 32 digits as cells. -/
def cells32 (xs : List Nat) : List Value := xs.map fun (x : Nat) => Value.int .u32 (x : Int)
theorem length_cells32 (xs : List Nat) : (cells32 xs).length = xs.length := by simp [cells32]
theorem cells32_append (a b : List Nat) : cells32 (a ++ b) = cells32 a ++ cells32 b := by simp [cells32]
/-- The first so many contributors. -/
def csrcOf (bs : List Nat) : Nat → List Nat
  | 0 => []
  | n + 1 => csrcOf bs n ++ [be ((bs.drop (4 * n)).take 4)]
theorem csrcOf_length (bs : List Nat) (n : Nat) : (csrcOf bs n).length = n := by
  induction n with
  | zero => rfl
  | succ n ih => simp [csrcOf, ih]
theorem Try.infoU32 : (Try.prog.info? 26).map (fun i => (i.zero, i.size, i.bytes)) = some (some (.int .u32 0), 1, 4) := by kernel_rfl

set_option maxRecDepth 100000 in
set_option maxHeartbeats 400000 in
theorem csrc_none (A : Option Addr) (L c n : Nat) (w : World) (h : L < 4 * n) (hn : n ≤ 15) : Calls Try.prog 54 #[.int .i64 n, .slice A L c] w fun e w' => e = .returned (.tuple #[.slice none 0 0, .slice none 0 0, .bool false]) ∧ w = w' := by
  go_enter Try.func54, Try.ntmps54
  go_wp2
  go_ret3
  exact ⟨rfl, rfl⟩

/-- Contributors, and what stands behind them. -/
def GotCsrc (w : World) (bs : List Nat) (n : Nat) (e : Ending) (w' : World) : Prop :=
  ∃ vc vb, e = .returned (.tuple #[vc, vb, .bool true]) ∧ w'.ownsRow w.heap.size 26 1 vc n (cells32 (csrcOf bs n)) ∧ Src w vb (bs.drop (4 * n)) ∧ Pure w w'

set_option maxRecDepth 100000 in
set_option maxHeartbeats 400000 in
theorem csrc_zero (v : Value) (bs : List Nat) (w : World) (h : Src w v bs) : Calls Try.prog 54 #[.int .i64 0, v] w (GotCsrc w bs 0) := by
  have HS := Lib.hid h
  have fin : ∀ u n, Src w u bs → GotCsrc w bs 0 (.returned (.tuple #[.slice none 0 0, u, .bool true])) (w.drewN n) := fun u n hu => ⟨_, _, rfl, World.ownsRow_nil _ _ _ _, by simpa using hu, (Only.refl _ _).drewN _⟩
  have HF := Lib.hid fin
  clear fin
  rcases h with ⟨rfl, rfl⟩ | ⟨a, c, rfl, hc, _⟩
  · go_enter Try.func54, Try.ntmps54
    go_wp2
    go_loopw [4, 14] (fun cv i wr => cv = .slice none 0 0 ∧ i = .int .i64 0 ∧ w = wr) (fun _ _ _ => 0)
    case atStart => exact ⟨rfl, rfl, rfl⟩
    case round =>
      obtain ⟨rfl, rfl, rfl⟩ := hrel
      go_wp2
      go_quiet (fail)
      go_wp2
      go_ret3
      exact HF.out _ _ HS.out
  · generalize bs.length = L at *
    by_cases h0 : c = 0
    · subst h0
      obtain rfl : L = 0 := by omega
      go_enter Try.func54, Try.ntmps54
      go_wp2
      go_loopw [4, 14] (fun cv i wr => cv = .slice none 0 0 ∧ i = .int .i64 0 ∧ w = wr) (fun _ _ _ => 0)
      case atStart => exact ⟨rfl, rfl, rfl⟩
      case round =>
        obtain ⟨rfl, rfl, rfl⟩ := hrel
        go_wp2
        go_quiet (fail)
        go_wp2
        go_ret3
        exact HF.out _ _ HS.out
    · have ha : a.add 0 = a := by simp [Addr.add]
      go_enter Try.func54, Try.ntmps54
      go_wp2
      go_loopw [4, 14] (fun cv i wr => cv = .slice none 0 0 ∧ i = .int .i64 0 ∧ w = wr) (fun _ _ _ => 0)
      case atStart => exact ⟨rfl, rfl, rfl⟩
      case round =>
        obtain ⟨rfl, rfl, rfl⟩ := hrel
        go_wp2
        go_quiet (fail)
        go_wp2
        go_ret3
        exact HF.out _ _ HS.out

theorem _root_.Go.World.ownsRow.drewN {w : World} {B n : Nat} {t : TypeId} {v : Value} {xs : List Value} (h : w.ownsRow B t 1 v n xs) (m : Nat) : (w.drewN m).ownsRow B t 1 v n xs := h
theorem csrc_only {w wr w1 w2 : World} {v : Value} {n : Nat} {t : TypeId} {xs : List Value} {o : Obj} (h : Pure w wr) (h1 : Pure wr w1) (hw : wr.ownsRow w.heap.size t 1 v n xs) (hg : (w1.alloc o).grownBy w2 v.ownBlock) : Pure w w2 := by
  refine (h.trans h1 (fun _ _ e => e)).trans (T := fun k => v.ownBlock = some k) (((Only.refl _ w1).alloc _).grown hg (fun i e _ => e)) ?_
  intro i hi e
  have := (hw.lt i e).1
  omega

set_option maxRecDepth 100000 in
set_option maxHeartbeats 1000000 in
theorem csrc_some (v : Value) (bs : List Nat) (n : Nat) (w : World) (h : Src w v bs) (hb : ∀ x ∈ bs, x < 256) (hl : bs.length ≤ 1000000) (hn0 : 0 < n) (hn : n ≤ 15) (he : 4 * n ≤ bs.length) :
    Calls Try.prog 54 #[.int .i64 n, v] w (GotCsrc w bs n) := by
  obtain ⟨g, o, c, rfl, hlc, hc⟩ := h.cap (by omega)
  obtain ⟨i0, hi, hz0, hz1, hz2⟩ := info_parts Try.infoU32
  have HC := Lib.hid hc
  have HB := Lib.hid hb
  clear hb hc h
  obtain ⟨L, hL⟩ : ∃ L, bs.length = L := ⟨_, rfl⟩
  rw [hL] at hl hlc he ⊢
  have HL := Lib.hid hL
  clear hL
  have hend : (c = 4 * n) ∨ ¬ (c = 4 * n) := Classical.em _
  have b1 : (4 * (n : Int)).toNat = 4 * n := by omega
  have b2 : (0 : Int) ≤ 4 * (n : Int) := by omega
  have b3 : (4 * (n : Int)) ≤ (L : Int) := by omega
  have b4 : IntKind.i64.wrap (4 * (n : Int)) = 4 * (n : Int) := IntWalk.i64_in _ (by omega)
  rcases hend with hend | hend
  all_goals
    have HEND := Lib.hid hend
    clear hend
    go_enter Try.func54, Try.ntmps54
    go_wp2
    go_loopw [4, 14] (fun cv i wr => ∃ k : Nat, k ≤ n ∧ i = .int .i64 k ∧ wr.ownsRow w.heap.size 26 1 cv k (cells32 (csrcOf bs k)) ∧ Pure w wr) (fun _ i _ => n - (intOf i).toNat)
    case atStart => exact ⟨0, by omega, rfl, World.ownsRow_nil _ _ _ _, Only.refl _ _⟩
    case round =>
      obtain ⟨k, hk, rfl, hown, ho⟩ := hrel
      have HW := Lib.hid hown
      have HO := Lib.hid ho
      clear hown ho
      by_cases hlt : k < n
      · have HN := Lib.hid (number4 bs (4 * k) g o 0 (c - 4 * k) wr HB.out (cells_pure HC.out HO.out) (by rw [HL.out]; omega))
        have hx := be4_lt bs (4 * k) HB.out (by rw [HL.out]; omega)
        have HX := Lib.hid (show csrcOf bs (k + 1) = csrcOf bs k ++ [be ((bs.drop (4 * k)).take 4)] from rfl)
        generalize be ((bs.drop (4 * k)).take 4) = x at *
        have a1 : (4 * (k : Int)).toNat = 4 * k := by omega
        have a2 : (4 * (k : Int) + 4).toNat = 4 * k + 4 := by omega
        have a3 : ¬ (c = 4 * k) := by omega
        have a4 : (4 * (k : Int) + 4) ≤ (c : Int) := by omega
        go_wp2_with fail
        refine HN.out.mono ?_
        rintro e w1 ⟨rfl, ho1⟩
        have HO1 := Lib.hid ho1
        clear ho1 a1 a2 a3 a4
        go_wp2_with (at_builtin; refine wpList_append_own _ rfl (.tmp 17) (.tmp 26) 27 rfl w.heap.size 26 i0 (.int .u32 0) 1 4 Try.underlying27 hi hz0 hz1 hz2 rfl (by decide) _ k (cells32 (csrcOf bs k)) rfl ((HW.out.pure HO1.out (by simp)).alloc _) ⟨w1.heap.size, 0, none⟩ 1 1 [.int .u32 (x : Int)] rfl rfl (cell_one_new _ _ _) (by simp [Value.oneCell']) (by unfold maxLen; omega) (by omega) (by have := HO.out.size; have := HO1.out.size; simp; omega) ?_)
        intro v' w2 hown2 hg2 _
        have HW2 := Lib.hid (show w2.ownsRow w.heap.size 26 1 v' (k + 1) (cells32 (csrcOf bs (k + 1))) by rw [HX.out, cells32_append]; exact hown2)
        have HO2 := Lib.hid (csrc_only HO.out HO1.out HW.out hg2)
        clear hown2 hg2
        go_wp2
        go_roundw
        case rel => exact ⟨k + 1, by omega, by go_num, HW2.out, HO2.out⟩
        case measure => simp [intOf]; omega
      · have hkn : k = n := by omega
        subst hkn
        have hend := HEND.out
        go_wp2
        go_quiet (fail)
        go_wp2
        go_ret3
        first
          | exact ⟨_, _, rfl, HW.out.drewN _, src_drop (4 * k) HC.out (by rw [HL.out]; omega) (by rw [HL.out]) (by rw [HL.out]; omega), HO.out.drewN _⟩
          | exact ⟨_, _, rfl, HW.out.drewN _, src_nil rfl (by omega) (List.drop_eq_nil_of_le (by rw [HL.out]; omega)), HO.out.drewN _⟩
end Go.Proofs.Ytcgfmjdlningpaa
