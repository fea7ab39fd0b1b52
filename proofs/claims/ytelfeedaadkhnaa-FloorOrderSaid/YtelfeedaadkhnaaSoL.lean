/- slices.Sort of numbers of 32 digits, fewer than 50. Conditions: as it says. -/
import Derived.Test.YtelfeedaadkhnaaSoK
set_option linter.unusedVariables false
set_option linter.unusedSimpArgs false
namespace Go.Proofs.Ytelfeedaadkhnaa
open Go Go.RowKit

theorem mv_perm {N : Nat} {f f' : Nat → Nat} (h : Mv 0 N f f') : ((List.range N).map f').Perm ((List.range N).map f) := by
  obtain ⟨s, t, h1, h2, h3, h4⟩ := h
  have hlt : ∀ k, k < N → s k < N := fun k hk => by
    rcases Nat.lt_or_ge (s k) N with h | h
    · exact h
    · have e := h4 (s k) (.inr h)
      have := congrArg t e
      rw [h3, h3] at this
      omega
  have ht : ∀ k, k < N → t k < N := fun k hk => by
    rcases Nat.lt_or_ge (t k) N with h | h
    · exact h
    · have e := h4 (t k) (.inr h)
      rw [h2] at e
      omega
  have hp : ((List.range N).map s).Perm (List.range N) := by
    refine (List.perm_ext_iff_of_nodup ?_ List.nodup_range).2 (fun k => ?_)
    · refine List.pairwise_map.2 (List.nodup_range.imp (fun hne e => hne ?_))
      have := congrArg t e
      rwa [h3, h3] at this
    · simp only [List.mem_map, List.mem_range]
      constructor
      · rintro ⟨j, hj, rfl⟩
        exact hlt j hj
      · intro hk
        exact ⟨t k, ht k hk, h2 k⟩
  have e : (List.range N).map f' = ((List.range N).map s).map f := by
    rw [List.map_map]
    exact List.map_congr_left (fun k _ => h1 k)
  rw [e]
  exact hp.map f
theorem srt_pair {N : Nat} {f : Nat → Nat} (h : Srt 0 N f) : ((List.range N).map f).Pairwise (fun a b => a ≤ b) := by
  rw [List.pairwise_map]
  have : (List.range N).Pairwise (fun i j => i < j ∧ j < N) := by
    rw [List.pairwise_iff_getElem]
    intro i j hi hj hij
    simp at hi hj ⊢
    omega
  exact this.imp (fun ⟨h1, h2⟩ => h _ _ (Nat.zero_le _) h1 h2)
theorem list_fn (l : List Nat) : (List.range l.length).map (fun i => l.getD i 0) = l := by
  apply List.ext_getElem
  · simp
  · intro i h1 h2
    simp at h1 ⊢
    simp [h1]
set_option maxRecDepth 100000 in
set_option maxHeartbeats 1000000 in
theorem ins_nil (w : World) : Calls Try.prog 66 #[.slice none 0 0, .int .i64 0, .int .i64 0] w fun e w' => e = .returned (.tuple #[]) ∧ w = w' := by
  go_enter Try.func66, Try.ntmps66
  go_wp2
  go_loopw [6] (fun s6 wr => s6 = .int .i64 1 ∧ w = wr) (fun _ _ => 0)
  case atStart => exact ⟨rfl, rfl⟩
  case round =>
    obtain ⟨rfl, rfl⟩ := hrel
    go_wp2
    go_end0
    exact ⟨rfl, rfl⟩
set_option maxRecDepth 100000 in
set_option maxHeartbeats 1000000 in
theorem pdq_nil (z : Int) (w : World) : Calls Try.prog 64 #[.slice none 0 0, .int .i64 0, .int .i64 0, .int .i64 z] w fun e w' => e = .returned (.tuple #[]) ∧ w = w' := by
  go_enter Try.func64, Try.ntmps64
  go_wp2
  go_loopw [1, 2] (fun s1 s2 wr => s1 = .int .i64 0 ∧ s2 = .int .i64 0 ∧ w = wr) (fun _ _ _ => 0)
  case atStart => exact ⟨rfl, rfl, rfl⟩
  case round =>
    obtain ⟨rfl, rfl, rfl⟩ := hrel
    go_wp2_with fail
    refine (ins_nil _).mono ?_
    rintro e w1 ⟨rfl, rfl⟩
    go_wp2
    exact bodyPost_ret (v := .tuple #[]) (by simp [results, Try.results64]) rfl ⟨rfl, rfl⟩
/-- Sort's answer: the same numbers, none less than the one ahead of it. -/
def Sorted (B : Nat) (v : Value) (l : List Nat) (w : World) (e : Ending) (w' : World) : Prop := e = .returned (.tuple #[]) ∧ ∃ l', OwnS w' B 30 1 v (rows32 l') ∧ l'.Perm l ∧ l'.Pairwise (fun a b => a ≤ b) ∧ Only (fun k => v.ownBlock = some k) w w'
set_option maxRecDepth 100000 in
set_option maxHeartbeats 1000000 in
theorem sort_is (B : Nat) (v : Value) (l : List Nat) (w : World) (hv : OwnS w B 30 1 v (rows32 l)) (hl : l.length < 50) : Calls Try.prog 58 #[v] w (Sorted B v l w) := by
  obtain ⟨N, hN⟩ : ∃ N, l.length = N := ⟨_, rfl⟩
  have hlen : IntKind.u64.wrap (N : Int) = (N : Int) := by rw [IntKind.wrap_u64]; omega
  rcases hv.1.2 with ⟨rfl, h0⟩ | ⟨g, cap, cur, hvs, -⟩
  · have hl0 : l = [] := List.eq_nil_of_length_eq_zero (by rw [rows32_length] at h0; exact h0)
    subst hl0
    have HV := Lib.hid hv
    have h00 : Lib.bitLen 0 = 0 := rfl
    clear hv h0
    go_enter Try.func58, Try.ntmps58
    go_wp2_with fail
    refine (show Calls Try.prog 65 #[.int .u64 0] w _ from len_is 0 w (by decide)).mono ?_
    rintro e w1 ⟨rfl, rfl⟩
    go_wp2_with fail
    refine (pdq_nil _ _).mono ?_
    rintro e w2 ⟨rfl, rfl⟩
    go_wp2
    go_end0
    exact ⟨rfl, [], HV.out, List.Perm.refl _, List.Pairwise.nil, Only.refl _ _⟩
  · subst hvs
    rw [rows32_length, hN] at hv ⊢
    have HR := Lib.hid (show Rw B g cap N (fun i => l.getD i 0) w w from ⟨by rw [← hN, list_fn, hN]; exact hv, Only.refl _ _⟩)
    have hb := Lib.bitLen_le N 64 (by decide) (by omega)
    have HL := Lib.hid (len_is N w (by omega))
    obtain ⟨d, hd⟩ : ∃ d, Lib.bitLen N = d := ⟨_, rfl⟩
    rw [hd] at hb HL
    have HN := Lib.hid hN
    clear hd hv
    go_enter Try.func58, Try.ntmps58
    go_wp2_with fail
    refine HL.out.mono ?_
    rintro e w1 ⟨rfl, rfl⟩
    go_wp2_with fail
    refine (show Calls Try.prog 64 #[.slice (some ⟨g, 0, none⟩) N cap, .int .i64 0, .int .i64 (N : Int), .int .i64 (d : Int)] w1 _ from pdq_is B g cap N (by omega) N 0 N d (fun i => l.getD i 0) w1 (by omega) (by omega) (by omega) (by omega) HR.out (fun h => absurd h (by decide))).mono ?_
    rintro e w2 ⟨rfl, f2, h1, h2, h3⟩
    have H2 := Lib.hid (And.intro h1 (And.intro h2 h3))
    clear h1 h2 h3
    go_wp2
    go_end0
    obtain ⟨h1, h2, h3⟩ := H2.out
    refine ⟨rfl, _, h1.own, ?_, srt_pair h3, h1.only.mono (fun k _ e => by rw [e]; rfl)⟩
    have := mv_perm h2
    rwa [← HN.out, list_fn, HN.out] at this
end Go.Proofs.Ytelfeedaadkhnaa
