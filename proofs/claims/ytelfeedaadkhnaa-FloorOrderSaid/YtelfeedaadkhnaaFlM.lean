/- floor: a floor between calls; the chapter's examples. Conditions: as each says. -/
import Derived.Test.YtelfeedaadkhnaaFlL
set_option linter.unusedVariables false
set_option linter.unusedSimpArgs false
namespace Go.Proofs.Ytelfeedaadkhnaa
open Go Go.RowKit

/-- A floor between calls: nothing that was there is written; blocks that are no part of it. -/
def Fs (w : World) (b mb : Nat) (m : Fl) (S : Nat → Prop) (wx : World) : Prop := ∃ vw vg, Flr wx w.heap.size b mb m vw vg ∧ Only (fun _ => False) w wx ∧ ∀ k, S k → k < wx.heap.size ∧ ¬ Foot b mb vw vg k
section
variable {w wx wy : World} {b mb : Nat} {m m' : Fl} {S : Nat → Prop}
theorem Fs.only (h : Fs w b mb m S wx) : Only (fun _ => False) w wx := by
  obtain ⟨_, _, _, h, _⟩ := h
  exact h
theorem Fs.go (h : Fs w b mb m S wx) (ho : Only (fun _ => False) wx wy) : Fs w b mb m S wy := by
  obtain ⟨vw, vg, h1, h2, h3⟩ := h
  exact ⟨vw, vg, h1.pure ho, h2.trans ho (fun _ _ e => e), fun k hk => ⟨Nat.lt_of_lt_of_le (h3 k hk).1 ho.size, (h3 k hk).2⟩⟩
theorem Fs.sub (h : Fs w b mb m S wx) {T : Nat → Prop} (hT : ∀ k, T k → S k) : Fs w b mb m T wx := by
  obtain ⟨vw, vg, h1, h2, h3⟩ := h
  exact ⟨vw, vg, h1, h2, fun k hk => h3 k (hT k hk)⟩
/-- New blocks are no part of it. -/
theorem Fs.more (h : Fs w b mb m S wx) {T : Nat → Prop} (ho : Only (fun _ => False) wx wy) (hT : ∀ k, T k → S k ∨ wx.heap.size ≤ k ∧ k < wy.heap.size) : Fs w b mb m T wy := by
  obtain ⟨vw, vg, h1, h2, h3⟩ := h
  refine ⟨vw, vg, h1.pure ho, h2.trans ho (fun _ _ e => e), fun k hk => ?_⟩
  rcases hT k hk with h | ⟨h4, h5⟩
  · exact ⟨Nat.lt_of_lt_of_le (h3 k h).1 ho.size, (h3 k h).2⟩
  · exact ⟨h5, fun hf => by have := (h1.foot hf).2; omega⟩
/-- A call of it. -/
theorem fs_of {f : Nat} {args : Array Value} {v : Value} (h : Fs w b mb m S wx) (H : ∀ vw vg, Flr wx w.heap.size b mb m vw vg → Calls Try.prog f args wx (DoneT v wx w.heap.size b mb vw vg m')) :
    Calls Try.prog f args wx fun e w' => e = .returned v ∧ Fs w b mb m' S w' ∧ Only (fun k => ¬ S k) wx w' := by
  obtain ⟨vw, vg, h1, h2, h3⟩ := h
  refine (H vw vg h1).mono ?_
  rintro e w' ⟨rfl, vw', vg', h4, h5, h6⟩
  refine ⟨rfl, ⟨vw', vg', h4, h2.trans h5 (fun i hi hf => absurd (h1.foot hf).1 (by omega)), fun k hk => ⟨Nat.lt_of_lt_of_le (h3 k hk).1 h5.size, fun hf => ?_⟩⟩, h5.mono (fun k _ hf hk => (h3 k hk).2 hf)⟩
  rcases h6 k hf with h | h
  · exact (h3 k hk).2 h
  · have := (h3 k hk).1
    omega
/-- A look at it. -/
theorem fs_look {f : Nat} {args : Array Value} {v : Value} (h : Fs w b mb m S wx) (H : ∀ vw vg, Flr wx w.heap.size b mb m vw vg → Calls Try.prog f args wx (SaysF v wx)) : Calls Try.prog f args wx (SaysF v wx) := by
  obtain ⟨vw, vg, h1, h2, h3⟩ := h
  exact H vw vg h1
end
theorem fs_new {w w' : World} {b mb bound s : Nat} (h : Flr w' w.heap.size b mb (Fl.start bound s) (.slice none 0 0) (.slice none 0 0)) (ho : Only (fun _ => False) w w') : Fs w b mb (Fl.start bound s) (fun _ => False) w' := ⟨_, _, h, ho, fun _ hk => hk.elim⟩

/-- The floors of the examples. -/
def wm0 : Fl := Fl.start 1 5
def wm1 : Fl := (wm0.join 1 false).1
def wm2 : Fl := (wm1.join 2 false).1
def wm3 : Fl := (wm2.join 3 true).1
def wm4 : Fl := (wm3.request 1 0).1
def wm5 : Fl := (wm4.request 2 0).1
def wm6 : Fl := (wm5.request 3 1).1
def wm7 : Fl := (wm6.request 1 1).1
def wm8 : Fl := (wm7.revoke 3 1 2).1
def wm9 : Fl := (wm8.revoke 2 2 2).1
def wm10 : Fl := (wm9.tick 6).1
def wm11 : Fl := (wm10.tick 7).1
theorem wk1 {w wx : World} {b mb : Nat} {S : Nat → Prop} (h : Fs w b mb wm0 S wx) : Calls Try.prog 24 #[ptr b, .int .u32 1, .bool false] wx fun e w' => e = .returned (.int .i64 0) ∧ Fs w b mb wm1 S w' ∧ Only (fun k => ¬ S k) wx w' :=
  fs_of h fun vw vg h => join_is _ b mb 1 false wm0 vw vg wx h (by decide)
theorem wk2 {w wx : World} {b mb : Nat} {S : Nat → Prop} (h : Fs w b mb wm1 S wx) : Calls Try.prog 24 #[ptr b, .int .u32 2, .bool false] wx fun e w' => e = .returned (.int .i64 0) ∧ Fs w b mb wm2 S w' ∧ Only (fun k => ¬ S k) wx w' :=
  fs_of h fun vw vg h => join_is _ b mb 2 false wm1 vw vg wx h (by decide)
theorem wk3 {w wx : World} {b mb : Nat} {S : Nat → Prop} (h : Fs w b mb wm2 S wx) : Calls Try.prog 24 #[ptr b, .int .u32 3, .bool true] wx fun e w' => e = .returned (.int .i64 0) ∧ Fs w b mb wm3 S w' ∧ Only (fun k => ¬ S k) wx w' :=
  fs_of h fun vw vg h => join_is _ b mb 3 true wm2 vw vg wx h (by decide)
theorem wk4 {w wx : World} {b mb : Nat} {S : Nat → Prop} (h : Fs w b mb wm3 S wx) : Calls Try.prog 25 #[ptr b, .int .u32 1, .int .u64 0] wx fun e w' => e = .returned (.int .i64 0) ∧ Fs w b mb wm4 S w' ∧ Only (fun k => ¬ S k) wx w' :=
  fs_of h fun vw vg h => request_is _ b mb 1 0 wm3 vw vg wx h (by decide) (by decide) (by decide) (by decide)
theorem wk5 {w wx : World} {b mb : Nat} {S : Nat → Prop} (h : Fs w b mb wm4 S wx) : Calls Try.prog 25 #[ptr b, .int .u32 2, .int .u64 0] wx fun e w' => e = .returned (.int .i64 0) ∧ Fs w b mb wm5 S w' ∧ Only (fun k => ¬ S k) wx w' :=
  fs_of h fun vw vg h => request_is _ b mb 2 0 wm4 vw vg wx h (by decide) (by decide) (by decide) (by decide)
theorem wk6 {w wx : World} {b mb : Nat} {S : Nat → Prop} (h : Fs w b mb wm5 S wx) : Calls Try.prog 25 #[ptr b, .int .u32 3, .int .u64 1] wx fun e w' => e = .returned (.int .i64 131) ∧ Fs w b mb wm6 S w' ∧ Only (fun k => ¬ S k) wx w' :=
  fs_of h fun vw vg h => request_is _ b mb 3 1 wm5 vw vg wx h (by decide) (by decide) (by decide) (by decide)
theorem wk7 {w wx : World} {b mb : Nat} {S : Nat → Prop} (h : Fs w b mb wm6 S wx) : Calls Try.prog 25 #[ptr b, .int .u32 1, .int .u64 1] wx fun e w' => e = .returned (.int .i64 132) ∧ Fs w b mb wm7 S w' ∧ Only (fun k => ¬ S k) wx w' :=
  fs_of h fun vw vg h => request_is _ b mb 1 1 wm6 vw vg wx h (by decide) (by decide) (by decide) (by decide)
theorem wk8 {w wx : World} {b mb : Nat} {S : Nat → Prop} (h : Fs w b mb wm7 S wx) : Calls Try.prog 26 #[ptr b, .int .u32 3, .int .u32 1, .int .u64 2] wx fun e w' => e = .returned (.int .i64 0) ∧ Fs w b mb wm8 S w' ∧ Only (fun k => ¬ S k) wx w' :=
  fs_of h fun vw vg h => revoke_is _ b mb 3 1 2 wm7 vw vg wx h (by decide) (by decide) (by decide) (by decide)
theorem wk9 {w wx : World} {b mb : Nat} {S : Nat → Prop} (h : Fs w b mb wm8 S wx) : Calls Try.prog 26 #[ptr b, .int .u32 2, .int .u32 2, .int .u64 2] wx fun e w' => e = .returned (.int .i64 134) ∧ Fs w b mb wm9 S w' ∧ Only (fun k => ¬ S k) wx w' :=
  fs_of h fun vw vg h => revoke_is _ b mb 2 2 2 wm8 vw vg wx h (by decide) (by decide) (by decide) (by decide)
theorem wk10 {w wx : World} {b mb : Nat} {S : Nat → Prop} (h : Fs w b mb wm9 S wx) : Calls Try.prog 21 #[ptr b, .int .u64 6] wx fun e w' => e = .returned (.bool false) ∧ Fs w b mb wm10 S w' ∧ Only (fun k => ¬ S k) wx w' :=
  fs_of h fun vw vg h => tick_is _ b mb 6 wm9 vw vg wx h (by decide) (by decide) (by decide) (by decide)
theorem wk11 {w wx : World} {b mb : Nat} {S : Nat → Prop} (h : Fs w b mb wm10 S wx) : Calls Try.prog 21 #[ptr b, .int .u64 7] wx fun e w' => e = .returned (.bool true) ∧ Fs w b mb wm11 S w' ∧ Only (fun k => ¬ S k) wx w' :=
  fs_of h fun vw vg h => tick_is _ b mb 7 wm10 vw vg wx h (by decide) (by decide) (by decide) (by decide)
theorem wh9 {w wx : World} {b mb : Nat} {S : Nat → Prop} (h : Fs w b mb wm9 S wx) : Calls Try.prog 15 #[ptr b] wx (SaysF (.tuple #[gV 2 2 2, .bool true]) wx) := fs_look h fun vw vg h => holder_is _ b mb wm9 vw vg wx h
theorem wh11 {w wx : World} {b mb : Nat} {S : Nat → Prop} (h : Fs w b mb wm11 S wx) : Calls Try.prog 15 #[ptr b] wx (SaysF (.tuple #[gV 0 0 0, .bool false]) wx) := fs_look h fun vw vg h => holder_is _ b mb wm11 vw vg wx h
theorem eq_222 (w : World) : (binOp .eql 48 (.agg #[.int .u64 2, .int .u32 2, .int .u64 2]) (.agg #[.int .u64 2, .int .u32 2, .int .u64 2])).run Try.prog w = .ok (.bool true) w := by kernel_rfl
set_option maxRecDepth 100000 in
set_option maxHeartbeats 8000000 in
theorem works_is (w : World) : Calls Try.prog 7 #[] w (SaysF (.bool true) w) := by
  have HN := Lib.hid (show Calls Try.prog 8 #[.int .i64 1, .int .u64 5] w (Made 1 5 w) from new_yes 1 5 w (by decide) (by decide))
  go_enter Try.func7, Try.ntmps7
  go_wp2_with fail
  refine HN.out.mono ?_
  rintro e w0 ⟨b, mb, rfl, h, ho⟩
  have H := Lib.hid (fs_new h ho)
  clear h ho HN
  go_wp2_with fail
  refine (wk1 H.out).mono ?_
  rintro e w1 ⟨rfl, h, -⟩
  replace H := Lib.hid h
  clear h
  go_wp2_with fail
  refine (wk2 H.out).mono ?_
  rintro e w2 ⟨rfl, h, -⟩
  replace H := Lib.hid h
  clear h
  go_wp2_with fail
  refine (wk3 H.out).mono ?_
  rintro e w3 ⟨rfl, h, -⟩
  replace H := Lib.hid h
  clear h
  go_wp2_with fail
  refine (wk4 H.out).mono ?_
  rintro e w4 ⟨rfl, h, -⟩
  replace H := Lib.hid h
  clear h
  go_wp2_with fail
  refine (wk5 H.out).mono ?_
  rintro e w5 ⟨rfl, h, -⟩
  replace H := Lib.hid h
  clear h
  go_wp2_with fail
  refine (wk6 H.out).mono ?_
  rintro e w6 ⟨rfl, h, -⟩
  replace H := Lib.hid h
  clear h
  go_wp2_with fail
  refine (wk7 H.out).mono ?_
  rintro e w7 ⟨rfl, h, -⟩
  replace H := Lib.hid h
  clear h
  go_wp2_with fail
  refine (wk8 H.out).mono ?_
  rintro e w8 ⟨rfl, h, -⟩
  replace H := Lib.hid h
  clear h
  go_wp2_with fail
  refine (wk9 H.out).mono ?_
  rintro e w9 ⟨rfl, h, -⟩
  replace H := Lib.hid h
  clear h
  go_wp2_with fail
  refine (wh9 H.out).mono ?_
  rintro e w10 ⟨rfl, ho⟩
  replace H := Lib.hid (H.out.go ho)
  clear ho
  go_wp2_with fail
  have HI := Lib.hid (Is.made w10 48 #[.int .u64 2, .int .u32 2, .int .u64 2])
  replace H := Lib.hid (H.out.more (T := fun k => k = w10.heap.size) ((Only.refl (fun _ => False) w10).alloc (.cells #[.int .u64 2, .int .u32 2, .int .u64 2] 48)) (fun k hk => .inr (by simp; omega)))
  refine (wk10 H.out).mono ?_
  rintro e w11 ⟨rfl, h, ho⟩
  replace H := Lib.hid h
  replace HI := Lib.hid (HI.out.only ho (by simp))
  clear h ho
  go_wp2_with fail
  refine (wk11 H.out).mono ?_
  rintro e w12 ⟨rfl, h, ho⟩
  replace H := Lib.hid h
  replace HI := Lib.hid (HI.out.only ho (by simp))
  clear h ho
  go_wp2_with fail
  refine (wh11 H.out).mono ?_
  rintro e w13 ⟨rfl, ho⟩
  replace H := Lib.hid (H.out.go ho)
  replace HI := Lib.hid (HI.out.only ho (by simp))
  clear ho
  have hq := eq_222
  go_upto_region 9 with (fail)
  obtain ⟨w14, hw⟩ : ∃ w14, w14 = w13.alloc (.cells #[.int .u64 0, .int .u32 0, .int .u64 0] 48) := ⟨_, rfl⟩
  replace HI := Lib.hid (show Is w14 w10.heap.size 48 #[.int .u64 2, .int .u32 2, .int .u64 2] from by rw [hw]; exact HI.out.alloc _)
  have HO := Lib.hid (show Only (fun _ => False) w w14 from by rw [hw]; exact H.out.only.alloc _)
  rw [← hw]
  clear hw H
  have hq14 := eq_222 w14
  go_wp2_with (refine wpList_load_midW (op := ⟨some 74, _, _, _, _, _⟩) rfl 48 _ rfl w10.heap.size 0 rfl _ _ (World.rangeAt_of_block HI.out 0 3) Try.underlying48 rfl Try.sizeGr ?_)
  go_ret
  exact ⟨rfl, HO.out⟩
end Go.Proofs.Ytelfeedaadkhnaa
