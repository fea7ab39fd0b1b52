/- ext.Parse of any bytes; the chapter's examples. Conditions: as each says. -/
import Derived.Test.YtcgfmjdlningpaaExD
import Derived.Test.YtcgfmjdlningpaaBase
set_option linter.unusedVariables false
namespace Go.Proofs.Ytcgfmjdlningpaa
open Go.RowKit

/-- What a profile and bytes tell. -/
def parR (p : Nat) (bs : List Nat) : Nat × List El := if formB p = 0 then (30, []) else if bs.length % 4 ≠ 0 then (3, []) else exP (formB p == 1) bs
theorem expar_any (p : Nat) (v : Value) (bs : List Nat) (w : World) (hs : Src w v bs) (hb : ∀ x ∈ bs, x < 256) (hp : p < 65536) (hl : bs.length ≤ 100000) :
    Calls Try.prog 25 #[.int .u16 p, v] w (ExParEnd 50 (parR p bs) w) := by
  by_cases hf : formB p = 0
  · have e : parR p bs = (30, []) := by unfold parR; rw [if_pos hf]
    obtain ⟨A, c, h⟩ := hs.slice
    refine (expar_none p v w ⟨A, _, c, h⟩ hp hf).mono ?_
    rintro e' w' ⟨rfl, ho⟩
    rw [e]
    exact ⟨ho, .inl ⟨by decide, rfl⟩⟩
  · by_cases h4 : bs.length % 4 = 0
    · have e : parR p bs = exP (formB p == 1) bs := by unfold parR; rw [if_neg hf, if_neg (by omega)]
      rw [e]
      exact expar_good _ p v bs w hs hb hp hf rfl hl h4
    · have e : parR p bs = (3, []) := by unfold parR; rw [if_neg hf, if_pos h4]
      refine (expar_odd p v bs w hs hp hf (by omega) h4).mono ?_
      rintro e' w' ⟨rfl, ho⟩
      rw [e]
      exact ⟨ho, .inl ⟨by decide, rfl⟩⟩

theorem ex_w1 : exP true [16, 170, 0, 0] = (0, [⟨1, [170]⟩]) := by
  rw [exP_go (by simp) (by decide), show ([16, 170, 0, 0] : List Nat).drop (exLen true [16, 170, 0, 0]) = [0, 0] from by decide, exP_pad (by simp) (by decide), show ([0, 0] : List Nat).drop 1 = [0] from rfl, exP_pad (by simp) (by decide), show ([0] : List Nat).drop 1 = [] from rfl, exP_nil]
  rfl
theorem ex_w2 : exP true [33, 170, 187, 0] = (0, [⟨2, [170, 187]⟩]) := by
  rw [exP_go (by simp) (by decide), show ([33, 170, 187, 0] : List Nat).drop (exLen true [33, 170, 187, 0]) = [0] from by decide, exP_pad (by simp) (by decide), show ([0] : List Nat).drop 1 = [] from rfl, exP_nil]
  rfl
theorem ex_w3 : exP false [5, 0, 2, 2, 170, 187, 0, 0] = (0, [⟨5, []⟩, ⟨2, [170, 187]⟩]) := by
  rw [exP_go (by simp) (by decide), show ([5, 0, 2, 2, 170, 187, 0, 0] : List Nat).drop (exLen false [5, 0, 2, 2, 170, 187, 0, 0]) = [2, 2, 170, 187, 0, 0] from by decide, exP_go (by simp) (by decide), show ([2, 2, 170, 187, 0, 0] : List Nat).drop (exLen false [2, 2, 170, 187, 0, 0]) = [0, 0] from by decide, exP_pad (by simp) (by decide), show ([0, 0] : List Nat).drop 1 = [0] from rfl, exP_pad (by simp) (by decide), show ([0] : List Nat).drop 1 = [] from rfl, exP_nil]
  rfl
theorem ex_w4 : exP true [240, 18, 52, 86] = (0, []) := by rw [exP_end (by simp) (by decide)]
theorem ex_w5 : exP true [0, 0, 0, 19] = (10, []) := by
  rw [exP_pad (by simp) (by decide), show ([0, 0, 0, 19] : List Nat).drop 1 = [0, 0, 19] from rfl, exP_pad (by simp) (by decide), show ([0, 0, 19] : List Nat).drop 1 = [0, 19] from rfl, exP_pad (by simp) (by decide), show ([0, 19] : List Nat).drop 1 = [19] from rfl, exP_short (by simp) (by decide)]
/-- Of bytes that a literal laid just now. -/
theorem par_lit (p : Nat) (bs : List Nat) (l : List El) (n : Nat) (w : World) (hn : bs.length = n) (hp : p < 65536) (hb : ∀ x ∈ bs, x < 256) (hl : n ≤ 1000) (hr : parR p bs = (0, l)) :
    Calls Try.prog 25 #[.int .u16 p, .slice (some ⟨w.heap.size, 0, none⟩) n n] (w.alloc (.cells (cellsOf bs).toArray 5)) fun e w' => ∃ A c, e = .returned (.tuple #[.slice A l.length c, .int .i64 0]) ∧ RdE w' (.slice A l.length c) l ∧ Only (fun _ => False) w w' := by
  subst hn
  refine (expar_any p _ bs _ (src_lit w bs) hb hp (by omega)).mono ?_
  rw [hr]
  rintro e w' ⟨ho, ⟨h, _⟩ | ⟨_, v, vs, rfl, hE⟩⟩
  · exact absurd rfl h
  · obtain ⟨A, c, rfl, _⟩ := hE.slice
    exact ⟨A, c, rfl, hE.rd, ((Only.refl _ w).alloc _).trans ho (fun _ _ e => e)⟩
theorem par_lit_err (p : Nat) (bs : List Nat) (k : Nat) (n : Nat) (w : World) (hn : bs.length = n) (hp : p < 65536) (hb : ∀ x ∈ bs, x < 256) (hl : n ≤ 1000) (hk : k ≠ 0) (hr : parR p bs = (k, [])) :
    Calls Try.prog 25 #[.int .u16 p, .slice (some ⟨w.heap.size, 0, none⟩) n n] (w.alloc (.cells (cellsOf bs).toArray 5)) fun e w' => e = .returned (.tuple #[.slice none 0 0, .int .i64 (k : Nat)]) ∧ Only (fun _ => False) w w' := by
  subst hn
  refine (expar_any p _ bs _ (src_lit w bs) hb hp (by omega)).mono ?_
  rw [hr]
  rintro e w' ⟨ho, ⟨_, rfl⟩ | ⟨h, _⟩⟩
  · exact ⟨rfl, ((Only.refl _ w).alloc _).trans ho (fun _ _ e => e)⟩
  · exact absurd h hk
theorem rd_one {w : World} {A : Option Addr} {c : Nat} {x : El} (h : RdE w (.slice A 1 c) [x]) : ∃ g o u, A = some ⟨g, o, none⟩ ∧ w.cell? ⟨g, o, none⟩ = some (.int .u8 (x.id : Nat)) ∧ w.cell? ⟨g, o + 1, none⟩ = some u ∧ Src w u x.data ∧ 1 ≤ c := by
  obtain ⟨A', c', e, hc, hh⟩ := h
  injection e with e1 e2 e3
  subst e1 e3
  obtain ⟨g, o, rfl, hi⟩ := hh (by simp)
  obtain ⟨u, ⟨q0, q1⟩, hs⟩ := hi 0 x rfl
  exact ⟨g, o, u, rfl, by simpa using q0, by simpa using q1, hs, by simpa using hc⟩
theorem rd_two {w : World} {A : Option Addr} {c : Nat} {x y : El} (h : RdE w (.slice A 2 c) [x, y]) : ∃ g o u t, A = some ⟨g, o, none⟩ ∧ w.cell? ⟨g, o, none⟩ = some (.int .u8 (x.id : Nat)) ∧ w.cell? ⟨g, o + 1, none⟩ = some u ∧ Src w u x.data ∧ w.cell? ⟨g, o + 2, none⟩ = some (.int .u8 (y.id : Nat)) ∧ w.cell? ⟨g, o + 3, none⟩ = some t ∧ Src w t y.data ∧ 2 ≤ c := by
  obtain ⟨A', c', e, hc, hh⟩ := h
  injection e with e1 e2 e3
  subst e1 e3
  obtain ⟨g, o, rfl, hi⟩ := hh (by simp)
  obtain ⟨u, ⟨q0, q1⟩, hs⟩ := hi 0 x rfl
  obtain ⟨t, ⟨q2, q3⟩, ht⟩ := hi 1 y rfl
  exact ⟨g, o, u, t, rfl, by simpa using q0, by simpa using q1, hs, by simpa using q2, by simpa using q3, ht, by simpa using hc⟩

set_option maxRecDepth 100000 in
set_option maxHeartbeats 2000000 in
theorem xworks_any (w : World) : Calls Try.prog 23 #[] w fun e w' => e = .returned (.bool true) ∧ Only (fun _ => False) w w' := by
  go_enter Try.func23, Try.ntmps23
  go_wp2_with fail
  refine (par_lit 48862 [16, 170, 0, 0] [⟨1, [170]⟩] 4 w rfl (by decide) (by decide) (by decide) ex_w1).mono ?_
  rintro e w1 ⟨A1, c1, rfl, hr1, ho1⟩
  have R1 := Lib.hid (show RdE w1 (.slice A1 1 c1) [⟨1, [170]⟩] from hr1)
  have O1 := Lib.hid ho1
  clear hr1 ho1
  go_wp2_with fail
  refine (par_lit 48862 [33, 170, 187, 0] [⟨2, [170, 187]⟩] 4 w1 rfl (by decide) (by decide) (by decide) ex_w2).mono ?_
  rintro e w2 ⟨A2, c2, rfl, hr2, ho2⟩
  have R2 := Lib.hid (show RdE w2 (.slice A2 1 c2) [⟨2, [170, 187]⟩] from hr2)
  have O2 := Lib.hid ho2
  clear hr2 ho2
  go_wp2_with fail
  refine (par_lit 4096 [5, 0, 2, 2, 170, 187, 0, 0] [⟨5, []⟩, ⟨2, [170, 187]⟩] 8 w2 rfl (by decide) (by decide) (by decide) ex_w3).mono ?_
  rintro e w3 ⟨A3, c3, rfl, hr3, ho3⟩
  have R3 := Lib.hid (show RdE w3 (.slice A3 2 c3) [⟨5, []⟩, ⟨2, [170, 187]⟩] from hr3)
  have O3 := Lib.hid ho3
  clear hr3 ho3
  go_wp2_with fail
  refine (par_lit 48862 [240, 18, 52, 86] [] 4 w3 rfl (by decide) (by decide) (by decide) ex_w4).mono ?_
  rintro e w4 ⟨A4, c4, rfl, hr4, ho4⟩
  have O4 := Lib.hid ho4
  clear hr4 ho4
  go_wp2_with fail
  refine (par_lit_err 48862 [0, 0, 0, 19] 10 4 w4 rfl (by decide) (by decide) (by decide) (by decide) ex_w5).mono ?_
  rintro e w5 ⟨rfl, ho5⟩
  have O5 := Lib.hid ho5
  clear ho5
  obtain ⟨g1, o1, u1, rfl, a0, a1, sa, ac⟩ := rd_one (R1.out.only (only_more O2.out (only_more O3.out (only_more O4.out O5.out))))
  obtain ⟨g2, o2, u2, rfl, b0, b1, sb, bc⟩ := rd_one (R2.out.only (only_more O3.out (only_more O4.out O5.out)))
  obtain ⟨g3, o3, u3, t3, rfl, d0, d1, sd, d2, d3, st, dc⟩ := rd_two (R3.out.only (only_more O4.out O5.out))
  obtain ⟨B1, k1, rfl⟩ := sa.slice
  obtain ⟨B2, k2, rfl⟩ := sb.slice
  obtain ⟨B3, k3, rfl⟩ := sd.slice
  obtain ⟨B4, k4, rfl⟩ := st.slice
  have DT := Lib.hid st
  have T5 := Lib.hid (only_more O1.out (only_more O2.out (only_more O3.out (only_more O4.out O5.out))))
  have HSM := Lib.hid (same_is (.slice B4 2 k4) (.slice (some ⟨w5.heap.size, 0, none⟩) 2 2) [170, 187] [170, 187] (w5.alloc (.cells (cellsOf [170, 187]).toArray 5)) (DT.out.only ((Only.refl (fun _ => False) w5).alloc _) (by simp)) (src_lit w5 [170, 187]) (by decide))
  simp at a0 a1 b0 b1 d0 d1 d2 d3
  clear sa sb sd st ac bc dc
  go_wp2_with fail
  refine HSM.out.mono ?_
  rintro e w6 ⟨rfl, n6, rfl⟩
  go_wp2
  go_ret
  exact ⟨rfl, only_more T5.out (((Only.refl _ w5).alloc _).drewN _)⟩
end Go.Proofs.Ytcgfmjdlningpaa
