/- ExtKnown's walk. Conditions: none. -/
import Derived.Test.YtcgfmjdlningpaaExY
import Derived.Test.YtcgfmjdlningpaaLit
set_option linter.unusedVariables false
namespace Go.Proofs.Ytcgfmjdlningpaa
open Go.RowKit

def profC : Array Value := #[.int .u16 48862, .int .u16 4096, .int .u16 4111, .int .u16 4112, .int .u16 4095, .int .u16 0, .int .u16 48863, .int .u16 4103]
theorem prof_at {w : World} {pb : Nat} (h : Is w pb 25 profC) (k : Nat) (hk : k < 8) : ∃ p : Nat, p < 65536 ∧ w.cell? ⟨pb, k, none⟩ = some (.int .u16 (p : Nat)) := by
  have hc := h.cell k
  match k, hk with
  | 0, _ => exact ⟨48862, by decide, hc⟩
  | 1, _ => exact ⟨4096, by decide, hc⟩
  | 2, _ => exact ⟨4111, by decide, hc⟩
  | 3, _ => exact ⟨4112, by decide, hc⟩
  | 4, _ => exact ⟨4095, by decide, hc⟩
  | 5, _ => exact ⟨0, by decide, hc⟩
  | 6, _ => exact ⟨48863, by decide, hc⟩
  | 7, _ => exact ⟨4103, by decide, hc⟩
theorem rdE_nil (w : World) : RdE w (.slice none 0 0) [] := ⟨none, 0, rfl, by simp, fun h => by simp at h⟩
theorem src_none (w : World) : Src w (.slice none 0 0) [] := .inl ⟨rfl, rfl⟩
theorem back_nil (p : Nat) (v : Value) (bs : List Nat) (w : World) (hp : p < 65536) (hs : Src w v bs) (hb : ∀ x ∈ bs, x < 256) (hl : bs.length ≤ 400) :
    Calls Try.prog 6 #[.int .u16 p, .slice none 0 0, v] w fun e w' => e = .returned (.bool true) ∧ Only (fun _ => False) w w' :=
  xback_any p _ [] v bs w hp (rdE_nil w) (by simp) (by simp) (by simp) hs hb (by omega)

def numC : Array Value := #[.int .i64 0, .int .i64 1, .int .i64 2, .int .i64 16, .int .i64 17, .int .i64 255, .int .i64 256]
theorem num_at {w : World} {pb : Nat} (h : Is w pb 3 numC) (k : Nat) (hk : k < 7) : ∃ p : Nat, p ≤ 256 ∧ w.cell? ⟨pb, k, none⟩ = some (.int .i64 (p : Nat)) := by
  have hc := h.cell k
  match k, hk with
  | 0, _ => exact ⟨0, by decide, hc⟩
  | 1, _ => exact ⟨1, by decide, hc⟩
  | 2, _ => exact ⟨2, by decide, hc⟩
  | 3, _ => exact ⟨16, by decide, hc⟩
  | 4, _ => exact ⟨17, by decide, hc⟩
  | 5, _ => exact ⟨255, by decide, hc⟩
  | 6, _ => exact ⟨256, by decide, hc⟩
theorem rdE_two {w : World} {lb : Nat} {x y : El} {vx vy : Value} (h : Is w lb 50 #[.int .u8 (x.id : Nat), vx, .int .u8 (y.id : Nat), vy]) (hx : Src w vx x.data) (hy : Src w vy y.data) :
    RdE w (.slice (some ⟨lb, 0, none⟩) 2 2) [x, y] ∧ RdE w (.slice (some ⟨lb, 0, none⟩) 1 2) [x] := by
  have h0 := h.cell 0
  have h1 := h.cell 1
  have h2 := h.cell 2
  have h3 := h.cell 3
  refine ⟨⟨_, 2, rfl, Nat.le_refl _, fun _ => ⟨lb, 0, rfl, fun i z hz => ?_⟩⟩, ⟨_, 2, rfl, (by simp), fun _ => ⟨lb, 0, rfl, fun i z hz => ?_⟩⟩⟩
  · match i, hz with
    | 0, hz =>
      injection hz with hz
      subst hz
      exact ⟨vx, ⟨h0, h1⟩, hx⟩
    | 1, hz =>
      injection hz with hz
      subst hz
      exact ⟨vy, ⟨h2, h3⟩, hy⟩
    | i + 2, hz => simp at hz
  · match i, hz with
    | 0, hz =>
      injection hz with hz
      subst hz
      exact ⟨vx, ⟨h0, h1⟩, hx⟩
    | i + 1, hz => simp at hz
set_option maxRecDepth 100000 in
set_option maxHeartbeats 8000000 in
theorem xknown_any (w : World) : Calls Try.prog 7 #[] w fun e w' => e = .returned (.bool true) ∧ Only (fun _ => False) w w' := by
  go_enter Try.func7, Try.ntmps7
  go_upto_region 2 with (fail)
  obtain ⟨pb, hpb⟩ : ∃ g, w.heap.size = g := ⟨_, rfl⟩
  generalize hw1 : World.alloc _ _ = w1
  have PR := Lib.hid (show Is w1 w.heap.size 25 profC from by rw [← hw1]; exact Is.made _ _ _)
  have O1 := Lib.hid (show Only (fun _ => False) w w1 from by rw [← hw1]; exact (Only.refl _ w).alloc _)
  rw [hpb] at PR ⊢
  clear hw1 hpb
  go_wp2
  go_loopw [2] (fun i wr => ∃ n : Nat, n ≤ 256 ∧ i = .int .i64 n ∧ Only (fun _ => False) w1 wr) (fun i _ => 256 - (intOf i).toNat)
  case atStart => exact ⟨0, by omega, rfl, Only.refl _ _⟩
  case round =>
    obtain ⟨n, hn, rfl, hpw⟩ := hrel
    have HPW := Lib.hid hpw
    clear hpw
    by_cases hlt : n < 256
    · have zn : (n : Int) < 256 := by omega
      obtain ⟨p, hp, hcp⟩ := prof_at (PR.out.only HPW.out (by simp)) (n % 8) (by omega)
      have HP := Lib.hid hp
      go_upto_region 7 with (fail)
      obtain ⟨g, hg⟩ : ∃ g, wr.heap.size = g := ⟨_, rfl⟩
      generalize hw2 : World.alloc _ _ = w2
      have hsr : ∃ bs : List Nat, bs.length = 12 ∧ (∀ x ∈ bs, x < 256) ∧ Src w2 (.slice (some ⟨wr.heap.size, 0, none⟩) 12 12) bs := by
        rw [← hw2]
        refine src_bytes _ [_, _, _, _, _, _, _, _, _, _, _, _] ?_
        intro e he
        simp only [List.mem_cons, List.mem_nil_iff, or_false] at he
        rcases he with rfl | rfl | rfl | rfl | rfl | rfl | rfl | rfl | rfl | rfl | rfl | rfl <;> omega
      obtain ⟨bs, hbl, hbb, hsrc⟩ := hsr
      have O2 := Lib.hid (only_more HPW.out (show Only (fun _ => False) wr w2 from by rw [← hw2]; exact (Only.refl _ _).alloc _))
      clear hw2
      rw [hg] at hsrc ⊢
      have HS := Lib.hid hsrc
      have HBB := Lib.hid hbb
      have HBL := Lib.hid hbl
      clear hg hsrc hbb hbl hcp hp
      go_wp2
      go_loopw [5] (fun i wx => ∃ k : Nat, k ≤ 15 ∧ i = .int .i64 k ∧ Only (fun _ => False) w2 wx) (fun i _ => 16 - (intOf i).toNat)
      case atStart => exact ⟨0, by omega, rfl, Only.refl _ _⟩
      case round =>
        obtain ⟨k, hk, rfl, hpk⟩ := hrel
        have OX := Lib.hid hpk
        clear hpk
        by_cases hkt : k ≤ 12
        · have zk : (k : Int) ≤ 12 := by omega
          have l4 : k / 4 * 4 ≤ 12 := by omega
          by_cases hk12 : k = 12
          · subst hk12
            have HD := Lib.hid (show bs.drop 12 = [] from List.drop_eq_nil_of_le (by rw [HBL.out]; exact Nat.le_refl _))
            go_wp2_with fail
            refine (xreads_any p _ (bs.take 12) wr HP.out ((src_take HS.out 12 (by have := HBL.out; omega)).only OX.out (by simp)) (fun x hx => HBB.out x (List.mem_of_mem_take hx))).mono ?_
            rintro e w3 ⟨rfl, ho3⟩
            have O3 := Lib.hid (ho3)
            clear ho3
            go_wp2_with fail
            refine (xreads_any 48862 _ (bs.drop 12) w3 (by decide) (Src.of_only (src_nil rfl rfl HD.out) (only_more OX.out O3.out)) (fun x hx => HBB.out x (List.mem_of_mem_drop hx))).mono ?_
            rintro e w4 ⟨rfl, ho4⟩
            have O4 := Lib.hid (only_more O3.out ho4)
            clear ho4
            go_wp2_with fail
            refine (xreads_any 4099 _ (bs.take (12)) w4 (by decide) ((src_take HS.out (12) (by have := HBL.out; omega)).only (only_more OX.out O4.out) (by simp)) (fun x hx => HBB.out x (List.mem_of_mem_take hx))).mono ?_
            rintro e w5 ⟨rfl, ho5⟩
            have O5 := Lib.hid (only_more O4.out ho5)
            clear ho5
            go_wp2_with fail
            refine (back_nil p _ (bs.take 12) w5 HP.out ((src_take HS.out 12 (by have := HBL.out; omega)).only (only_more OX.out O5.out) (by simp)) (fun x hx => HBB.out x (List.mem_of_mem_take hx)) (by rw [List.length_take]; omega)).mono ?_
            rintro e w6 ⟨rfl, ho6⟩
            have O6 := Lib.hid (only_more O5.out ho6)
            clear ho6
            go_wp2_with fail
            refine (back_nil 48862 _ (bs.take (12)) w6 (by decide) ((src_take HS.out (12) (by have := HBL.out; omega)).only (only_more OX.out O6.out) (by simp)) (fun x hx => HBB.out x (List.mem_of_mem_take hx)) (by rw [List.length_take]; omega)).mono ?_
            rintro e w7 ⟨rfl, ho7⟩
            have O7 := Lib.hid (only_more O6.out ho7)
            clear ho7
            have l3 : n % 3 ≤ 2 := by omega
            go_wp2
            exact ⟨⟨12 + 1 + n % 3, by omega, by go_num, only_more OX.out O7.out⟩, by simp [intOf]; omega⟩
          · have hk12' : k < 12 := by omega
            have HSD := Lib.hid (show Src w2 (.slice (some ⟨g, k, none⟩) (12 - k) (12 - k)) (bs.drop k) from by
              have := src_from HS.out k (by have := HBL.out; omega)
              rw [Nat.zero_add] at this
              exact this)
            go_wp2_with fail
            refine (xreads_any p _ (bs.take k) wr HP.out ((src_take HS.out k (by have := HBL.out; omega)).only OX.out (by simp)) (fun x hx => HBB.out x (List.mem_of_mem_take hx))).mono ?_
            rintro e w3 ⟨rfl, ho3⟩
            have O3 := Lib.hid (ho3)
            clear ho3
            go_wp2_with fail
            refine (xreads_any 48862 _ (bs.drop k) w3 (by decide) (Src.of_only HSD.out (only_more OX.out O3.out)) (fun x hx => HBB.out x (List.mem_of_mem_drop hx))).mono ?_
            rintro e w4 ⟨rfl, ho4⟩
            have O4 := Lib.hid (only_more O3.out ho4)
            clear ho4
            go_wp2_with fail
            refine (xreads_any 4099 _ (bs.take (k / 4 * 4)) w4 (by decide) ((src_take HS.out (k / 4 * 4) (by have := HBL.out; omega)).only (only_more OX.out O4.out) (by simp)) (fun x hx => HBB.out x (List.mem_of_mem_take hx))).mono ?_
            rintro e w5 ⟨rfl, ho5⟩
            have O5 := Lib.hid (only_more O4.out ho5)
            clear ho5
            go_wp2_with fail
            refine (back_nil p _ (bs.take k) w5 HP.out ((src_take HS.out k (by have := HBL.out; omega)).only (only_more OX.out O5.out) (by simp)) (fun x hx => HBB.out x (List.mem_of_mem_take hx)) (by rw [List.length_take]; omega)).mono ?_
            rintro e w6 ⟨rfl, ho6⟩
            have O6 := Lib.hid (only_more O5.out ho6)
            clear ho6
            go_wp2_with fail
            refine (back_nil 48862 _ (bs.take (k / 4 * 4)) w6 (by decide) ((src_take HS.out (k / 4 * 4) (by have := HBL.out; omega)).only (only_more OX.out O6.out) (by simp)) (fun x hx => HBB.out x (List.mem_of_mem_take hx)) (by rw [List.length_take]; omega)).mono ?_
            rintro e w7 ⟨rfl, ho7⟩
            have O7 := Lib.hid (only_more O6.out ho7)
            clear ho7
            have l3 : n % 3 ≤ 2 := by omega
            go_wp2
            exact ⟨⟨k + 1 + n % 3, by omega, by go_num, only_more OX.out O7.out⟩, by simp [intOf]; omega⟩
        · have zk : ¬ (k : Int) ≤ 12 := by omega
          go_wp2
          exact ⟨⟨n + 1, by omega, by go_num, only_more O2.out OX.out⟩, by simp [intOf]; omega⟩
    · obtain rfl : n = 256 := by omega
      have T1 := HPW
      go_wp2
      go_loopw [6] (fun i wx => ∃ d : Nat, d ≤ 400 ∧ i = .int .i64 d ∧ Only (fun _ => False) w1 wx) (fun i _ => 400 - (intOf i).toNat)
      case atStart => exact ⟨0, by omega, rfl, T1.out⟩
      case round =>
        obtain ⟨d, hd, rfl, hpw⟩ := hrel
        have HPY := Lib.hid hpw
        clear hpw HPW T1
        by_cases hlt : d < 256
        · have zn : (d : Int) < 256 := by omega
          have zn' : d < 256 := hlt
          go_wp2
          obtain ⟨rb, hrb⟩ : ∃ g, wr.heap.size = g := ⟨_, rfl⟩
          generalize hw2 : World.alloc _ _ = w2
          have RB := Lib.hid (show Is w2 wr.heap.size 3 numC from by rw [← hw2]; exact Is.made _ _ _)
          have O2 := Lib.hid (only_more HPY.out (show Only (fun _ => False) wr w2 from by rw [← hw2]; exact (Only.refl _ wr).alloc _))
          rw [hrb] at RB ⊢
          clear hw2 hrb
          go_loopw [89] (fun i wx => ∃ j : Nat, j ≤ 7 ∧ i = .int .i64 j ∧ Only (fun _ => False) w2 wx) (fun i _ => 7 - (intOf i).toNat)
          case atStart => exact ⟨0, by omega, rfl, Only.refl _ _⟩
          case round =>
            obtain ⟨j, hj, rfl, hpj⟩ := hrel
            have OJ := Lib.hid hpj
            clear hpj
            by_cases hj7 : j < 7
            · have zj : (j : Int) < 7 := by omega
              obtain ⟨m, hm, hcm⟩ := num_at (RB.out.only OJ.out (by simp)) j hj7
              obtain ⟨i0, hi, hz0, hz1, hz2⟩ := info_parts Try.infoU8
              go_upto_region 19 with (at_make; refine wpList_make_full _ rfl _ _ 22 rfl wr.heap.size 5 i0 (.int .u8 0) 1 Try.underlying22 hi hz0 hz1 .i64 .i64 _ _ m rfl rfl rfl rfl (by rw [hz2]; omega) (by unfold maxLen; omega) (Nat.le_refl _) ?_; intro w3 hown hg; have HOWN := Lib.hid hown; have O3 := Lib.hid (Only.grown (Only.refl (fun _ => False) wr) hg (by simp)); clear hown hg)
              obtain ⟨lb, hlb⟩ : ∃ g, w3.heap.size + 1 = g := ⟨_, rfl⟩
              generalize hw6 : World.alloc _ _ = w6
              have O6 := Lib.hid (only_more OJ.out (only_more O3.out (show Only (fun _ => False) w3 w6 from by rw [← hw6]; exact ((Only.refl _ w3).alloc _).alloc _)))
              have hR : RdE w6 (.slice (some ⟨w3.heap.size + 1, 0, none⟩) 2 2) [⟨d, List.replicate m 0⟩, ⟨3, [9]⟩] ∧ RdE w6 (.slice (some ⟨w3.heap.size + 1, 0, none⟩) 1 2) [⟨d, List.replicate m 0⟩] := by
                rw [← hw6]
                have h := HOWN.out
                rw [Nat.mul_one, show (Value.int .u8 0).cells = #[Value.int .u8 0] from rfl, madeU8] at h
                have hs1 : Src w3 (.slice (some ⟨wr.heap.size, 0, none⟩) m m) (List.replicate m 0) := Src.of_own (B := wr.heap.size) (by rw [List.length_replicate]; exact h)
                have hs2 := src_lit w3 [9]
                have hm6 := Is.made (w3.alloc (.cells (cellsOf [9]).toArray 5)) 50 #[.int .u8 (d : Nat), .slice (some ⟨wr.heap.size, 0, none⟩) m m, .int .u8 ((3 : Nat) : Int), .slice (some ⟨w3.heap.size, 0, none⟩) 1 1]
                have e1 : (w3.alloc (.cells (cellsOf [9]).toArray 5)).heap.size = w3.heap.size + 1 := by simp
                rw [e1] at hm6
                exact rdE_two (x := ⟨d, List.replicate m 0⟩) (y := ⟨3, [9]⟩) hm6 (hs1.of_only (((Only.refl _ w3).alloc _).alloc _)) (hs2.of_only ((Only.refl _ _).alloc _))
              rw [hlb] at hR ⊢
              have HR2 := Lib.hid hR.1
              have HR1 := Lib.hid hR.2
              have HDD := Lib.hid zn'
              have HF2 := Lib.hid (show ∀ x ∈ ([⟨d, List.replicate m 0⟩, ⟨3, [9]⟩] : List El), x.id < 256 ∧ ∀ y ∈ x.data, y < 256 from by
                intro x hx
                rcases List.mem_cons.1 hx with rfl | hx
                · exact ⟨zn', fun y hy => by rw [List.eq_of_mem_replicate hy]; decide⟩
                · rw [List.mem_singleton.1 hx]
                  exact ⟨by decide, by decide⟩)
              have HD2 := Lib.hid (show ∀ x ∈ ([⟨d, List.replicate m 0⟩, ⟨3, [9]⟩] : List El), x.data.length ≤ 9223372036854775807 from by
                intro x hx
                rcases List.mem_cons.1 hx with rfl | hx
                · show (List.replicate m 0).length ≤ _
                  rw [List.length_replicate]
                  omega
                · rw [List.mem_singleton.1 hx]
                  decide)
              have HF1 := Lib.hid (show ∀ x ∈ ([⟨d, List.replicate m 0⟩] : List El), x.id < 256 ∧ ∀ y ∈ x.data, y < 256 from fun x hx => HF2.out x (by simp at hx ⊢; exact .inl hx))
              have HD1 := Lib.hid (show ∀ x ∈ ([⟨d, List.replicate m 0⟩] : List El), x.data.length ≤ 9223372036854775807 from fun x hx => HD2.out x (by simp at hx ⊢; exact .inl hx))
              have HPR6 := Lib.hid (PR.out.only (only_more O2.out O6.out) (by simp))
              clear hlb hw6 hR hcm hm HOWN O3 i0 hi hz0 hz1 hz2
              go_wp2
              go_loopw [10] (fun i wx => ∃ k : Nat, k ≤ 8 ∧ i = .int .i64 k ∧ Only (fun _ => False) w6 wx) (fun i _ => 8 - (intOf i).toNat)
              case atStart => exact ⟨0, by omega, rfl, Only.refl _ _⟩
              case round =>
                obtain ⟨k, hk, rfl, hpk⟩ := hrel
                have OK := Lib.hid hpk
                clear hpk
                by_cases hk8 : k < 8
                · have zk : (k : Int) < 8 := by omega
                  obtain ⟨p, hp, hcp⟩ := prof_at (HPR6.out.only OK.out (by simp)) k hk8
                  have HP := Lib.hid hp
                  have CP := Lib.hid hcp
                  have e8 : IntKind.u8.wrap (d : Int) = (d : Int) := by rw [IntKind.wrap_u8]; omega
                  clear hp hcp
                  go_upto_region 22 with (fail)
                  refine wp_region_posts [[], [], [0, 1], [2, 0, 1], [], [3, 4, 2, 0, 1], [5, 3, 4, 2, 0, 1], [6, 5, 3, 4, 2, 0, 1], [7, 6, 5, 3, 4, 2, 0, 1], [7, 6, 5, 3, 4, 2, 0, 1], [8, 9, 7, 6, 5, 3, 4, 2, 0, 1], [10, 7, 8, 9, 6, 5, 3, 4, 2, 0, 1], [7, 6, 5, 3, 4, 2, 0, 1], [12, 7, 6, 5, 3, 4, 2, 0, 1], [7, 6, 5, 3, 4, 2, 0, 1], [14, 7, 6, 5, 3, 4, 2, 0, 1], [11, 13, 15, 7, 10, 8, 9, 6, 5, 3, 4, 2, 0, 1, 12, 14], [16, 7, 11, 13, 15, 10, 8, 9, 6, 5, 3, 4, 2, 0, 1, 12, 14], [7, 17, 6, 5, 3, 4, 2, 0, 1, 16, 11, 13, 15, 10, 8, 9, 12, 14], [18, 16, 7, 17, 6, 5, 3, 4, 2, 0, 1, 11, 13, 15, 10, 8, 9, 12, 14], [19, 18, 16, 7, 17, 6, 5, 3, 4, 2, 0, 1, 11, 13, 15, 10, 8, 9, 12, 14], [19, 18, 16, 7, 17, 6, 5, 3, 4, 2, 0, 1, 11, 13, 15, 10, 8, 9, 12, 14], [20, 21, 19, 18, 16, 7, 17, 6, 5, 3, 4, 2, 0, 1, 11, 13, 15, 10, 8, 9, 12, 14], [22, 19, 20, 21, 18, 16, 7, 17, 6, 5, 3, 4, 2, 0, 1, 11, 13, 15, 10, 8, 9, 12, 14], [19, 18, 16, 7, 17, 6, 5, 3, 4, 2, 0, 1, 11, 13, 15, 10, 8, 9, 12, 14], [23, 24, 19, 22, 20, 21, 18, 16, 7, 17, 6, 5, 3, 4, 2, 0, 1, 11, 13, 15, 10, 8, 9, 12, 14], [25, 19, 23, 24, 22, 20, 21, 18, 16, 7, 17, 6, 5, 3, 4, 2, 0, 1, 11, 13, 15, 10, 8, 9, 12, 14], [19, 26, 18, 16, 7, 17, 6, 5, 3, 4, 2, 0, 1, 11, 13, 15, 10, 8, 9, 12, 14, 25, 23, 24, 22, 20, 21]] [5, 16, 25] [] [[], [], [], [], [], [], [], [], [], [], [], [], [], [], [], [], [], [], [], [], [], [], [], [], [], [], [], []] [[], [], [], [], [], [], [], [], [], [], [], [], [], [], [], [], [], [], [], [], [], [], [], [], [], [], [], []] [] [] [] []
                      [some ?v0, some ?v1, some ?v2, some ?v3, some ?v4, some (.bool true), some ?v6, some ?v7, some ?v8, some ?v9, some ?v10, some ?v11, some ?v12, some ?v13, some ?v14, some ?v15, some (.bool true), some ?v17, some ?v18, some ?v19, some ?v20, some ?v21, some ?v22, some ?v23, some ?v24, some (.bool true), some ?v26, some ?v27]
                      ?T (fun wx => wx.cell? ⟨pb, k, none⟩ = some (.int .u16 (p : Nat)) ∧ RdE wx (.slice (some ⟨lb, 0, none⟩) 2 2) [⟨d, List.replicate m 0⟩, ⟨3, [9]⟩] ∧ RdE wx (.slice (some ⟨lb, 0, none⟩) 1 2) [⟨d, List.replicate m 0⟩] ∧ Only (fun _ => False) w6 wx) ?W ?E (by kernel_rfl) (by kernel_rfl) (by kernel_rfl) (fun x => ?hT) ?hF ?hini (Reg.all_ops ?runs) ?pres ?fin
                  case W => exact fun j x w' => True
                  case E => exact fun _ w' w'' => True
                  case hT =>
                    simp only [Reg.fillV, Act.put, List.setIfInBounds_toArray, List.set_cons_zero, List.set_cons_succ]
                    rfl
                  case runs =>
                    refine And.intro ?_ ?_
                    · refine Reg.ob_pure (fun _ => rfl) rfl rfl rfl rfl (fun x w1 hF => ?_)
                      obtain ⟨hc, -, -, -⟩ := hF
                      go_simp
                      with_reducible rfl
                    refine And.intro ?_ ?_
                    · refine Reg.ob_pure (fun _ => rfl) rfl rfl rfl rfl (fun x w1 hF => ?_)
                      obtain ⟨hc, -, -, -⟩ := hF
                      go_simp
                      with_reducible rfl
                    refine And.intro ?_ ?_
                    · refine Reg.ob_pure (fun _ => rfl) rfl rfl rfl rfl (fun x w1 hF => ?_)
                      obtain ⟨hc, -, -, -⟩ := hF
                      go_simp
                      with_reducible rfl
                    refine And.intro ?_ ?_
                    · refine Reg.ob_pure (fun _ => rfl) rfl rfl rfl rfl (fun x w1 hF => ?_)
                      obtain ⟨hc, -, -, -⟩ := hF
                      go_simp
                      with_reducible rfl
                    refine And.intro ?_ ?_
                    · refine Reg.ob_pure (fun _ => rfl) rfl rfl rfl rfl (fun x w1 hF => ?_)
                      obtain ⟨hc, -, -, -⟩ := hF
                      go_simp
                      with_reducible rfl
                    refine And.intro ?_ ?_
                    · refine Reg.ob_known (fun _ => rfl) rfl rfl (fun x w1 hF hU K hK => ?_)
                      obtain ⟨hc, hr2, hr1, hO⟩ := hF rfl
                      go_simp
                      refine (xputs_any p _ _ 3 w1 HP.out (by decide) hr2 HF2.out (by simp) HD2.out).mono ?_
                      rintro e w7 ⟨rfl, ho⟩
                      exact hK w7 (fun _ _ _ => ⟨(ho.cell (World.block_lt_of_cell? _ _ hc) (by simp)).trans hc, hr2.only ho, hr1.only ho, only_more hO ho⟩) trivial
                    refine And.intro ?_ ?_
                    · refine Reg.ob_pure (fun _ => rfl) rfl rfl rfl rfl (fun x w1 hF => ?_)
                      obtain ⟨hc, -, -, -⟩ := hF
                      go_simp
                      with_reducible rfl
                    refine And.intro ?_ ?_
                    · refine Reg.ob_pure (fun _ => rfl) rfl rfl rfl rfl (fun x w1 hF => ?_)
                      obtain ⟨hc, -, -, -⟩ := hF
                      go_simp
                      with_reducible rfl
                    refine And.intro ?_ ?_
                    · refine Reg.ob_pure (fun _ => rfl) rfl rfl rfl rfl (fun x w1 hF => ?_)
                      obtain ⟨hc, -, -, -⟩ := hF
                      go_simp
                      with_reducible rfl
                    refine And.intro ?_ ?_
                    · refine Reg.ob_pure (fun _ => rfl) rfl rfl rfl rfl (fun x w1 hF => ?_)
                      obtain ⟨hc, -, -, -⟩ := hF
                      go_simp
                      with_reducible rfl
                    refine And.intro ?_ ?_
                    · refine Reg.ob_pure (fun _ => rfl) rfl rfl rfl rfl (fun x w1 hF => ?_)
                      obtain ⟨hc, -, -, -⟩ := hF
                      go_simp
                      with_reducible rfl
                    refine And.intro ?_ ?_
                    · refine Reg.ob_pure (fun _ => rfl) rfl rfl rfl rfl (fun x w1 hF => ?_)
                      obtain ⟨hc, -, -, -⟩ := hF
                      go_simp
                      with_reducible rfl
                    refine And.intro ?_ ?_
                    · refine Reg.ob_pure (fun _ => rfl) rfl rfl rfl rfl (fun x w1 hF => ?_)
                      obtain ⟨hc, -, -, -⟩ := hF
                      go_simp
                      with_reducible rfl
                    refine And.intro ?_ ?_
                    · refine Reg.ob_pure (fun _ => rfl) rfl rfl rfl rfl (fun x w1 hF => ?_)
                      obtain ⟨hc, -, -, -⟩ := hF
                      go_simp
                      with_reducible rfl
                    refine And.intro ?_ ?_
                    · refine Reg.ob_pure (fun _ => rfl) rfl rfl rfl rfl (fun x w1 hF => ?_)
                      obtain ⟨hc, -, -, -⟩ := hF
                      go_simp
                      with_reducible rfl
                    refine And.intro ?_ ?_
                    · refine Reg.ob_pure (fun _ => rfl) rfl rfl rfl rfl (fun x w1 hF => ?_)
                      obtain ⟨hc, -, -, -⟩ := hF
                      go_simp
                      with_reducible rfl
                    refine And.intro ?_ ?_
                    · refine Reg.ob_known (fun _ => rfl) rfl rfl (fun x w1 hF hU K hK => ?_)
                      obtain ⟨hc, hr2, hr1, hO⟩ := hF rfl
                      go_simp
                      refine (xputs_any p _ _ d w1 HP.out HDD.out hr1 HF1.out (by simp) HD1.out).mono ?_
                      rintro e w7 ⟨rfl, ho⟩
                      exact hK w7 (fun _ _ _ => ⟨(ho.cell (World.block_lt_of_cell? _ _ hc) (by simp)).trans hc, hr2.only ho, hr1.only ho, only_more hO ho⟩) trivial
                    refine And.intro ?_ ?_
                    · refine Reg.ob_pure (fun _ => rfl) rfl rfl rfl rfl (fun x w1 hF => ?_)
                      obtain ⟨hc, -, -, -⟩ := hF
                      go_simp
                      with_reducible rfl
                    refine And.intro ?_ ?_
                    · refine Reg.ob_pure (fun _ => rfl) rfl rfl rfl rfl (fun x w1 hF => ?_)
                      obtain ⟨hc, -, -, -⟩ := hF
                      go_simp
                      with_reducible rfl
                    refine And.intro ?_ ?_
                    · refine Reg.ob_pure (fun _ => rfl) rfl rfl rfl rfl (fun x w1 hF => ?_)
                      obtain ⟨hc, -, -, -⟩ := hF
                      go_simp
                      with_reducible rfl
                    refine And.intro ?_ ?_
                    · refine Reg.ob_pure (fun _ => rfl) rfl rfl rfl rfl (fun x w1 hF => ?_)
                      obtain ⟨hc, -, -, -⟩ := hF
                      go_simp
                      with_reducible rfl
                    refine And.intro ?_ ?_
                    · refine Reg.ob_pure (fun _ => rfl) rfl rfl rfl rfl (fun x w1 hF => ?_)
                      obtain ⟨hc, -, -, -⟩ := hF
                      go_simp
                      with_reducible rfl
                    refine And.intro ?_ ?_
                    · refine Reg.ob_pure (fun _ => rfl) rfl rfl rfl rfl (fun x w1 hF => ?_)
                      obtain ⟨hc, -, -, -⟩ := hF
                      go_simp
                      with_reducible rfl
                    refine And.intro ?_ ?_
                    · refine Reg.ob_pure (fun _ => rfl) rfl rfl rfl rfl (fun x w1 hF => ?_)
                      obtain ⟨hc, -, -, -⟩ := hF
                      go_simp
                      with_reducible rfl
                    refine And.intro ?_ ?_
                    · refine Reg.ob_pure (fun _ => rfl) rfl rfl rfl rfl (fun x w1 hF => ?_)
                      obtain ⟨hc, -, -, -⟩ := hF
                      go_simp
                      with_reducible rfl
                    refine And.intro ?_ ?_
                    · refine Reg.ob_known (fun _ => rfl) rfl rfl (fun x w1 hF hU K hK => ?_)
                      obtain ⟨hc, hr2, hr1, hO⟩ := hF rfl
                      go_simp
                      refine (xback_any p _ _ _ [] w1 HP.out hr2 HF2.out (by simp) HD2.out (src_none _) (by simp) (by simp)).mono ?_
                      rintro e w7 ⟨rfl, ho⟩
                      exact hK w7 (fun _ _ _ => ⟨(ho.cell (World.block_lt_of_cell? _ _ hc) (by simp)).trans hc, hr2.only ho, hr1.only ho, only_more hO ho⟩) trivial
                    refine And.intro ?_ ?_
                    · refine Reg.ob_pure (fun _ => rfl) rfl rfl rfl rfl (fun x w1 hF => ?_)
                      obtain ⟨hc, -, -, -⟩ := hF
                      go_simp
                      with_reducible rfl
                    refine And.intro ?_ ?_
                    · refine Reg.ob_pure (fun _ => rfl) rfl rfl rfl rfl (fun x w1 hF => ?_)
                      obtain ⟨hc, -, -, -⟩ := hF
                      go_simp
                      with_reducible rfl
                    exact trivial
                  case hF =>
                    exact ⟨((only_drewN _ 1).cell (World.block_lt_of_cell? _ _ CP.out) (by simp)).trans CP.out, HR2.out.only (only_more OK.out (only_drewN _ 1)), HR1.out.only (only_more OK.out (only_drewN _ 1)), only_more OK.out (only_drewN _ 1)⟩
                  case hini =>
                    exact trivial
                  case pres =>
                    intro i hi j hj hc x w1 w2 hF hE hW
                    trivial
                  case fin =>
                    rintro x w9 hF -
                    replace hF := hF rfl
                    have PU := Lib.hid hF.2.2.2
                    clear hF
                    go_wp2
                    exact ⟨⟨k + 1, by omega, by go_num, PU.out⟩, by simp [intOf]; omega⟩
                · obtain rfl : k = 8 := by omega
                  go_wp2
                  go_roundw
                  case rel =>
                    repeat apply Exists.intro
                    refine ⟨?_, rfl⟩
                    exact ⟨j + 1, by omega, by go_num, only_more O6.out OK.out⟩
                  case measure => simp [intOf]; omega
            · obtain rfl : j = 7 := by omega
              have ld : d / 16 * 7 ≤ 105 := by omega
              go_wp2
              exact ⟨⟨d + 1 + d / 16 * 7, by omega, by go_num, only_more O2.out OJ.out⟩, by simp [intOf]; omega⟩
        · have zn : ¬ (d : Int) < 256 := by omega
          go_wp2_with fail
          refine (xputs_any 48862 _ [] 0 wr (by decide) (by decide) (rdE_nil _) (by simp) (by simp) (by simp)).mono ?_
          rintro e w2 ⟨rfl, ho2⟩
          have O2 := Lib.hid (only_more HPY.out ho2)
          clear ho2
          go_wp2_with fail
          refine (xback_any 4096 _ [] _ [] w2 (by decide) (rdE_nil _) (by simp) (by simp) (by simp) (src_none _) (by simp) (by simp)).mono ?_
          rintro e w3 ⟨rfl, ho3⟩
          have O3 := Lib.hid (only_more O2.out ho3)
          clear ho3
          go_wp2_with fail
          refine (xworks_any _).mono ?_
          rintro e w4 ⟨rfl, ho4⟩
          have O4 := Lib.hid (only_more O3.out ho4)
          clear ho4
          go_wp2
          go_ret
          exact ⟨rfl, only_more O1.out O4.out⟩
theorem xknown_args {W : World} : Calls Try.prog 7 #[] W fun e w' => e = .returned (.bool true) ∧ Below W.heap.size W w' := by
  refine (xknown_any W).mono ?_
  rintro e w' ⟨rfl, ho⟩
  exact ⟨rfl, Only.below ho (fun i hi => hi.elim) (Nat.le_refl _)⟩
end Go.Proofs.Ytcgfmjdlningpaa
