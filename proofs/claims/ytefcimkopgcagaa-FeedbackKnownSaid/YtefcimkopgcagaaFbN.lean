/- Put of a Pli. Conditions: as each says. -/
import Derived.Test.YtefcimkopgcagaaFbGr
import Derived.Test.YtefcimkopgcagaaBtGr
import Derived.Laws.IdiomStrings
set_option linter.unusedVariables false
namespace Go.Proofs.Ytefcimkopgcagaa
open Go.RowKit

theorem Try.sizeRt : (Try.prog.info? 41).map (·.size) = some 4 := by kernel_rfl
theorem only_as {w w1 : World} {S : Nat → Prop} (h : Only (fun _ => False) w w1) : Only S w w1 := (Only.refl S w).trans h (fun i hi e => e.elim)
theorem Try.sizeMe : (Try.prog.info? 27).map (·.size) = some 8 := by kernel_rfl
def pktZ : Array Value := #[.int .u8 0, .int .u8 0, .slice none 0 0, .int .u8 0]
/-- What goes through Put's middle. -/
structure Pt (a b : Nat) (rb mb sb : Nat) (w wx : World) : Prop where
  im : Is wx mb 27 (pliC a b)
  is : Is wx sb 93 (srtV 2)
  ir : Is wx rb 41 pktZ
  pure : Only (fun _ => False) w wx
theorem Pt.go {a b rb mb sb : Nat} {w wx wy : World} (h : Pt a b rb mb sb w wx) (ho : Only (fun _ => False) wx wy) : Pt a b rb mb sb w wy :=
  ⟨h.im.only ho (by simp), h.is.only ho (by simp), h.ir.only ho (by simp), only_more h.pure ho⟩
theorem fw_is {w1 w2 : World} {b B ob : Nat} {d bs : List Nat} {v : Value} {t : TypeId} {cs : Array Value} (hi : Is w1 ob t cs) (hw : Wr w1 b d bs v B) (h1 : t ≠ 123) (h2 : t ≠ 5) (ho : Only (Mine b v) w1 w2) : Is w2 ob t cs :=
  hi.only ho (fun e => by
    rcases e with e | e
    · exact Is.apart hi hw.is h1 e
    · exact owned_off hw.row hi (fun e => h2 e.symm) e)
theorem fw_pure {w w1 w2 : World} {b B : Nat} {d bs : List Nat} {v : Value} (hw : Wr w1 b d bs v B) (h : Only (fun _ => False) w w1) (hB : w.heap.size ≤ B) (ho : Only (Mine b v) w1 w2) : Only (fun _ => False) w w2 :=
  h.trans ho (fun i hi e => by
    rcases e with rfl | e
    · have := hw.base; omega
    · have := (hw.row.lt i e).1; omega)
theorem Pt.put {a b rb mb sb k B : Nat} {d bs : List Nat} {v : Value} {w wx wy : World} (h : Pt a b rb mb sb w wx) (hw : Wr wx k d bs v B) (hB : w.heap.size ≤ B) (ho : Only (Mine k v) wx wy) : Pt a b rb mb sb w wy :=
  ⟨fw_is h.im hw (by decide) (by decide) ho, fw_is h.is hw (by decide) (by decide) ho, fw_is h.ir hw (by decide) (by decide) ho, fw_pure hw h.pure hB ho⟩
theorem fw_wr {w w1 : World} {b B : Nat} {d bs : List Nat} {v : Value} (h : Wr w b d bs v B) (ho : Only (fun _ => False) w w1) : Wr w1 b d bs v B :=
  ⟨h.is.only ho (by simp), owned_only h.row ho (by simp), h.wrote, h.base⟩
/-- Behind a call of the writer. -/
def FarR (w w1 : World) : Prop := ∀ ob cs, Is w ob 35 cs → Is w1 ob 35 cs
theorem farR_of {w1 w2 : World} {b B : Nat} {d bs : List Nat} {v : Value} (hw : Wr w1 b d bs v B) (ho : Only (Mine b v) w1 w2) : FarR w1 w2 := fun ob cs hi => fw_is hi hw (by decide) (by decide) ho
def pd1 (a : Nat) : List Nat := [] ++ digs (clamp 32) a
def pd2 (a b : Nat) : List Nat := pd1 a ++ digs (clamp 32) b
theorem pd1_len (a : Nat) : (pd1 a).length = 32 := by unfold pd1; rw [List.nil_append, digs_length]; rfl
theorem pd2_len (a b : Nat) : (pd2 a b).length = 64 := by unfold pd2; rw [List.length_append, pd1_len, digs_length]; rfl
def pd3 (a b : Nat) : List Nat := pd2 a b ++ D []

set_option maxRecDepth 100000 in
set_option maxHeartbeats 1000000 in
theorem putnothing_is (cs : Array Value) (v : Value) (w : World) : Calls Try.prog 71 #[.agg cs, v] w fun e w' => e = .returned (.tuple #[]) ∧ Only (fun _ => False) w w' := by
  go_enter Try.func71, Try.ntmps71
  go_wp2
  go_end0
  exact ⟨rfl, (Only.refl _ w).alloc _⟩
set_option maxRecDepth 100000 in
set_option maxHeartbeats 4000000 in
theorem put_pli (a b : Nat) (w : World) (ha : a < 4294967296) (hb : b < 4294967296) : Calls Try.prog 12 #[.agg (pliC a b)] w fun e w' => ∃ v bs, e = .returned (.tuple #[.agg #[.int .u8 1, .int .u8 206, v, .int .u8 0], .int .i64 0]) ∧ Wrote bs (pd3 a b) ∧ w'.ownsRow w.heap.size 5 1 v bs.length (cellsOf bs) ∧ Only (fun _ => False) w w' := by
  have HSO := Lib.hid (fun w => sortof_is 2 w (by omega) (by omega))
  have HRI := Lib.hid (fun w => right_pli a b w)
  have HA := Lib.hid (show a < 18446744073709551616 ∧ b < 18446744073709551616 from by omega)
  obtain ⟨pc, hpc⟩ : ∃ p, pliC a b = p := ⟨_, rfl⟩
  have HPC := Lib.hid hpc
  rw [hpc] at HRI
  have SZP := Lib.hid (show (Try.prog.info? 27).map (·.size) = some pc.size from by rw [← hpc]; exact Try.sizeMe)
  rw [hpc]
  have wa : IntKind.u64.wrap (a : Int) = (a : Int) := by rw [IntKind.wrap_u64]; omega
  have wb : IntKind.u64.wrap (b : Int) = (b : Int) := by rw [IntKind.wrap_u64]; omega
  clear hpc ha hb
  go_enter Try.func12, Try.ntmps12
  go_upto_region 1 with (fail)
  generalize hw0 : World.alloc _ _ = w0
  have I0 := Lib.hid (show Is w0 w.heap.size 27 (pliC a b) from by rw [← hw0, HPC.out]; exact (Is.made _ _ _).alloc _)
  have R0 := Lib.hid (show Is w0 (w.heap.size + 1) 41 pktZ from by rw [← hw0]; have h := Is.made (w.alloc (.cells pc 27)) 41 pktZ; rw [World.size_alloc] at h; exact h)
  have P0 := Lib.hid (show Only (fun _ => False) w w0 from by rw [← hw0]; exact ((Only.refl _ w).alloc _).alloc _)
  obtain ⟨mb, hmb⟩ : ∃ k, w.heap.size = k := ⟨_, rfl⟩
  obtain ⟨rb, hrb⟩ : ∃ k, w.heap.size + 1 = k := ⟨_, rfl⟩
  have HRB := Lib.hid (show w.heap.size ≤ rb from by omega)
  rw [hrb] at R0 ⊢
  rw [hmb] at I0 ⊢
  clear hw0 hmb hrb
  obtain ⟨m0, -, -, -, -, -, -, -⟩ := pli_cells I0.out
  go_upto_region 3 with (first
    | (refine wpList_load_want (o := ⟨some 7, _, _, _, _, _⟩) rfl _ _ rfl mb rfl _ _ _ (by have h := I0.out; rw [HPC.out] at h; exact h) Try.underlying27 rfl SZP.out ?_)
    | (go_at_call 15; refine (HRI.out _).mono ?_; rintro e w1 ⟨rfl, ho1⟩; have O1 := Lib.hid ho1; clear ho1))
  have I1 := Lib.hid (I0.out.only O1.out (by simp))
  have R1 := Lib.hid (R0.out.only O1.out (by simp))
  have P1 := Lib.hid (only_more P0.out O1.out)
  clear I0 R0 P0 O1 m0
  obtain ⟨m0, -, -, -, -, -, -, -⟩ := pli_cells I1.out
  go_upto_region 4 with (first
    | (go_at_call 43; refine (HSO.out _).mono ?_; rintro e w2 ⟨rfl, ho2⟩; have O2 := Lib.hid ho2; clear ho2)
    | (refine wpList_store_is rfl 93 _ _ rfl w2.heap.size (srtV 2) rfl rfl 93 (srtV 0) (Is.made w2 _ (srtV 0)) (srt_size 2 (by omega) (by omega)) (srt_hold 2 (by omega) (by omega)) (srt_one 2 (by omega) (by omega)) ?_; intro w3 hi3 ho3; have O3 := Lib.hid (fb_made ho3); have S3 := Lib.hid hi3; clear hi3 ho3))
  clear m0
  generalize w2.heap.size = sb at *
  have P3 := Lib.hid (only_more P1.out (only_more O2.out O3.out))
  obtain ⟨B, hB⟩ : ∃ k, w3.heap.size = k := ⟨_, rfl⟩
  have HB := Lib.hid hB
  have T3 := Lib.hid (show Pt a b rb mb sb w3 w3 from ⟨I1.out.only (only_more O2.out O3.out) (by simp), S3.out, R1.out.only (only_more O2.out O3.out) (by simp), Only.refl _ _⟩)
  clear I1 R1 P1 O2 O3 S3 hB
  refine wp_region_posts [[], [], [1], [2, 1], [0, 3, 2, 1], [], [5], [6, 5], [4, 7, 0, 3, 2, 1, 6, 5], [], [9], [10, 9], [11, 10, 9], [8, 12, 4, 7, 0, 3, 2, 1, 6, 5, 11, 10, 9], [13, 0, 1, 2, 3, 4, 5, 6, 7, 8, 9, 10, 11, 12]] [0, 4, 8, 11, 12, 13] [0, 4, 8, 11, 12, 13, 14] [[], [], [], [], [0], [], [], [], [0, 4], [], [], [], [], [0, 4, 8, 11, 12], []] [[], [], [], [], [0], [], [], [], [4], [], [], [], [11], [8, 12], [13]] [14] [] [] []
      [none, some ?v1, some ?v2, some ?v3, none, some ?v5, some ?v6, some ?v7, none, some ?v9, some ?v10, none, none, none, none]
      ?T (fun wx => Pt a b rb mb sb w3 wx) ?W ?E (by kernel_rfl) (by kernel_rfl) (by kernel_rfl) (fun x => ?hT) ?hF ?hini (Reg.all_ops ?runs) ?pres ?fin
  case W => exact fun j x w' => match j with | 0 => ∃ k, x 0 = ptr k ∧ Wr w' k [] [] (.slice none 0 0) B | 4 => ∃ k bs v, x 4 = ptr k ∧ Wr w' k (pd1 a) bs v B | 8 => ∃ k bs v, x 8 = ptr k ∧ Wr w' k (pd2 a b) bs v B | 11 => ∃ g c, x 11 = .slice (some ⟨g, 0, none⟩) 0 c | 12 => ∃ lb g c, x 12 = .slice (some ⟨lb, 0, none⟩) 1 1 ∧ Is w' lb 35 #[.slice (some ⟨g, 0, none⟩) 0 c] | 13 => ∃ k bs v, x 13 = ptr k ∧ Wr w' k (pd3 a b) bs v B | 14 => ∃ k bs v, x 14 = ptr k ∧ Wr w' k (pd3 a b) bs v B | _ => True
  case E => exact fun i w' w'' => match i with | 4 => FarR w' w'' | 8 => FarR w' w'' | 13 => True | _ => Only (fun _ => False) w' w''
  case hT =>
    simp only [Reg.fillV, Act.put, List.setIfInBounds_toArray, List.set_cons_zero, List.set_cons_succ]
    rfl
  case runs =>
    refine And.intro ?_ ?_
    · refine Reg.ob_some (fun _ => rfl) rfl (fun x w1 hF hU K hK => ?_)
      replace hF := hF rfl
      go_simp
      refine (new_is w1).mono ?_
      rintro e w5 ⟨rfl, hw5⟩
      have ho : Only (fun _ => False) w1 w5 := by rw [← hw5]; exact (Only.refl _ _).alloc _
      exact hK _ w5 (fun _ _ _ => hF.go ho) ho ⟨_, rfl, by rw [← hw5]; exact wr_new w1 B (Nat.le_trans (Nat.le_of_eq HB.out.symm) hF.pure.size)⟩
    refine And.intro ?_ ?_
    · refine Reg.ob_pure (fun _ => rfl) rfl rfl rfl rfl (fun x w1 hF => ?_)
      obtain ⟨m0, m1, m2, m3, m4, m5, m6, m7⟩ := pli_cells hF.im
      have s2 := hF.is.cell 2
      simp [srtV, srt, mkSrt] at s2
      go_simp
      with_reducible rfl
    refine And.intro ?_ ?_
    · refine Reg.ob_pure (fun _ => rfl) rfl rfl rfl rfl (fun x w1 hF => ?_)
      obtain ⟨m0, m1, m2, m3, m4, m5, m6, m7⟩ := pli_cells hF.im
      have s2 := hF.is.cell 2
      simp [srtV, srt, mkSrt] at s2
      go_simp
      with_reducible rfl
    refine And.intro ?_ ?_
    · refine Reg.ob_pure (fun _ => rfl) rfl rfl rfl rfl (fun x w1 hF => ?_)
      obtain ⟨m0, m1, m2, m3, m4, m5, m6, m7⟩ := pli_cells hF.im
      have s2 := hF.is.cell 2
      simp [srtV, srt, mkSrt] at s2
      go_simp
      with_reducible rfl
    refine And.intro ?_ ?_
    · refine Reg.ob_some (fun _ => rfl) rfl (fun x w1 hF hU K hK => ?_)
      replace hF := hF rfl
      obtain ⟨⟨k, h0, hw⟩, -⟩ := hU
      have h0 : x 0 = ptr k := h0
      revert hK
      simp only [Nat.reduceAdd, h0]
      intro hK
      unfold ptr at *
      go_simp
      refine (put_is k B a 32 [] [] _ w1 hw (Nat.le_trans (Nat.le_of_eq HB.out.symm) hF.pure.size) HA.out.1 (by simp)).mono ?_
      rintro e w5 ⟨rfl, bs', v', hw', -, ho⟩
      exact hK _ w5 (fun _ _ _ => hF.put hw (Nat.le_of_eq HB.out) ho) (farR_of hw ho) ⟨k, bs', v', rfl, hw'⟩
    refine And.intro ?_ ?_
    · refine Reg.ob_pure (fun _ => rfl) rfl rfl rfl rfl (fun x w1 hF => ?_)
      obtain ⟨m0, m1, m2, m3, m4, m5, m6, m7⟩ := pli_cells hF.im
      have s2 := hF.is.cell 2
      simp [srtV, srt, mkSrt] at s2
      go_simp
      with_reducible rfl
    refine And.intro ?_ ?_
    · refine Reg.ob_pure (fun _ => rfl) rfl rfl rfl rfl (fun x w1 hF => ?_)
      obtain ⟨m0, m1, m2, m3, m4, m5, m6, m7⟩ := pli_cells hF.im
      have s2 := hF.is.cell 2
      simp [srtV, srt, mkSrt] at s2
      go_simp
      with_reducible rfl
    refine And.intro ?_ ?_
    · refine Reg.ob_pure (fun _ => rfl) rfl rfl rfl rfl (fun x w1 hF => ?_)
      obtain ⟨m0, m1, m2, m3, m4, m5, m6, m7⟩ := pli_cells hF.im
      have s2 := hF.is.cell 2
      simp [srtV, srt, mkSrt] at s2
      go_simp
      with_reducible rfl
    refine And.intro ?_ ?_
    · refine Reg.ob_some (fun _ => rfl) rfl (fun x w1 hF hU K hK => ?_)
      replace hF := hF rfl
      obtain ⟨⟨k, bs, v, h0, hw⟩, -⟩ := hU
      have h0 : x 4 = ptr k := h0
      revert hK
      simp only [Nat.reduceAdd, h0]
      intro hK
      unfold ptr at *
      go_simp
      refine (put_is k B b 32 (pd1 a) bs v w1 hw (Nat.le_trans (Nat.le_of_eq HB.out.symm) hF.pure.size) HA.out.2 (by rw [pd1_len]; omega)).mono ?_
      rintro e w5 ⟨rfl, bs', v', hw', -, ho⟩
      exact hK _ w5 (fun _ _ _ => hF.put hw (Nat.le_of_eq HB.out) ho) (farR_of hw ho) ⟨k, bs', v', rfl, hw'⟩
    refine And.intro ?_ ?_
    · refine Reg.ob_pure (fun _ => rfl) rfl rfl rfl rfl (fun x w1 hF => ?_)
      obtain ⟨m0, m1, m2, m3, m4, m5, m6, m7⟩ := pli_cells hF.im
      have s2 := hF.is.cell 2
      simp [srtV, srt, mkSrt] at s2
      go_simp
      with_reducible rfl
    refine And.intro ?_ ?_
    · refine Reg.ob_pure (fun _ => rfl) rfl rfl rfl rfl (fun x w1 hF => ?_)
      obtain ⟨m0, m1, m2, m3, m4, m5, m6, m7⟩ := pli_cells hF.im
      have s2 := hF.is.cell 2
      simp [srtV, srt, mkSrt] at s2
      go_simp
      with_reducible rfl
    refine And.intro ?_ ?_
    · refine Reg.ob_some (fun _ => rfl) rfl (fun x w1 hF hU K hK => ?_)
      replace hF := hF rfl
      go_simp
      rw [run_bytes_of_string w1 9 35 5 ⟨#[]⟩ Try.underlying9 Try.underlying35 Try.underlying5]
      simp only [Result.andThen_ok, Oper.upon]
      exact hK _ _ (fun _ _ _ => hF.go ((only_drewN w1 1).alloc _)) ((only_drewN w1 1).alloc _) ⟨_, _, rfl⟩
    refine And.intro ?_ ?_
    · refine Reg.ob_some (fun _ => rfl) rfl (fun x w1 hF hU K hK => ?_)
      replace hF := hF rfl
      obtain ⟨⟨g, c, h11⟩, -⟩ := hU
      have h11 : x 11 = .slice (some ⟨g, 0, none⟩) 0 c := h11
      revert hK
      simp only [Nat.reduceAdd, h11]
      intro hK
      go_simp
      exact hK _ _ (fun _ _ _ => hF.go ((Only.refl _ _).alloc _)) ((Only.refl _ _).alloc _) ⟨_, g, c, rfl, Is.made _ _ _⟩
    refine And.intro ?_ ?_
    · refine Reg.ob_some (fun _ => rfl) rfl (fun x w1 hF hU K hK => ?_)
      replace hF := hF rfl
      obtain ⟨⟨k, bs, v, h0, hw⟩, ⟨lb, g, c, h12, hl⟩, -⟩ := hU
      have h0 : x 8 = ptr k := h0
      have h12 : x 12 = .slice (some ⟨lb, 0, none⟩) 1 1 := h12
      revert hK
      simp only [Nat.reduceAdd, h0, h12]
      intro hK
      unfold ptr at *
      go_simp
      refine (wbytes_one k B lb 1 (pd2 a b) bs [] v _ w1 hw (by rw [pd2_len]) (Nat.le_trans (Nat.le_of_eq HB.out.symm) hF.pure.size) (hl.cell 0) (src_nil rfl rfl rfl) (by simp) (by rw [pd2_len]; omega) (by simp)).mono ?_
      rintro e w5 ⟨rfl, bs', v', hw', ho⟩
      exact hK _ w5 (fun _ _ _ => hF.put hw (Nat.le_of_eq HB.out) ho) trivial ⟨k, bs', v', rfl, hw'⟩
    refine And.intro ?_ ?_
    · refine Reg.ob_some (fun _ => rfl) rfl (fun x w1 hF hU K hK => ?_)
      obtain ⟨⟨k, bs, v, h0, hw⟩, -⟩ := hU
      have h0 : x 13 = ptr k := h0
      revert hK
      simp only [Nat.reduceAdd, h0]
      intro hK
      go_simp
      exact hK _ _ (fun h => by cases h) rfl ⟨k, bs, v, rfl, hw⟩
    exact trivial
  case hF =>
    exact T3.out.go (only_drewN _ 1)
  case hini =>
    exact trivial
  case pres =>
    intro i hi j hj hc x w1 w2 hF hE hW
    simp only [List.mem_cons, List.mem_nil_iff, or_false] at hi hj
    rcases hi with rfl | rfl | rfl | rfl | rfl | rfl <;> rcases hj with rfl | rfl | rfl | rfl | rfl | rfl | rfl
    all_goals first
      | (exfalso; revert hc; decide)
      | exact hW
      | (obtain ⟨k, h1, h2⟩ := hW; exact ⟨k, h1, fw_wr h2 hE⟩)
      | (obtain ⟨k, bs, v, h1, h2⟩ := hW; exact ⟨k, bs, v, h1, fw_wr h2 hE⟩)
      | (obtain ⟨lb, g, c, h1, h2⟩ := hW; exact ⟨lb, g, c, h1, h2.only hE (by simp)⟩)
      | (obtain ⟨lb, g, c, h1, h2⟩ := hW; exact ⟨lb, g, c, h1, hE _ _ h2⟩)
  case fin =>
    rintro x w9 hF ⟨⟨k, bs, v, h14, hw⟩, -⟩
    have h14 : x 14 = ptr k := h14
    rw [h14]
    have T9 := Lib.hid (hF rfl)
    have W9 := Lib.hid hw
    clear hF hw h14
    obtain ⟨m0, m1, m2, m3, m4, m5, m6, m7⟩ := pli_cells T9.out.im
    have s13 := T9.out.is.cell 13
    simp [srtV, srt, mkSrt, fnV] at s13
    unfold ptr
    go_upto_region 6 with (go_at_call 71; refine (putnothing_is _ _ _).mono ?_; rintro e w10 ⟨rfl, ho10⟩; have A10 := Lib.hid ho10; clear ho10)
    clear m0 m1 m2 m3 m4 m5 m6 m7 s13
    have T10 := Lib.hid (T9.out.go A10.out)
    have W10 := Lib.hid (fw_wr W9.out A10.out)
    clear A10 T9 W9 T3
    obtain ⟨B2, hB2⟩ : ∃ q, w10.heap.size = q := ⟨_, rfl⟩
    have HB2 := Lib.hid hB2
    clear hB2
    refine wp_region_posts [[], [0], [], [2], [], [4], [1, 3, 5, 0, 2, 4], [6, 5, 0, 1, 2, 3, 4], [7, 0, 1, 2, 3, 4, 5, 6]] [5, 7] [5, 6, 7] [[], [], [], [], [], [], [], [5, 6], []] [[], [], [], [], [], [], [5], [6], []] [7] [7] [8] []
        [some ?vz0, some ?vz1, some ?vz2, some ?vz3, some ?vz4, none, none, none, some ?vz8]
        ?Tz (fun wx => Pt a b rb mb sb w3 wx ∧ Wr wx k (pd3 a b) bs v B ∧ Only (fun _ => False) w10 wx) ?Wz ?Ez (by kernel_rfl) (by kernel_rfl) (by kernel_rfl) (fun x => ?hTz) ?hFz ?hiniz (Reg.all_ops ?runsz) ?presz ?finz
    case Wz => exact fun j x w' => match j with | 5 => ∃ u, x 5 = u ∧ w'.ownsRow B2 5 1 u bs.length (cellsOf bs) | 6 => ∃ u, x 6 = .agg #[.int .u8 1, .int .u8 206, u, .int .u8 0] ∧ w'.ownsRow B2 5 1 u bs.length (cellsOf bs) | 7 => ∃ u, Is w' rb 41 #[.int .u8 1, .int .u8 206, u, .int .u8 0] ∧ w'.ownsRow B2 5 1 u bs.length (cellsOf bs) ∧ Only (fun q => q = rb) w10 w' | _ => True
    case Ez => exact fun i w' w'' => match i with | 5 => Only (fun _ => False) w' w'' | _ => True
    case hTz =>
      simp only [Reg.fillV, Act.put, List.setIfInBounds_toArray, List.set_cons_zero, List.set_cons_succ]
      rfl
    case runsz =>
      refine And.intro ?_ ?_
      · refine Reg.ob_pure (fun _ => rfl) rfl rfl rfl rfl (fun x w1 hF => ?_)
        obtain ⟨hT, -, -⟩ := hF
        have s0 := hT.is.cell 0
        have s1 := hT.is.cell 1
        simp [srtV, srt, mkSrt] at s0 s1
        go_simp
        with_reducible rfl
      refine And.intro ?_ ?_
      · refine Reg.ob_pure (fun _ => rfl) rfl rfl rfl rfl (fun x w1 hF => ?_)
        obtain ⟨hT, -, -⟩ := hF
        have s0 := hT.is.cell 0
        have s1 := hT.is.cell 1
        simp [srtV, srt, mkSrt] at s0 s1
        go_simp
        with_reducible rfl
      refine And.intro ?_ ?_
      · refine Reg.ob_pure (fun _ => rfl) rfl rfl rfl rfl (fun x w1 hF => ?_)
        obtain ⟨hT, -, -⟩ := hF
        have s0 := hT.is.cell 0
        have s1 := hT.is.cell 1
        simp [srtV, srt, mkSrt] at s0 s1
        go_simp
        with_reducible rfl
      refine And.intro ?_ ?_
      · refine Reg.ob_pure (fun _ => rfl) rfl rfl rfl rfl (fun x w1 hF => ?_)
        obtain ⟨hT, -, -⟩ := hF
        have s0 := hT.is.cell 0
        have s1 := hT.is.cell 1
        simp [srtV, srt, mkSrt] at s0 s1
        go_simp
        with_reducible rfl
      refine And.intro ?_ ?_
      · refine Reg.ob_pure (fun _ => rfl) rfl rfl rfl rfl (fun x w1 hF => ?_)
        obtain ⟨hT, -, -⟩ := hF
        have s0 := hT.is.cell 0
        have s1 := hT.is.cell 1
        simp [srtV, srt, mkSrt] at s0 s1
        go_simp
        with_reducible rfl
      refine And.intro ?_ ?_
      · refine Reg.ob_some (fun _ => rfl) rfl (fun x w1 hF hU K hK => ?_)
        obtain ⟨h1, h2, h3⟩ := hF rfl
        unfold ptr at *
        go_simp
        refine (out_is k B B2 (pd3 a b) bs v w1 h2 (Nat.le_trans (Nat.le_of_eq HB2.out.symm) h3.size) (by unfold pd3; rw [List.length_append, pd2_len]; simp [D])).mono ?_
        rintro e w5 ⟨u, rfl, hu, ho, -⟩
        rw [length_cellsOf] at hu
        exact hK _ w5 (fun _ _ _ => ⟨h1.go ho, fw_wr h2 ho, only_more h3 ho⟩) ho ⟨u, rfl, hu⟩
      refine And.intro ?_ ?_
      · refine Reg.ob_some (fun _ => rfl) rfl (fun x w1 hF hU K hK => ?_)
        obtain ⟨⟨u, h5, hu⟩, -⟩ := hU
        have h5 : x 5 = u := h5
        obtain ⟨Au, cu, hus, -⟩ := own_slice hu
        revert hK
        simp only [Nat.reduceAdd, h5]
        intro hK
        subst hus
        go_simp
        exact hK _ _ (fun h => by cases h) rfl ⟨_, rfl, hu⟩
      refine And.intro ?_ ?_
      · refine Reg.ob_some (fun _ => rfl) rfl (fun x w1 hF hU K hK => ?_)
        obtain ⟨h1, h2, h3⟩ := hF rfl
        obtain ⟨⟨u, h6, hu⟩, -⟩ := hU
        have h6 : x 6 = .agg #[.int .u8 1, .int .u8 206, u, .int .u8 0] := h6
        obtain ⟨Au, cu, hus, -⟩ := own_slice hu
        refine wp_store_row 41 _ _ rfl rb #[.int .u8 1, .int .u8 206, u, .int .u8 0] (by rfl) (by simpa [Act.eval] using h6) 41 pktZ h1.ir Try.sizeRt rfl (by subst hus; simp [Value.oneCell']) ?_
        have ho : Only (fun q => q = rb) w1 (w1.setRow rb #[.int .u8 1, .int .u8 206, u, .int .u8 0]) := Only.setRow (S := fun q => q = rb) (Only.refl _ w1) (fun _ => rfl) _
        exact hK undef _ (fun _ h _ => by exfalso; revert h; decide) trivial ⟨u, h1.ir.setRow _, owned_only hu ho (fun q hq e => owned_off hu h1.ir (by decide) (by rw [hq, e])), (only_as h3).trans ho (fun i hi e => e)⟩
      refine And.intro ?_ ?_
      · refine Reg.ob_bare (fun _ => rfl) rfl rfl rfl (fun x w1 => ?_)
        go_simp
        with_reducible rfl
      exact trivial
    case hFz =>
      exact ⟨T10.out.go (only_drewN _ 1), fw_wr W10.out (only_drewN _ 1), only_drewN _ 1⟩
    case hiniz =>
      exact trivial
    case presz =>
      intro i hi j hj hc x w1 w2 hF hE hW
      exfalso
      revert hc
      simp only [List.mem_cons, List.mem_nil_iff, or_false] at hi hj
      rcases hi with rfl | rfl <;> rcases hj with rfl | rfl | rfl <;> decide
    case finz =>
      rintro x w11 - ⟨⟨u, hI, hrow, ho⟩, -⟩
      have HI := Lib.hid hI
      have HFIN := Lib.hid (show Wrote bs (pd3 a b) ∧ w11.ownsRow w.heap.size 5 1 u bs.length (cellsOf bs) ∧ Only (fun _ => False) w w11 from ⟨W10.out.wrote, owned_low hrow (by have h1 := P3.out.size; have h2 := T10.out.pure.size; have := HB2.out; omega), (only_more P3.out T10.out.pure).trans ho (fun i hi e => by have := HRB.out; omega)⟩)
      clear hI hrow ho
      go_wp2
      exact bodyPost_ret (res_pair Try.results12 _ w11 rb 41 #[.int .u8 1, .int .u8 206, u, .int .u8 0] _ (.int .i64 0) rfl rfl HI.out Try.underlying41 rfl Try.sizeRt) rfl ⟨u, bs, rfl, HFIN.out⟩
    
end Go.Proofs.Ytefcimkopgcagaa
