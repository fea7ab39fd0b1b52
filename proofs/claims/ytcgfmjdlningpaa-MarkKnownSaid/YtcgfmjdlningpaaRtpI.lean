/- Parse, as a walk: the whole. Conditions: as it says. -/
import Derived.Test.YtcgfmjdlningpaaRtpH
import Derived.Test.YtcgfmjdlningpaaBase
set_option linter.unusedVariables false
namespace Go.Proofs.Ytcgfmjdlningpaa
open Go.RowKit

/-- Two bytes that are read, and nothing written. -/
theorem hold_step {wc W wx : World} {a b : Addr} {x y : Value} (h : Pure W wx) (k : W.cell? a = some x ∧ W.cell? b = some y ∧ Pure wc W) : wx.cell? a = some x ∧ wx.cell? b = some y ∧ Pure wc wx :=
  ⟨(h.cell (World.block_lt_of_cell? W a k.1) (by simp)).trans k.1, (h.cell (World.block_lt_of_cell? W b k.2.1) (by simp)).trans k.2.1, k.2.2.trans' h⟩
theorem hold_pure {wc W : World} {a b : Addr} {x y : Value} (k : W.cell? a = some x ∧ W.cell? b = some y ∧ Pure wc W) : Pure wc W := k.2.2
theorem hold_alloc {wc W : World} {a b : Addr} {x y : Value} (k : W.cell? a = some x ∧ W.cell? b = some y ∧ Pure wc W) (o : Obj) : (W.alloc o).cell? a = some x ∧ (W.alloc o).cell? b = some y ∧ Pure wc (W.alloc o) :=
  hold_step ((Only.refl _ W).alloc o) k

theorem hold_put {wc W w2 : World} {a b : Addr} {x y : Value} {pb : Nat} (h : Only (fun k => k = pb) W w2) (hpb : wc.heap.size ≤ pb) (la : a.block < wc.heap.size) (lb : b.block < wc.heap.size) (k : W.cell? a = some x ∧ W.cell? b = some y ∧ Pure wc W) : w2.cell? a = some x ∧ w2.cell? b = some y ∧ Pure wc w2 :=
  ⟨(h.cell (World.block_lt_of_cell? W a k.1) (by omega)).trans k.1, (h.cell (World.block_lt_of_cell? W b k.2.1) (by omega)).trans k.2.1, k.2.2.trans h (fun i hi e => by omega)⟩
/-- A whole struct is stored, in a region that draws its order. -/
theorem step_store_is {P : Program} {ops : Array Oper} {o : Oper} {a : Act} {K : Act → World → Prop} {Q : Exit → Act → World → Prop} {E : Prop} (w : World) (hgd : o.guard = none) (ty : TypeId) (x y : Operand) (ho : o.op = .store ty x y)
    (g : Nat) (cells : Array Value) (hx : a.eval x = .pointer (some ⟨g, 0, none⟩)) (hy : a.eval y = .agg cells)
    (t : TypeId) (old : Array Value) (hg : Is w g t old) (hi : (P.info? ty).map (·.size) = some cells.size)
    (hold : old.size = cells.size) (h1 : cells.all (·.oneCell') = true)
    (h : ∀ w', Is w' g t cells → Only (fun k => k = g) w w' → K (a.put o.dst undef) w') :
    if Region.wanted o (yielded ops a.tmps) = true then Oper.wp P o a w K Q else E := by
  have hw : Region.wanted o (yielded ops a.tmps) = true := by simp [Region.wanted, hgd]
  rw [if_pos hw]
  exact wp_store_row ty x y ho g cells hx hy t old hg hi hold h1 (h _ (hg.setRow cells) (Only.setRow (S := fun k => k = g) (Only.refl _ w) (fun _ => rfl) cells))

set_option maxRecDepth 100000 in
set_option maxHeartbeats 4000000 in
theorem parse_main (v : Value) (bs : List Nat) (w : World) (h : Src w v bs) (hb : ∀ x ∈ bs, x < 256) (h12 : 12 ≤ bs.length) (hl : bs.length ≤ 1000000) (hver : b0 bs / 64 = 2) (hcs : 4 * many bs ≤ (bs.drop 12).length) :
    Calls Try.prog 16 #[v] w (GotPk w bs) := by
  obtain ⟨g, o, c, rfl, hlc, hc⟩ := h.cap (by omega)
  have q0 := hc 0 (by omega)
  have q1 := hc 1 (by omega)
  have hb0 : bs[0]'(by omega) = b0 bs := by unfold b0; rw [List.getD_eq_getElem?_getD, List.getElem?_eq_getElem (by omega)]; rfl
  have hb1 : bs[1]'(by omega) = bs.getD 1 0 := by rw [List.getD_eq_getElem?_getD, List.getElem?_eq_getElem (by omega)]; rfl
  rw [hb0, Nat.add_zero] at q0
  rw [hb1] at q1
  have hc0 : b0 bs < 256 := by rw [← hb0]; exact hb _ (List.getElem_mem _)
  have hc1 : bs.getD 1 0 < 256 := by rw [← hb1]; exact hb _ (List.getElem_mem _)
  have e15 : bits .and .u8 ((b0 bs : Nat) : Int) 15 = ((many bs : Nat) : Int) := u8_and15 _ hc0
  have e127 := u8_and127 _ hc1
  have e128 := u8_and128 _ hc1
  have hx16 : (bits .and .u8 ((b0 bs : Nat) : Int) 16 != 0) = hasX bs := u8_and16 _ hc0
  have hx32 : (bits .and .u8 ((b0 bs : Nat) : Int) 32 != 0) = hasP bs := u8_and32 _ hc0
  have hn : many bs ≤ 15 := by unfold many; omega
  have hs2 := be2_lt bs 2 hb (by omega)
  have HN2 := Lib.hid (fun w' d k => number2 bs 2 g o k d w' hb)
  have HN4 := Lib.hid (fun w' d k => number4 bs 4 g o k d w' hb)
  have HN8 := Lib.hid (fun w' d k => number4 bs 8 g o k d w' hb)
  have HC := Lib.hid hc
  have HB := Lib.hid hb
  have HR1 := Lib.hid (show rest1 bs = (bs.drop 12).drop (4 * many bs) from rfl)
  have HPD := Lib.hid (show parsed bs = { marker := decide (128 ≤ bs.getD 1 0), ty := bs.getD 1 0 % 128, seq := be ((bs.drop 2).take 2), time := be ((bs.drop 4).take 4), ssrc := be ((bs.drop 8).take 4), csrc := csrcOf (bs.drop 12) (many bs), hasExt := hasX bs, profile := if hasX bs then be ((rest1 bs).take 2) else 0, ext := if hasX bs then ((rest1 bs).drop 4).take (extEnd (rest1 bs) - 4) else [], pay := (rest2 bs).take ((rest2 bs).length - padN bs), pad := padN bs : Pk } from rfl)
  have HCS := Lib.hid hcs
  have HCSR := Lib.hid (fun w' u k => csrc_any u (bs.drop 12) (many bs) w' k (fun x hx => hb x (List.drop_subset 12 bs hx)) (by rw [List.length_drop]; omega) hn hcs)
  generalize hw0 : w.alloc (.cells #[.bool false, .int .u8 0, .int .u16 0, .int .u32 0, .int .u32 0, .slice none 0 0, .bool false, .int .u16 0, .slice none 0 0, .slice none 0 0, .int .u8 0] 33) = w0
  have HI := Lib.hid (show Is w0 w.heap.size 33 zeros from by rw [← hw0]; exact Is.made _ _ _)
  have P0 := Lib.hid (show Pure w w0 from by rw [← hw0]; exact (Only.refl _ w).alloc _)
  have r0 := (P0.out.cell (p := ⟨g, o, none⟩) (World.block_lt_of_cell? w _ q0) (by simp)).trans q0
  have r1 := (P0.out.cell (p := ⟨g, o + 1, none⟩) (World.block_lt_of_cell? w _ q1) (by simp)).trans q1
  have HLT := Lib.hid (World.block_lt_of_cell? w0 _ r0)
  have HLB : w.heap.size < w0.heap.size := HI.out.lt
  rw [List.length_drop] at hcs
  clear h hb hb0 hb1 hc q0 q1
  generalize be ((bs.drop 2).take 2) = sq at *
  generalize be ((bs.drop 4).take 4) = tm at *
  generalize be ((bs.drop 8).take 4) = ss at *
  generalize bs.getD 1 0 = c1 at *
  generalize hnn : many bs = n at *
  have HM := Lib.hid hnn
  clear hnn
  generalize hcc : b0 bs = c0 at *
  have HCC := Lib.hid hcc
  clear hcc
  obtain ⟨L, hLL⟩ : ∃ L, bs.length = L := ⟨_, rfl⟩
  rw [hLL] at h12 hl hlc hcs ⊢
  have HL := Lib.hid hLL
  clear hLL
  have hv' : ((c0 : Int) / 64 != 2) = false := by simp; omega
  have z0 : (c0 : Int) < 256 := by omega
  have zL : 0 < L := by omega
  have en : IntKind.i64.wrap (n : Int) = n := IntWalk.i64_in _ (by omega)
  have zL1 : 1 < L := by omega
  have zc : 12 ≤ c := by omega
  have z1 : (c1 : Int) < 256 := by omega
  go_enter Try.func16, Try.ntmps16
  go_upto_region 5 with (fail)
  clear hw0
  go_cut [4, 5, 6] (fun s4 s5 s6 wx => s6 = .bool true ∧ wx.ownsRow w0.heap.size 26 1 s4 n (cells32 (csrcOf (bs.drop 12) n)) ∧ Src w0 s5 (rest1 bs) ∧ Pure w0 wx)
  case first =>
    have hend : c = 12 ∨ ¬ c = 12 := Classical.em _
    rcases hend with hend | hend
    · subst hend
      obtain rfl : L = 12 := by omega
      go_region_held3 (fun w' => w'.cell? ⟨g, o, none⟩ = some (.int .u8 c0)) (first | exact r0 | exact (hox.cell (p := ⟨g, o, none⟩) HLT.out (by simp)).trans r0) ((go_at_call 54; refine (HCSR.out w0.drew _ (src_12 bs g o 12 12 w0.drew (cells_pure HC.out P0.out.drew) HL.out h12 hlc ⟨g, o, none⟩ (.inl ⟨rfl, rfl⟩))).mono ?_; rintro e wx ⟨vc, vb, rfl, hvc, hvb, hox'⟩; have hox : Pure w0 wx := (Only.refl _ w0).drew.trans hox' (fun _ _ e => e)))
      go_wp2_with fail
      go_meet
      exact ⟨rfl, hvc, by rw [HR1.out]; exact hvb, hox⟩
    · go_region_held3 (fun w' => w'.cell? ⟨g, o, none⟩ = some (.int .u8 c0)) (first | exact r0 | exact (hox.cell (p := ⟨g, o, none⟩) HLT.out (by simp)).trans r0) ((go_at_call 54; refine (HCSR.out w0.drew _ (src_12 bs g o c L w0.drew (cells_pure HC.out P0.out.drew) HL.out h12 hlc ⟨g, o + 12, none⟩ (.inr rfl))).mono ?_; rintro e wx ⟨vc, vb, rfl, hvc, hvb, hox'⟩; have hox : Pure w0 wx := (Only.refl _ w0).drew.trans hox' (fun _ _ e => e)))
      go_wp2_with fail
      go_meet
      exact ⟨rfl, hvc, by rw [HR1.out]; exact hvb, hox⟩
  case rest =>
    obtain ⟨w3, rfl⟩ : ∃ w3 : World, w3 = wc := ⟨_, rfl⟩
    obtain ⟨rfl, hvc, hvb, ho1⟩ := hcut
    obtain ⟨Av, cv, rfl, _⟩ := own_slice hvc
    have HVC := Lib.hid hvc
    have HVB := Lib.hid hvb
    have HO1 := Lib.hid ho1
    have s0 := (ho1.cell (p := ⟨g, o, none⟩) HLT.out (by simp)).trans r0
    have s1 := (ho1.cell (p := ⟨g, o + 1, none⟩) (World.block_lt_of_cell? w0 _ r1) (by simp)).trans r1
    have SD := Lib.hid (show w3.drew.cell? ⟨g, o, none⟩ = some (.int .u8 c0) ∧ w3.drew.cell? ⟨g, o + 1, none⟩ = some (.int .u8 c1) ∧ Pure w3 w3.drew from ⟨s0, s1, (Only.refl _ w3).drew⟩)
    have LGC := Lib.hid (World.block_lt_of_cell? w3 _ s0)
    have HWC := Lib.hid (cells_pure HC.out (P0.out.trans' ho1))
    clear hvc hvb ho1 r0 r1
    have p2 : 2 + 2 ≤ L := by omega
    have p4 : 4 + 4 ≤ L := by omega
    have p8 : 8 + 4 ≤ L := by omega
    rw [← HL.out] at p2 p4 p8
    have P2 := Lib.hid p2
    have P4 := Lib.hid p4
    have P8 := Lib.hid p8
    clear p2 p4 p8
    have c2 : 2 ≤ c := by omega
    have c4 : 4 ≤ c := by omega
    have c8 : 8 ≤ c := by omega
    have c12 : 12 ≤ c := by omega
    have i1 : (1 : Int) < (L : Int) := by omega
    have i4 : (4 : Int) ≤ (c : Int) := by omega
    have i8 : (8 : Int) ≤ (c : Int) := by omega
    have i12 : (12 : Int) ≤ (c : Int) := by omega
    have i2 : (2 : Int) ≤ (c : Int) := by omega
    have n2 : ¬ c = 2 := by omega
    have n4 : ¬ c = 4 := by omega
    have n8 : ¬ c = 8 := by omega
    have esq : IntKind.u16.wrap (sq : Int) = sq := by rw [IntKind.wrap_u16]; omega
    go_upto_region 8 with (fail)
    go_cut [7] (fun s7 wx => ∃ pb, s7 = .pointer (some ⟨pb, 0, none⟩) ∧ w3.heap.size ≤ pb ∧ Pure w3 wx ∧ Is wx pb 33 #[.bool (decide (128 ≤ c1)), Value.int .u8 ((c1 : Int) % 128), .int .u16 sq, .int .u32 tm, .int .u32 ss, .slice Av n cv, .bool (hasX bs), .int .u16 0, .slice none 0 0, .slice none 0 0, .int .u8 0])
    case first =>
      refine wp_region_posts [[], [0], [1, 0], [2, 1, 0], [3, 2, 1, 0], [], [5], [6, 5], [7, 6, 5], [], [9], [10, 9], [11, 10, 9], [], [13], [14, 11, 13, 10, 9], [], [16], [17, 15, 16, 14, 11, 13, 10, 9], [], [], [20], [21, 20], [22, 21, 20], [23, 22, 21, 20], [4, 8, 12, 15, 18, 19, 24, 3, 2, 1, 0, 7, 6, 5, 11, 10, 9, 14, 13, 17, 16, 23, 22, 21, 20], [], [26, 25, 18, 0, 1, 2, 3, 4, 5, 6, 7, 8, 9, 10, 11, 12, 13, 14, 15, 16, 17, 19, 20, 21, 22, 23, 24]] [11, 15, 18, 26, 27] [26, 27] [[],[],[],[],[],[],[],[],[],[],[],[],[],[],[],[],[],[],[],[],[],[],[],[],[],[],[],[26]] [[],[],[],[],[],[],[],[],[],[],[],[],[],[],[],[],[],[],[],[],[],[],[],[],[],[],[],[26]] [27] [] [] []
        [some ?v0, some ?v1, some ?v2, some ?v3, some ?v4, some ?v5, some ?v6, some ?v7, some ?v8, some ?v9, some ?v10, some (.int .u32 sq), some ?v12, some ?v13, some ?v14, some (.int .u32 tm), some ?v16, some ?v17, some (.int .u32 ss), some ?v19, some ?v20, some ?v21, some ?v22, some ?v23, some ?v24, some ?v25, none, none]
        ?T (fun w' => w'.cell? ⟨g, o, none⟩ = some (.int .u8 c0) ∧ w'.cell? ⟨g, o + 1, none⟩ = some (.int .u8 c1) ∧ Pure w3 w') ?W ?E (by kernel_rfl) (by kernel_rfl) (by kernel_rfl) (fun x => ?hT) ?hF ?hini (Reg.all_ops ?runs) ?pres ?fin
      case W => exact fun j x w' => match j with | 26 => ∃ pb, x 26 = .pointer (some ⟨pb, 0, none⟩) ∧ w3.heap.size ≤ pb ∧ Is w' pb 33 zeros | 27 => ∃ pb, x 26 = .pointer (some ⟨pb, 0, none⟩) ∧ w3.heap.size ≤ pb ∧ Is w' pb 33 #[.bool (decide (128 ≤ c1)), Value.int .u8 ((c1 : Int) % 128), .int .u16 sq, .int .u32 tm, .int .u32 ss, .slice Av n cv, .bool (hasX bs), .int .u16 0, .slice none 0 0, .slice none 0 0, .int .u8 0] | _ => True
      case E => exact fun i w' w'' => match i with | 27 => True | _ => Pure w' w''
      case hT =>
        simp only [Reg.fillV, Act.put, List.setIfInBounds_toArray, List.set_cons_zero, List.set_cons_succ]
        rfl
      case runs =>
        refine And.intro ?_ ?_
        · refine Reg.ob_pure (fun _ => rfl) rfl rfl rfl rfl (fun x w1 hF => ?_)
          obtain ⟨hF0, hF1, hF2⟩ := hF
          go_simp
          with_reducible rfl
        refine And.intro ?_ ?_
        · refine Reg.ob_pure (fun _ => rfl) rfl rfl rfl rfl (fun x w1 hF => ?_)
          obtain ⟨hF0, hF1, hF2⟩ := hF
          go_simp
          with_reducible rfl
        refine And.intro ?_ ?_
        · refine Reg.ob_pure (fun _ => rfl) rfl rfl rfl rfl (fun x w1 hF => ?_)
          obtain ⟨hF0, hF1, hF2⟩ := hF
          go_simp
          with_reducible rfl
        refine And.intro ?_ ?_
        · refine Reg.ob_pure (fun _ => rfl) rfl rfl rfl rfl (fun x w1 hF => ?_)
          obtain ⟨hF0, hF1, hF2⟩ := hF
          go_simp
          with_reducible rfl
        refine And.intro ?_ ?_
        · refine Reg.ob_pure (fun _ => rfl) rfl rfl rfl rfl (fun x w1 hF => ?_)
          obtain ⟨hF0, hF1, hF2⟩ := hF
          go_simp
          with_reducible rfl
        refine And.intro ?_ ?_
        · refine Reg.ob_pure (fun _ => rfl) rfl rfl rfl rfl (fun x w1 hF => ?_)
          obtain ⟨hF0, hF1, hF2⟩ := hF
          go_simp
          with_reducible rfl
        refine And.intro ?_ ?_
        · refine Reg.ob_pure (fun _ => rfl) rfl rfl rfl rfl (fun x w1 hF => ?_)
          obtain ⟨hF0, hF1, hF2⟩ := hF
          go_simp
          with_reducible rfl
        refine And.intro ?_ ?_
        · refine Reg.ob_pure (fun _ => rfl) rfl rfl rfl rfl (fun x w1 hF => ?_)
          obtain ⟨hF0, hF1, hF2⟩ := hF
          go_simp
          with_reducible rfl
        refine And.intro ?_ ?_
        · refine Reg.ob_pure (fun _ => rfl) rfl rfl rfl rfl (fun x w1 hF => ?_)
          obtain ⟨hF0, hF1, hF2⟩ := hF
          go_simp
          with_reducible rfl
        refine And.intro ?_ ?_
        · refine Reg.ob_pure (fun _ => rfl) rfl rfl rfl rfl (fun x w1 hF => ?_)
          obtain ⟨hF0, hF1, hF2⟩ := hF
          go_simp
          with_reducible rfl
        refine And.intro ?_ ?_
        · refine Reg.ob_pure (fun _ => rfl) rfl rfl rfl rfl (fun x w1 hF => ?_)
          obtain ⟨hF0, hF1, hF2⟩ := hF
          go_simp
          with_reducible rfl
        refine And.intro ?_ ?_
        · refine Reg.ob_known (fun _ => rfl) rfl rfl (fun x w1 hF hU K hK => ?_)
          obtain ⟨hF0, hF1, hF2⟩ := hF rfl
          go_simp
          refine (HN2.out _ _ 0 (cells_pure HWC.out hF2) P2.out).mono ?_
          rintro e w2 ⟨rfl, hox⟩
          exact hK w2 (fun _ _ _ => hold_step hox ⟨hF0, hF1, hF2⟩) hox
        refine And.intro ?_ ?_
        · refine Reg.ob_pure (fun _ => rfl) rfl rfl rfl rfl (fun x w1 hF => ?_)
          obtain ⟨hF0, hF1, hF2⟩ := hF
          go_simp
          with_reducible rfl
        refine And.intro ?_ ?_
        · refine Reg.ob_pure (fun _ => rfl) rfl rfl rfl rfl (fun x w1 hF => ?_)
          obtain ⟨hF0, hF1, hF2⟩ := hF
          go_simp
          with_reducible rfl
        refine And.intro ?_ ?_
        · refine Reg.ob_pure (fun _ => rfl) rfl rfl rfl rfl (fun x w1 hF => ?_)
          obtain ⟨hF0, hF1, hF2⟩ := hF
          go_simp
          with_reducible rfl
        refine And.intro ?_ ?_
        · refine Reg.ob_known (fun _ => rfl) rfl rfl (fun x w1 hF hU K hK => ?_)
          obtain ⟨hF0, hF1, hF2⟩ := hF rfl
          go_simp
          refine (HN4.out _ _ 0 (cells_pure HWC.out hF2) P4.out).mono ?_
          rintro e w2 ⟨rfl, hox⟩
          exact hK w2 (fun _ _ _ => hold_step hox ⟨hF0, hF1, hF2⟩) hox
        refine And.intro ?_ ?_
        · refine Reg.ob_pure (fun _ => rfl) rfl rfl rfl rfl (fun x w1 hF => ?_)
          obtain ⟨hF0, hF1, hF2⟩ := hF
          go_simp
          with_reducible rfl
        refine And.intro ?_ ?_
        · refine Reg.ob_pure (fun _ => rfl) rfl rfl rfl rfl (fun x w1 hF => ?_)
          obtain ⟨hF0, hF1, hF2⟩ := hF
          go_simp
          with_reducible rfl
        refine And.intro ?_ ?_
        · refine Reg.ob_known (fun _ => rfl) rfl rfl (fun x w1 hF hU K hK => ?_)
          obtain ⟨hF0, hF1, hF2⟩ := hF rfl
          go_simp
          refine (HN8.out _ _ 0 (cells_pure HWC.out hF2) P8.out).mono ?_
          rintro e w2 ⟨rfl, hox⟩
          exact hK w2 (fun _ _ _ => hold_step hox ⟨hF0, hF1, hF2⟩) hox
        refine And.intro ?_ ?_
        · refine Reg.ob_pure (fun _ => rfl) rfl rfl rfl rfl (fun x w1 hF => ?_)
          obtain ⟨hF0, hF1, hF2⟩ := hF
          go_simp
          with_reducible rfl
        refine And.intro ?_ ?_
        · refine Reg.ob_pure (fun _ => rfl) rfl rfl rfl rfl (fun x w1 hF => ?_)
          obtain ⟨hF0, hF1, hF2⟩ := hF
          go_simp
          with_reducible rfl
        refine And.intro ?_ ?_
        · refine Reg.ob_pure (fun _ => rfl) rfl rfl rfl rfl (fun x w1 hF => ?_)
          obtain ⟨hF0, hF1, hF2⟩ := hF
          go_simp
          with_reducible rfl
        refine And.intro ?_ ?_
        · refine Reg.ob_pure (fun _ => rfl) rfl rfl rfl rfl (fun x w1 hF => ?_)
          obtain ⟨hF0, hF1, hF2⟩ := hF
          go_simp
          with_reducible rfl
        refine And.intro ?_ ?_
        · refine Reg.ob_pure (fun _ => rfl) rfl rfl rfl rfl (fun x w1 hF => ?_)
          obtain ⟨hF0, hF1, hF2⟩ := hF
          go_simp
          with_reducible rfl
        refine And.intro ?_ ?_
        · refine Reg.ob_pure (fun _ => rfl) rfl rfl rfl rfl (fun x w1 hF => ?_)
          obtain ⟨hF0, hF1, hF2⟩ := hF
          go_simp
          with_reducible rfl
        refine And.intro ?_ ?_
        · refine Reg.ob_pure (fun _ => rfl) rfl rfl rfl rfl (fun x w1 hF => ?_)
          obtain ⟨hF0, hF1, hF2⟩ := hF
          go_simp
          with_reducible rfl
        refine And.intro ?_ ?_
        · refine Reg.ob_some (fun _ => rfl) rfl (fun x w1 hF hU K hK => ?_)
          go_simp
          exact hK _ _ (fun _ _ _ => hold_alloc (hF rfl) _) ((Only.refl _ w1).alloc _) ⟨_, rfl, (hF rfl).2.2.size, Is.made _ _ _⟩
        refine And.intro ?_ ?_
        · refine Reg.ob_some (fun _ => rfl) rfl (fun x w1 hF hU K hK => ?_)
          obtain ⟨⟨pb, h26, hpb, hI⟩, -⟩ := hU
          have h26 : x 26 = .pointer (some ⟨pb, 0, none⟩) := h26
          refine wp_store_row 33 _ _ rfl pb #[.bool (decide (128 ≤ c1)), Value.int .u8 ((c1 : Int) % 128), .int .u16 sq, .int .u32 tm, .int .u32 ss, .slice Av n cv, .bool (hasX bs), .int .u16 0, .slice none 0 0, .slice none 0 0, .int .u8 0] (by simpa [Act.eval] using h26) rfl 33 zeros hI Try.sizePk rfl (by simp [Value.oneCell']) ?_
          have ho : Only (fun k => k = pb) w1 (w1.setRow pb #[.bool (decide (128 ≤ c1)), Value.int .u8 ((c1 : Int) % 128), .int .u16 sq, .int .u32 tm, .int .u32 ss, .slice Av n cv, .bool (hasX bs), .int .u16 0, .slice none 0 0, .slice none 0 0, .int .u8 0]) := Only.setRow (S := fun k => k = pb) (Only.refl _ w1) (fun _ => rfl) _
          exact hK undef _ (fun _ _ _ => hold_put ho hpb LGC.out (World.block_lt_of_cell? w3 _ s1) (hF rfl)) trivial ⟨pb, h26, hpb, hI.setRow _⟩
        exact trivial
      case hF => exact SD.out
      case hini => exact trivial
      case pres =>
        intro i hi j hj hc x w1 w2 hF hE hW
        simp only [List.mem_cons, List.mem_nil_iff, or_false] at hi hj
        rcases hj with rfl | rfl <;> rcases hi with rfl | rfl | rfl | rfl | rfl
        all_goals first
          | (exfalso; revert hc; decide)
          | (obtain ⟨pb, h26, hpb, hI⟩ := hW; exact ⟨pb, h26, hpb, Is.only hI hE (fun h => h)⟩)
      case fin =>
        rintro x w1 hF ⟨⟨pb, h26, hpb, hI⟩, -⟩
        replace hF := hF rfl
        have h26 : x 26 = .pointer (some ⟨pb, 0, none⟩) := h26
        rw [h26]
        go_wp2_with fail
        go_meet
        exact ⟨pb, rfl, hpb, hF.2.2, hI⟩
    case rest =>
      obtain ⟨pb, rfl, hpb, ho2, hip⟩ := hcut
      have HIP := Lib.hid hip
      have HO2 := Lib.hid ho2
      have t6 := hip.cell 6
      simp at t6
      have lpb : w0.heap.size ≤ pb := Nat.le_trans HO1.out.size hpb
      clear hip ho2
      have hvb3 : Src w0 u5 (rest1 bs) := HVB.out
      obtain ⟨A5, c5, rfl⟩ := hvb3.slice
      have HV0 := Lib.hid hvb3
      have HV5 := Lib.hid (hvb3.later (HO1.out.trans' HO2.out) (by simp))
      have HB1 := Lib.hid (show ∀ x ∈ rest1 bs, x < 256 from fun x hx => HB.out x (List.drop_subset 12 bs (List.drop_subset _ _ (by rw [HR1.out] at hx; exact hx))))
      have HL1 := Lib.hid (show (rest1 bs).length ≤ 1000000 from by rw [HR1.out, List.length_drop, List.length_drop, HL.out]; omega)
      have hw5 : w.heap.size ≤ wc.heap.size := Nat.le_trans P0.out.size (Nat.le_trans HO1.out.size HO2.out.size)
      clear hvb3
      go_upto_if 60 with (fail)
      go_cut [5] (fun s5 wx => ∃ (A : Option Addr) (ce : Nat), extBad bs = false ∧ Pure w3 wx ∧ Is wx pb 33 #[.bool (decide (128 ≤ c1)), Value.int .u8 ((c1 : Int) % 128), .int .u16 sq, .int .u32 tm, .int .u32 ss, .slice Av n cv, .bool (hasX bs), .int .u16 (profs bs : Nat), .slice A (exts bs).length ce, .slice none 0 0, .int .u8 0] ∧ wx.ownsRow w.heap.size 5 1 (.slice A (exts bs).length ce) (exts bs).length (cellsOf (exts bs)) ∧ Src w0 s5 (rest2 bs))
      case first =>
        rcases Bool.eq_false_or_eq_true (hasX bs) with hx | hx
        · rw [hx] at t6
          have HX := Lib.hid hx
          rw [hx]
          by_cases h4 : (rest1 bs).length < 4
          · have HBAD := Lib.hid (err_ext bs (by rw [HL.out]; omega) (by rw [HCC.out]; exact hver) (by rw [HM.out]; exact HCS.out) (by simp [extBad, HX.out, h4]))
            have c7 := HIP.out.cell 7
            have c8 := HIP.out.cell 8
            simp at c7 c8
            have f7 := HIP.out.free 7
            have f8 := HIP.out.free 8
            go_wp2_with fail
            refine (ext_short A5 _ c5 _ h4).mono ?_
            rintro e w5 ⟨rfl, rfl⟩
            go_upto_region 11 with (fail)
            generalize hw6 : World.setCell _ _ _ = w6
            have hi6 : Is w6 w.heap.size 33 zeros := by
              rw [← hw6]
              exact ((HI.out.only (HO1.out.trans' HO2.out) (by simp)).far (by simp; omega) _).far (by simp; omega) _
            have hp6 : Pure w0 w6 := by
              rw [← hw6]
              exact (((HO1.out.trans' HO2.out)).set (by simp; omega) _).set (by simp; omega) _
            clear hw6 c7 c8 f7 f8
            go_wp2_with (refine wpList_store_is rfl 33 _ _ rfl w.heap.size zeros rfl rfl 33 _ hi6 Try.sizePk rfl zeros_one ?_; intro w7 hi7 hp7)
            exact bodyPost_ret (results_is Try.results16 _ w7 w.heap.size 33 zeros _ (.int .i64 10) rfl rfl hi7 Try.underlying33 rfl Try.sizePk) rfl (got_err P0.out hp6 hp7 (by decide) HBAD.out)
          · by_cases he : (rest1 bs).length < extEnd (rest1 bs)
            · have HBAD := Lib.hid (err_ext bs (by rw [HL.out]; omega) (by rw [HCC.out]; exact hver) (by rw [HM.out]; exact HCS.out) (by simp [extBad, HX.out, he]))
              go_wp2_with fail
              refine (ext_none _ (rest1 bs) _ HV5.out HB1.out (by omega) HL1.out he).mono ?_
              rintro e w5 ⟨rfl, ho5⟩
              have hip5 := HIP.out.only ho5 (by simp)
              have HO5 := Lib.hid ho5
              have c7 := hip5.cell 7
              have c8 := hip5.cell 8
              simp at c7 c8
              have f7 := hip5.free 7
              have f8 := hip5.free 8
              clear ho5 hip5
              go_upto_region 11 with (fail)
              generalize hw6 : World.setCell _ _ _ = w6
              have hi6 : Is w6 w.heap.size 33 zeros := by
                rw [← hw6]
                exact ((HI.out.only ((HO1.out.trans' HO2.out).trans' HO5.out) (by simp)).far (by simp; omega) _).far (by simp; omega) _
              have hp6 : Pure w0 w6 := by
                rw [← hw6]
                exact ((((HO1.out.trans' HO2.out).trans' HO5.out)).set (by simp; omega) _).set (by simp; omega) _
              clear hw6 c7 c8 f7 f8
              go_wp2_with (refine wpList_store_is rfl 33 _ _ rfl w.heap.size zeros rfl rfl 33 _ hi6 Try.sizePk rfl zeros_one ?_; intro w7 hi7 hp7)
              exact bodyPost_ret (results_is Try.results16 _ w7 w.heap.size 33 zeros _ (.int .i64 10) rfl rfl hi7 Try.underlying33 rfl Try.sizePk) rfl (got_err P0.out hp6 hp7 (by decide) HBAD.out)
            · go_wp2_with fail
              refine (ext_some _ (rest1 bs) w0 _ HV0.out HV5.out HB1.out (by omega) HL1.out (by omega)).mono ?_
              rintro e w5 ⟨ve, vb, rfl, hve, hvb5, ho5⟩
              rw [← exts_true bs HX.out] at hve
              obtain ⟨Ae, ce, rfl, _⟩ := own_slice hve
              have hip5 := HIP.out.only ho5 (by simp)
              have HO5 := Lib.hid ho5
              have HIP5 := Lib.hid hip5
              have HVE := Lib.hid hve
              have HVB5 := Lib.hid hvb5
              have c7 := hip5.cell 7
              have c8 := hip5.cell 8
              simp at c7 c8
              have f7 := hip5.free 7
              have f8 := hip5.free 8
              clear ho5 hip5 hve hvb5
              go_wp2_with fail
              go_meet
              rw [profs_true bs HX.out, rest2_true bs HX.out]
              obtain ⟨q1, q2, q3⟩ := two_put (wz := w3) (B := w.heap.size) 7 8 (.int .u16 (be ((rest1 bs).take 2) : Nat)) (.slice Ae (exts bs).length ce) rfl HIP5.out (HO2.out.trans' HO5.out) hpb (HVE.out.low hw5)
              exact ⟨Ae, ce, by simp [extBad, h4, he], q1, q2, q3, HVB5.out⟩
        · rw [hx] at t6
          have HX := Lib.hid hx
          rw [hx]
          go_wp2_with fail
          go_meet
          refine ⟨none, 0, by simp [extBad, hx], HO2.out, ?_, ?_, by rw [rest2_false bs hx]; exact HV0.out⟩
          · have e1 : profs bs = 0 := by simp [profs, hx]
            rw [e1, exts_false bs hx]
            exact HIP.out
          · rw [exts_false bs hx]
            exact World.ownsRow_nil _ _ _ _
      case rest =>
        obtain ⟨A, ce, hxb, hp3, hip, hve, hsrc⟩ := hcut
        obtain ⟨A6, c6, rfl⟩ := hsrc.slice
        have HXB := Lib.hid hxb
        have HP3 := Lib.hid hp3
        have HIQ := Lib.hid hip
        have HVE := Lib.hid hve
        have HS := Lib.hid hsrc
        have s0' := (hp3.cell (p := ⟨g, o, none⟩) LGC.out (by simp)).trans s0
        have HB2 := Lib.hid (show ∀ x ∈ rest2 bs, x < 256 from fun x hx => HB1.out x (by
          unfold rest2 at hx
          split at hx
          · exact List.drop_subset _ _ hx
          · exact hx))
        have HL2 := Lib.hid (show (rest2 bs).length ≤ 1000000 from by
          have := HL1.out
          unfold rest2
          split
          · rw [List.length_drop]; omega
          · exact this)
        have hw3 : w.heap.size ≤ w3.heap.size := Nat.le_trans P0.out.size HO1.out.size
        clear hxb hp3 hip hve hsrc s0 s1
        go_upto_if 77 with (fail)
        go_cut [6] (fun s6 wx => padBad bs = false ∧ Pure w3 wx ∧ Is wx pb 33 #[.bool (decide (128 ≤ c1)), Value.int .u8 ((c1 : Int) % 128), .int .u16 sq, .int .u32 tm, .int .u32 ss, .slice Av n cv, .bool (hasX bs), .int .u16 (profs bs : Nat), .slice A (exts bs).length ce, .slice none 0 0, .int .u8 (padN bs : Nat)] ∧ wx.ownsRow w.heap.size 5 1 (.slice A (exts bs).length ce) (exts bs).length (cellsOf (exts bs)))
        case first =>
          rcases Bool.eq_false_or_eq_true (hasP bs) with hx | hx
          · have HX := Lib.hid hx
            rw [hx]
            have c10 := HIQ.out.cell 10
            simp at c10
            have f10 := HIQ.out.free 10
            by_cases h0 : (rest2 bs).length = 0
            · have HBAD := Lib.hid (err_pad bs (by rw [HL.out]; omega) (by rw [HCC.out]; exact hver) (by rw [HM.out]; exact HCS.out) HXB.out (by
                have e0 : rest2 bs = [] := List.eq_nil_of_length_eq_zero h0
                simp [padBad, hx, e0, lastOf]))
              rw [h0]
              clear hx
              go_wp2_with fail
              refine (pad_none A6 c6 _).mono ?_
              rintro e w5 ⟨rfl, rfl⟩
              go_upto_region 15 with (fail)
              generalize hw6 : World.setCell _ _ _ = w6
              have hi6 : Is w6 w.heap.size 33 zeros := by
                rw [← hw6]
                exact (HI.out.only (HO1.out.trans' HP3.out) (by simp)).far (by simp; omega) _
              have hp6 : Pure w0 w6 := by
                rw [← hw6]
                exact (HO1.out.trans' HP3.out).set (by simp; omega) _
              clear hw6 c10 f10
              go_wp2_with (refine wpList_store_is rfl 33 _ _ rfl w.heap.size zeros rfl rfl 33 _ hi6 Try.sizePk rfl zeros_one ?_; intro w7 hi7 hp7)
              exact bodyPost_ret (results_is Try.results16 _ w7 w.heap.size 33 zeros _ (.int .i64 21) rfl rfl hi7 Try.underlying33 rfl Try.sizePk) rfl (got_err P0.out hp6 hp7 (by decide) HBAD.out)
            · have hlast := HB2.out _ (lastOf_mem _ (by omega))
              have HPS := Lib.hid (fun w' k => pad_some (.slice A6 (rest2 bs).length c6) (rest2 bs) w' k (by omega) HL2.out hlast)
              rcases Bool.eq_false_or_eq_true (decide (0 < lastOf (rest2 bs) ∧ lastOf (rest2 bs) ≤ (rest2 bs).length)) with hd | hd
              · rw [hd] at HPS
                go_wp2_with fail
                refine (HPS.out _ (HS.out.later (HO1.out.trans' HP3.out) (by simp))).mono ?_
                rintro e w5 ⟨rfl, rfl⟩
                go_wp2_with fail
                go_meet
                obtain ⟨q1, q2, q3⟩ := one_put (wz := w3) (B := w.heap.size) 10 (.int .u8 (lastOf (rest2 bs) : Nat)) rfl HIQ.out HP3.out hpb HVE.out (by decide)
                have e1 : padN bs = lastOf (rest2 bs) := by simp [padN, HX.out]
                rw [e1]
                exact ⟨by simp only [padBad, HX.out, hd]; rfl, q1, q2, q3⟩
              · have HBAD := Lib.hid (err_pad bs (by rw [HL.out]; omega) (by rw [HCC.out]; exact hver) (by rw [HM.out]; exact HCS.out) HXB.out (by simp only [padBad, hx, hd]; rfl))
                rw [hd] at HPS
                go_wp2_with fail
                refine (HPS.out _ (HS.out.later (HO1.out.trans' HP3.out) (by simp))).mono ?_
                rintro e w5 ⟨rfl, rfl⟩
                go_upto_region 15 with (fail)
                generalize hw6 : World.setCell _ _ _ = w6
                have hi6 : Is w6 w.heap.size 33 zeros := by
                  rw [← hw6]
                  exact (HI.out.only (HO1.out.trans' HP3.out) (by simp)).far (by simp; omega) _
                have hp6 : Pure w0 w6 := by
                  rw [← hw6]
                  exact (HO1.out.trans' HP3.out).set (by simp; omega) _
                clear hw6 c10 f10
                go_wp2_with (refine wpList_store_is rfl 33 _ _ rfl w.heap.size zeros rfl rfl 33 _ hi6 Try.sizePk rfl zeros_one ?_; intro w7 hi7 hp7)
                exact bodyPost_ret (results_is Try.results16 _ w7 w.heap.size 33 zeros _ (.int .i64 21) rfl rfl hi7 Try.underlying33 rfl Try.sizePk) rfl (got_err P0.out hp6 hp7 (by decide) HBAD.out)
          · rw [hx]
            go_wp2_with fail
            go_meet
            have e1 : padN bs = 0 := by simp [padN, hx]
            rw [e1]
            exact ⟨by simp [padBad, hx], HP3.out, HIQ.out, HVE.out⟩
        case rest =>
          obtain ⟨hpbad, hp4, hip4, hve4⟩ := hcut
          have HERR := Lib.hid (err_none bs (by rw [HL.out]; omega) (by rw [HCC.out]; exact hver) (by rw [HM.out]; exact HCS.out) HXB.out hpbad)
          have HP4 := Lib.hid hp4
          have HI4 := Lib.hid hip4
          have HV4 := Lib.hid hve4
          have c10 := hip4.cell 10
          simp at c10
          have hpl : padN bs ≤ (rest2 bs).length := by
            unfold padBad at hpbad
            unfold padN
            split
            · rename_i hx
              rw [hx] at hpbad
              simp at hpbad
              omega
            · omega
          have hpd : padN bs < 256 := by
            unfold padN
            split
            · rename_i hx
              unfold padBad at hpbad
              rw [hx] at hpbad
              simp at hpbad
              exact HB2.out _ (lastOf_mem _ (by omega))
            · omega
          have HSRC := Lib.hid (src_take_any HS.out ((rest2 bs).length - padN bs) (by omega))
          have hl2 := HL2.out
          have hnil : A6 = none → (rest2 bs).length = 0 ∧ c6 = 0 := by
            rintro rfl
            rcases HS.out with ⟨e, e2⟩ | ⟨a, c', e, _⟩
            · injection e with e1 e3 e4
              exact ⟨by rw [e2]; rfl, e4⟩
            · injection e with e1
              simp at e1
          have hcap : (rest2 bs).length ≤ c6 := by
            rcases HS.out with ⟨e, e2⟩ | ⟨a, c', e, hle, _⟩
            · rw [e2]; exact Nat.zero_le _
            · injection e with e1 e3 e4
              omega
          have HPV := Lib.hid (show (parsed bs).csrc = csrcOf (bs.drop 12) n ∧ (parsed bs).ext = exts bs ∧ (parsed bs).pay = (rest2 bs).take ((rest2 bs).length - padN bs) from by rw [HPD.out]; exact ⟨rfl, rfl, rfl⟩)
          have HVAL := Lib.hid (show ∀ vp, (parsed bs).val (.slice Av n cv) (.slice A (exts bs).length ce) vp = .agg #[.bool (decide (128 ≤ c1)), Value.int .u8 ((c1 : Int) % 128), .int .u16 sq, .int .u32 tm, .int .u32 ss, .slice Av n cv, .bool (hasX bs), .int .u16 (profs bs : Nat), .slice A (exts bs).length ce, vp, .int .u8 (padN bs : Nat)] from by intro vp; rw [HPD.out]; rfl)
          clear hp4 hip4 hve4 hpbad
          generalize padN bs = pd at *
          generalize hLG : (rest2 bs).length = L2 at *
          have HLG := Lib.hid hLG
          clear hLG
          have w1_ : IntKind.i64.wrap ((L2 : Int) - (pd : Int)) = (L2 : Int) - (pd : Int) := IntWalk.i64_in _ (by omega)
          have w2_ : (0 : Int) ≤ (L2 : Int) - (pd : Int) := by omega
          have w3_ : ((L2 : Int) - (pd : Int)).toNat = L2 - pd := by omega
          have w4_ : (L2 : Int) - (pd : Int) ≤ (c6 : Int) := by omega
          go_upto_region 17 with (fail)
          go_cut [96] (fun s96 wx => ∃ (Ap : Option Addr) (cp : Nat), Pure w3 wx ∧ Is wx pb 33 #[.bool (decide (128 ≤ c1)), Value.int .u8 ((c1 : Int) % 128), .int .u16 sq, .int .u32 tm, .int .u32 ss, .slice Av n cv, .bool (hasX bs), .int .u16 (profs bs : Nat), .slice A (exts bs).length ce, .slice Ap (L2 - pd) cp, .int .u8 (pd : Nat)] ∧ wx.ownsRow w.heap.size 26 1 (.slice Av n cv) n (cells32 (csrcOf (bs.drop 12) n)) ∧ wx.ownsRow w.heap.size 5 1 (.slice A (exts bs).length ce) (exts bs).length (cellsOf (exts bs)) ∧ wx.ownsRow w.heap.size 5 1 (.slice Ap (L2 - pd) cp) (L2 - pd) (cellsOf ((rest2 bs).take (L2 - pd))))
          case first =>
            rcases A6 with _ | a6
            · obtain ⟨rfl, rfl⟩ := hnil rfl
              obtain rfl : pd = 0 := by omega
              have HLN := Lib.hid (show ((rest2 bs).take (0)).length = 0 from by rw [List.length_take, HLG.out]; omega)
              have HSX := Lib.hid (show Src w0 (.slice none (0) 0) ((rest2 bs).take (0)) from HSRC.out)
              have HPY := Lib.hid (show (parsed bs).pay = (rest2 bs).take (0) from HPV.out.2.2)
              go_wp2_with fail
              refine (clone_src _ ((rest2 bs).take (0)) _ w.heap.size (Nat.le_trans hw3 HP4.out.size) (HSX.out.later (HO1.out.trans' HP4.out) (by simp)) (by rw [HLN.out]; omega)).mono ?_
              rintro e w9 ⟨vp, rfl, hvp, ho9, _⟩
              rw [length_cellsOf, HLN.out] at hvp
              obtain ⟨Ap, cp, rfl, _⟩ := own_slice hvp
              have HVP := Lib.hid hvp
              have HO9 := Lib.hid ho9
              have hip9 := HI4.out.only ho9 (by simp)
              have c9 := hip9.cell 9
              simp at c9
              have f9 := hip9.free 9
              have HI9 := Lib.hid hip9
              clear hvp ho9 hip9 w1_ w2_ w3_ w4_ c10
              go_wp2_with fail
              go_meet
              generalize hw10 : World.setCell _ _ _ = w10
              have q1 := one_put (wz := w3) (B := w.heap.size) 9 _ hw10 HI9.out (HP4.out.trans' HO9.out) hpb (HV4.out.pure HO9.out (by simp)) (by decide)
              have q2 := one_put (wz := w3) (B := w.heap.size) 9 _ hw10 HI9.out (HP4.out.trans' HO9.out) hpb ((HVC.out.pure (HP4.out.trans' HO9.out) (by simp)).low P0.out.size) (by decide)
              have q3 := one_put (wz := w3) (B := w.heap.size) 9 _ hw10 HI9.out (HP4.out.trans' HO9.out) hpb HVP.out (by decide)
              exact ⟨Ap, cp, q1.1, q1.2.1, q2.2.2, q1.2.2, q3.2.2⟩
            · clear hnil
              have HLN := Lib.hid (show ((rest2 bs).take (L2 - pd)).length = L2 - pd from by rw [List.length_take, HLG.out]; omega)
              have HSX := Lib.hid (show Src w0 (.slice (some a6) (L2 - pd) c6) ((rest2 bs).take (L2 - pd)) from HSRC.out)
              have HPY := Lib.hid (show (parsed bs).pay = (rest2 bs).take (L2 - pd) from HPV.out.2.2)
              go_wp2_with fail
              refine (clone_src _ ((rest2 bs).take (L2 - pd)) _ w.heap.size (Nat.le_trans hw3 HP4.out.size) (HSX.out.later (HO1.out.trans' HP4.out) (by simp)) (by rw [HLN.out]; omega)).mono ?_
              rintro e w9 ⟨vp, rfl, hvp, ho9, _⟩
              rw [length_cellsOf, HLN.out] at hvp
              obtain ⟨Ap, cp, rfl, _⟩ := own_slice hvp
              have HVP := Lib.hid hvp
              have HO9 := Lib.hid ho9
              have hip9 := HI4.out.only ho9 (by simp)
              have c9 := hip9.cell 9
              simp at c9
              have f9 := hip9.free 9
              have HI9 := Lib.hid hip9
              clear hvp ho9 hip9 w1_ w2_ w3_ w4_ c10
              go_wp2_with fail
              go_meet
              generalize hw10 : World.setCell _ _ _ = w10
              have q1 := one_put (wz := w3) (B := w.heap.size) 9 _ hw10 HI9.out (HP4.out.trans' HO9.out) hpb (HV4.out.pure HO9.out (by simp)) (by decide)
              have q2 := one_put (wz := w3) (B := w.heap.size) 9 _ hw10 HI9.out (HP4.out.trans' HO9.out) hpb ((HVC.out.pure (HP4.out.trans' HO9.out) (by simp)).low P0.out.size) (by decide)
              have q3 := one_put (wz := w3) (B := w.heap.size) 9 _ hw10 HI9.out (HP4.out.trans' HO9.out) hpb HVP.out (by decide)
              exact ⟨Ap, cp, q1.1, q1.2.1, q2.2.2, q1.2.2, q3.2.2⟩
          case rest =>
            obtain ⟨Ap, cp, h5, hT, r1, r2, r3⟩ := hcut
            have hir : Is wc w.heap.size 33 zeros := HI.out.only (HO1.out.trans' h5) (by simp)
            have HT := Lib.hid hT
            have HIR := Lib.hid hir
            have H5 := Lib.hid h5
            have R1 := Lib.hid r1
            have R2 := Lib.hid r2
            have R3 := Lib.hid r3
            clear hT hir h5 r1 r2 r3 w1_ w2_ w3_ w4_ hnil
            go_wp2_with (first | (refine wpList_load_row (o := ⟨some 97, _, _, _, _, _⟩) rfl _ _ rfl pb rfl _ _ _ _ HT.out Try.underlying33 rfl Try.sizePk ?_) | (refine wpList_store_is rfl 33 _ _ rfl w.heap.size _ rfl rfl 33 _ HIR.out Try.sizePk rfl (by simp [Value.oneCell']) ?_; intro w11 hi11 hp11))
            refine bodyPost_ret (results_is Try.results16 _ w11 w.heap.size 33 _ _ (.int .i64 0) rfl rfl hi11 Try.underlying33 rfl Try.sizePk) rfl ?_
            have hln : ((rest2 bs).take (L2 - pd)).length = L2 - pd := by rw [List.length_take, HLG.out]; omega
            have hg := got_ok (vc := .slice Av n cv) (ve := .slice A (exts bs).length ce) (vp := .slice Ap (L2 - pd) cp) P0.out (HO1.out.trans' H5.out) HIR.out hp11 HERR.out (by rw [HPV.out.1, csrcOf_length]; exact R1.out) (by rw [HPV.out.2.1]; exact R2.out) (by rw [HPV.out.2.2, hln]; exact R3.out)
            rw [HVAL.out] at hg
            exact hg
end Go.Proofs.Ytcgfmjdlningpaa
