/- Parts of Parse: padding, the extension, contributors. Conditions: as each says. -/
import Derived.Test.YtcgfmjdlningpaaRtpC
import Derived.Test.YtcgfmjdlningpaaBase
import Derived.Deep.RegionHeld3
import Derived.Deep.DrawnRows
set_option linter.unusedVariables false
namespace Go.Proofs.Ytcgfmjdlningpaa
open Go.RowKit

/-- What the last byte tells of padding. -/
def lastOf (bs : List Nat) : Nat := bs.getLast?.getD 0
theorem lastOf_get (bs : List Nat) (h : 0 < bs.length) : bs[bs.length - 1]? = some (lastOf bs) := by
  unfold lastOf
  rw [List.getLast?_eq_getElem?]
  rw [List.getElem?_eq_getElem (by omega)]
  rfl

set_option maxRecDepth 100000 in
set_option maxHeartbeats 400000 in
theorem pad_none (A : Option Addr) (c : Nat) (w : World) : Calls Try.prog 57 #[.slice A 0 c] w fun e w' => e = .returned (.tuple #[.int .u8 0, .bool false]) ∧ w = w' := by
  go_enter Try.func57, Try.ntmps57
  go_wp2
  go_ret2
  exact ⟨rfl, rfl⟩

set_option maxRecDepth 100000 in
set_option maxHeartbeats 400000 in
theorem pad_some (v : Value) (bs : List Nat) (w : World) (h : Src w v bs) (hp : 0 < bs.length) (hl : bs.length ≤ 1000000) (hb : lastOf bs < 256) :
    Calls Try.prog 57 #[v] w fun e w' => e = .returned (.tuple #[.int .u8 (lastOf bs : Nat), .bool (decide (0 < lastOf bs ∧ lastOf bs ≤ bs.length))]) ∧ w = w' := by
  obtain ⟨g, o, c, rfl, hc⟩ := h.at_ hp
  have q := hc (bs.length - 1) (by omega)
  have hlast := lastOf_get bs hp
  rw [List.getElem?_eq_getElem (by omega)] at hlast
  have hl2 : bs[bs.length - 1] = lastOf bs := by simpa using hlast
  rw [hl2] at q
  generalize lastOf bs = x at *
  clear hlast hl2 hc h
  generalize bs.length = L at *
  have a1 : ((L : Int) - 1).toNat = L - 1 := by omega
  have a2 : (1 : Int) ≤ L := by omega
  have hne : ((L : Int) == 0) = false := by simp; omega
  by_cases h0 : 0 < x
  · by_cases h1 : x ≤ L
    · have e : decide (0 < x ∧ x ≤ L) = true := by simp [h0, h1]
      rw [e]
      clear e
      go_enter Try.func57, Try.ntmps57
      go_wp2
      go_ret2
      exact ⟨by simp, rfl⟩
    · have e : decide (0 < x ∧ x ≤ L) = false := by simp [h1]
      rw [e]
      clear e
      have h1' : L < x := by omega
      go_enter Try.func57, Try.ntmps57
      go_wp2
      go_ret2
      exact ⟨by simp, rfl⟩
  · have e : decide (0 < x ∧ x ≤ L) = false := by simp [h0]
    rw [e]
    clear e
    obtain rfl : x = 0 := by omega
    go_enter Try.func57, Try.ntmps57
    go_wp2
    go_ret2
    exact ⟨by simp, rfl⟩

set_option maxRecDepth 100000 in
set_option maxHeartbeats 400000 in
theorem ext_short (A : Option Addr) (L c : Nat) (w : World) (h : L < 4) : Calls Try.prog 56 #[.slice A L c] w fun e w' => e = .returned (.tuple #[.int .u16 0, .slice none 0 0, .slice none 0 0, .bool false]) ∧ w = w' := by
  go_enter Try.func56, Try.ntmps56
  go_wp2
  exact bodyPost_ret (v := .tuple #[.int .u16 0, .slice none 0 0, .slice none 0 0, .bool false]) (by simp [results, Try.results56, go_sem]) rfl ⟨rfl, rfl⟩

/-- How many bytes an extension takes that begins so. -/
def extEnd (bs : List Nat) : Nat := 4 + 4 * be ((bs.drop 2).take 2)
theorem two_of (bs : List Nat) (l : Nat) (h : l + 2 ≤ bs.length) : (bs.drop l).take 2 = [bs[l]'(by omega), bs[l + 1]'(by omega)] := by
  rw [List.drop_eq_getElem_cons (by omega), List.drop_eq_getElem_cons (by omega)]
  rfl
theorem four_of (bs : List Nat) (l : Nat) (h : l + 4 ≤ bs.length) : (bs.drop l).take 4 = [bs[l]'(by omega), bs[l + 1]'(by omega), bs[l + 2]'(by omega), bs[l + 3]'(by omega)] := by
  rw [List.drop_eq_getElem_cons (by omega), List.drop_eq_getElem_cons (by omega), List.drop_eq_getElem_cons (by omega), List.drop_eq_getElem_cons (by omega)]
  rfl
/-- The number of two bytes that lie there; of four. -/
theorem number2 (bs : List Nat) (l g o c d : Nat) (w : World) (hb : ∀ x ∈ bs, x < 256) (h : ∀ j (hj : j < bs.length), w.cell? ⟨g, o + j, none⟩ = some (.int .u8 (bs[j] : Int))) (hl : l + 2 ≤ bs.length) :
    Calls Try.prog 55 #[.slice (some ⟨g, o + l, none⟩) 2 d] w fun e w' => e = .returned (.int .u32 (be ((bs.drop l).take 2) : Nat)) ∧ Pure w w' := by
  rw [two_of bs l hl]
  refine numberOf2 _ _ g (o + l) d w (hb _ (List.getElem_mem _)) (hb _ (List.getElem_mem _)) ?_
  rw [← two_of bs l hl]
  rcases src_cut (n := 2) (d := 2) (c := 0) l 2 h hl rfl (Nat.le_refl _) with ⟨e, _⟩ | ⟨a, c', e, _, hc⟩
  · simp at e
  · injection e with e1
    injection e1 with e1
    subst e1
    exact hc
theorem number4 (bs : List Nat) (l g o c d : Nat) (w : World) (hb : ∀ x ∈ bs, x < 256) (h : ∀ j (hj : j < bs.length), w.cell? ⟨g, o + j, none⟩ = some (.int .u8 (bs[j] : Int))) (hl : l + 4 ≤ bs.length) :
    Calls Try.prog 55 #[.slice (some ⟨g, o + l, none⟩) 4 d] w fun e w' => e = .returned (.int .u32 (be ((bs.drop l).take 4) : Nat)) ∧ Pure w w' := by
  rw [four_of bs l hl]
  refine numberOf4 _ _ _ _ g (o + l) d w (hb _ (List.getElem_mem _)) (hb _ (List.getElem_mem _)) (hb _ (List.getElem_mem _)) (hb _ (List.getElem_mem _)) ?_
  rw [← four_of bs l hl]
  rcases src_cut (n := 4) (d := 4) (c := 0) l 4 h hl rfl (Nat.le_refl _) with ⟨e, _⟩ | ⟨a, c', e, _, hc⟩
  · simp at e
  · injection e with e1
    injection e1 with e1
    subst e1
    exact hc
theorem be2_lt (bs : List Nat) (l : Nat) (hb : ∀ x ∈ bs, x < 256) (hl : l + 2 ≤ bs.length) : be ((bs.drop l).take 2) < 65536 := by
  rw [two_of bs l hl, be2]
  have := hb _ (List.getElem_mem (l := bs) (n := l) (by omega))
  have := hb _ (List.getElem_mem (l := bs) (n := l + 1) (by omega))
  omega
theorem be4_lt (bs : List Nat) (l : Nat) (hb : ∀ x ∈ bs, x < 256) (hl : l + 4 ≤ bs.length) : be ((bs.drop l).take 4) < 4294967296 := by
  rw [four_of bs l hl, be4]
  have := hb _ (List.getElem_mem (l := bs) (n := l) (by omega))
  have := hb _ (List.getElem_mem (l := bs) (n := l + 1) (by omega))
  have := hb _ (List.getElem_mem (l := bs) (n := l + 2) (by omega))
  have := hb _ (List.getElem_mem (l := bs) (n := l + 3) (by omega))
  omega
theorem cells_pure {w w1 : World} {g o : Nat} {bs : List Nat} (h : ∀ j (hj : j < bs.length), w.cell? ⟨g, o + j, none⟩ = some (.int .u8 (bs[j] : Int))) (ho : Pure w w1) : ∀ j (hj : j < bs.length), w1.cell? ⟨g, o + j, none⟩ = some (.int .u8 (bs[j] : Int)) :=
  fun j hj => (ho.cell (World.block_lt_of_cell? w _ (h j hj)) (by simp)).trans (h j hj)

set_option maxRecDepth 100000 in
set_option maxHeartbeats 400000 in
theorem ext_none (v : Value) (bs : List Nat) (w : World) (h : Src w v bs) (hb : ∀ x ∈ bs, x < 256) (h4 : 4 ≤ bs.length) (hl : bs.length ≤ 1000000) (he : bs.length < extEnd bs) :
    Calls Try.prog 56 #[v] w fun e w' => e = .returned (.tuple #[.int .u16 0, .slice none 0 0, .slice none 0 0, .bool false]) ∧ Pure w w' := by
  obtain ⟨g, o, c, rfl, hlc, hc⟩ := h.cap (by omega)
  have HN := Lib.hid (number2 bs 2 g o c (c - 2) w hb hc (by omega))
  have hn := be2_lt bs 2 hb (by omega)
  unfold extEnd at he
  clear hb hc h
  generalize be ((bs.drop 2).take 2) = n at *
  generalize bs.length = L at *
  go_enter Try.func56, Try.ntmps56
  go_wp2_with fail
  refine HN.out.mono ?_
  rintro e w1 ⟨rfl, ho⟩
  have HO := Lib.hid ho
  clear ho
  go_wp2
  exact bodyPost_ret (v := .tuple #[.int .u16 0, .slice none 0 0, .slice none 0 0, .bool false]) (by simp [results, Try.results56, go_sem]) rfl ⟨rfl, HO.out⟩

/-- An extension, and what stands behind it. -/
def GotExt (wo w : World) (bs : List Nat) (e : Ending) (w' : World) : Prop :=
  ∃ ve vb, e = .returned (.tuple #[.int .u16 (be (bs.take 2) : Nat), ve, vb, .bool true]) ∧ w'.ownsRow w.heap.size 5 1 ve ((bs.drop 4).take (extEnd bs - 4)).length (cellsOf ((bs.drop 4).take (extEnd bs - 4))) ∧ Src wo vb (bs.drop (extEnd bs)) ∧ Pure w w'

theorem ext_fin {wo w wy : World} {bs : List Nat} {ve vb : Value} {n : Nat} (hE : extEnd bs = 4 + 4 * n) (hp : be ((bs.drop 0).take 2) < 65536) (hve : wy.ownsRow w.heap.size 5 1 ve (cellsOf ((bs.drop 4).take (4 * n))).length (cellsOf ((bs.drop 4).take (4 * n)))) (hvb : Src wo vb (bs.drop (4 + 4 * n))) (ho : Pure w wy) :
    GotExt wo w bs (.returned (.tuple #[.int .u16 (IntKind.u16.wrap (be (bs.take 2) : Nat)), ve, vb, .bool true])) wy := by
  rw [List.drop_zero] at hp
  have e : IntKind.u16.wrap ((be (bs.take 2) : Nat) : Int) = (be (bs.take 2) : Nat) := by
    rw [IntKind.wrap_u16]
    omega
  rw [e]
  rw [length_cellsOf] at hve
  refine ⟨ve, vb, rfl, ?_, ?_, ho⟩
  · rw [hE, Nat.add_sub_cancel_left]
    exact hve
  · rw [hE]
    exact hvb
set_option maxRecDepth 100000 in
set_option maxHeartbeats 1000000 in
theorem ext_some (v : Value) (bs : List Nat) (wo w : World) (h0 : Src wo v bs) (h : Src w v bs) (hb : ∀ x ∈ bs, x < 256) (h4 : 4 ≤ bs.length) (hl : bs.length ≤ 1000000) (he : extEnd bs ≤ bs.length) :
    Calls Try.prog 56 #[v] w (GotExt wo w bs) := by
  obtain ⟨g, o, c, rfl, hlc, hc⟩ := h.cap (by omega)
  have HCO := Lib.hid h0.cells_at
  clear h0
  have HN := Lib.hid (number2 bs 2 g o c (c - 2) w hb hc (by omega))
  have hn := be2_lt bs 2 hb (by omega)
  have hn0 := be2_lt bs 0 hb (by omega)
  have HC := Lib.hid hc
  have HB := Lib.hid hb
  have HEE := Lib.hid (show extEnd bs = 4 + 4 * be ((bs.drop 2).take 2) from rfl)
  have HB0 := Lib.hid (show be ((bs.drop 0).take 2) = be (bs.take 2) by simp)
  unfold extEnd at he
  clear hb hc h
  generalize be ((bs.drop 2).take 2) = n at *
  obtain ⟨L, hL⟩ : ∃ L, bs.length = L := ⟨_, rfl⟩
  rw [hL] at h4 hl hlc he ⊢
  have HL := Lib.hid hL
  clear hL
  have a1 : (4 + 4 * (n : Int)).toNat = 4 + 4 * n := by omega
  have a2 : (4 : Int) ≤ 4 + 4 * (n : Int) := by omega
  have a3 : (4 + 4 * (n : Int)) ≤ (c : Int) := by omega
  have a4 : (4 + 4 * (n : Int)) ≤ (L : Int) := by omega
  have a5 : (2 : Int) ≤ (c : Int) := by omega
  have a6 : (0 : Int) ≤ 4 + 4 * (n : Int) := by omega
  have a7 : (2 : Int) ≤ 4 + 4 * (n : Int) := by omega
  by_cases hc4 : c = 4
  · subst hc4
    obtain rfl : n = 0 := by omega
    go_enter Try.func56, Try.ntmps56
    go_wp2_with fail
    refine HN.out.mono ?_
    rintro e w1 ⟨rfl, ho⟩
    have HO := Lib.hid ho
    have HC1 := Lib.hid (cells_pure HC.out ho)
    clear ho
    go_upto_region 6 with (fail)
    go_region_held3 (fun w' => Pure w1 w') (first | exact (Only.refl _ _).drew | exact (Only.refl _ _).drew.trans hox (fun _ _ e => e) | exact ((Only.refl _ _).drew.trans hox (fun _ _ e => e)).trans hoy (fun _ _ e => e)) (first | (go_at_call 55; refine (number2 bs 0 g o 0 _ w1.drew HB.out HC1.out (by rw [HL.out]; omega)).mono ?_; rintro e wx ⟨rfl, hox⟩) | (go_at_call 58; refine (clone_src _ ((bs.drop 4).take (4 * 0)) wx w.heap.size (Nat.le_trans HO.out.size hox.size) (src_nil rfl rfl (by simp)) (by rw [List.length_take, List.length_drop, HL.out]; omega)).mono ?_; rintro e wy ⟨ve, rfl, hve, hoy, _⟩))
    go_wp2
    exact bodyPost_ret (v := .tuple #[.int .u16 (IntKind.u16.wrap (be (bs.take 2) : Nat)), ve, .slice (some ⟨g, o, none⟩) 0 0, .bool true]) (by simp [results, Try.results56, go_sem]) rfl (ext_fin (n := 0) HEE.out hn0 hve (src_nil rfl rfl (List.drop_eq_nil_of_le (by rw [HL.out]; omega))) (HO.out.trans ((Only.refl _ _).drew.trans hox (fun _ _ e => e) |>.trans hoy (fun _ _ e => e)) (fun _ _ e => e)))
  by_cases hce : c = 4 + 4 * n
  · subst hce
    go_enter Try.func56, Try.ntmps56
    go_wp2_with fail
    refine HN.out.mono ?_
    rintro e w1 ⟨rfl, ho⟩
    have HO := Lib.hid ho
    have HC1 := Lib.hid (cells_pure HC.out ho)
    clear ho
    go_upto_region 6 with (fail)
    go_region_held3 (fun w' => Pure w1 w') (first | exact (Only.refl _ _).drew | exact (Only.refl _ _).drew.trans hox (fun _ _ e => e) | exact ((Only.refl _ _).drew.trans hox (fun _ _ e => e)).trans hoy (fun _ _ e => e)) (first | (go_at_call 55; refine (number2 bs 0 g o 0 _ w1.drew HB.out HC1.out (by rw [HL.out]; omega)).mono ?_; rintro e wx ⟨rfl, hox⟩) | (go_at_call 58; refine (clone_src _ ((bs.drop 4).take (4 * n)) wx w.heap.size (Nat.le_trans HO.out.size hox.size) (by have := src_cut (n := 4 * n) (d := 4 * n) (c := 4 + 4 * n) 4 (4 * n) (cells_pure (w := w1.drew) HC1.out hox) (by rw [HL.out]; omega) rfl (by omega); exact this) (by rw [List.length_take, List.length_drop, HL.out]; omega)).mono ?_; rintro e wy ⟨ve, rfl, hve, hoy, _⟩))
    go_wp2
    exact bodyPost_ret (v := .tuple #[.int .u16 (IntKind.u16.wrap (be (bs.take 2) : Nat)), ve, .slice (some ⟨g, o, none⟩) 0 0, .bool true]) (by simp [results, Try.results56, go_sem]) rfl (ext_fin (n := n) HEE.out hn0 hve (src_nil rfl rfl (List.drop_eq_nil_of_le (by rw [HL.out]; omega))) (HO.out.trans ((Only.refl _ _).drew.trans hox (fun _ _ e => e) |>.trans hoy (fun _ _ e => e)) (fun _ _ e => e)))
  · go_enter Try.func56, Try.ntmps56
    go_wp2_with fail
    refine HN.out.mono ?_
    rintro e w1 ⟨rfl, ho⟩
    have HO := Lib.hid ho
    have HC1 := Lib.hid (cells_pure HC.out ho)
    clear ho
    go_upto_region 6 with (fail)
    go_region_held3 (fun w' => Pure w1 w') (first | exact (Only.refl _ _).drew | exact (Only.refl _ _).drew.trans hox (fun _ _ e => e) | exact ((Only.refl _ _).drew.trans hox (fun _ _ e => e)).trans hoy (fun _ _ e => e)) (first | (go_at_call 55; refine (number2 bs 0 g o 0 _ w1.drew HB.out HC1.out (by rw [HL.out]; omega)).mono ?_; rintro e wx ⟨rfl, hox⟩) | (go_at_call 58; refine (clone_src _ ((bs.drop 4).take (4 * n)) wx w.heap.size (Nat.le_trans HO.out.size hox.size) (by have := src_cut (n := 4 * n) (d := c - 4) (c := c) 4 (4 * n) (cells_pure (w := w1.drew) HC1.out hox) (by rw [HL.out]; omega) rfl (by omega); exact this) (by rw [List.length_take, List.length_drop, HL.out]; omega)).mono ?_; rintro e wy ⟨ve, rfl, hve, hoy, _⟩))
    go_wp2
    exact bodyPost_ret (v := .tuple #[.int .u16 (IntKind.u16.wrap (be (bs.take 2) : Nat)), ve, .slice (some ⟨g, o + (4 + 4 * n), none⟩) (L - (4 + 4 * n)) (c - (4 + 4 * n)), .bool true]) (by simp [results, Try.results56, go_sem]) rfl (ext_fin (n := n) HEE.out hn0 hve (src_drop (4 + 4 * n) HCO.out (by rw [HL.out]; omega) (by rw [HL.out]) (by rw [HL.out]; omega)) (HO.out.trans ((Only.refl _ _).drew.trans hox (fun _ _ e => e) |>.trans hoy (fun _ _ e => e)) (fun _ _ e => e)))
end Go.Proofs.Ytcgfmjdlningpaa
