/- vp8's Put. Conditions: as each says. -/
import Derived.Test.YtneogagainllnaaVpG
import Derived.Test.YtneogagainllnaaVpD
import Derived.Test.YtneogagainllnaaWBytes
set_option linter.unusedVariables false
namespace Go.Proofs.Ytneogagainllnaa
open Go.RowKit

/-- The digits of a descriptor. -/
def Dv.digits (d : Dv) : List Nat := (Vp.visit d []).2
theorem digits_len (d : Dv) : d.digits.length % 8 = 0 ∧ d.digits.length ≤ 48 := by
  obtain ⟨a1, a2, a3, a4, a5, a6, a7, a8, a9, a10, a11, a12, a13⟩ := d
  cases a4 <;> cases a5 <;> cases a7 <;> cases a9 <;> cases a12 <;> simp [Dv.digits, Vis.visit, Vis.first, Vis.second, Vis.more, Vis.more1, Vis.more2, Vis.more3, Vis.more4, Vis.s1, Vis.s2, Vis.s3, Vp, Dv.any, digs_length]

set_option maxRecDepth 100000 in
set_option maxHeartbeats 1000000 in
theorem put_no (d : Dv) (A : Option Addr) (n c : Nat) (w : World) (hf : d.Fit) (hr : d.right = false) :
    Calls Try.prog 17 #[d.val, .slice A n c] w fun e w' => e = .returned (.tuple #[.slice none 0 0, .int .i64 50]) ∧ Only (fun _ => False) w w' := by
  have HR := Lib.hid (fun w' => right_is d w' hf)
  rw [hr] at HR
  simp only [Dv.val] at HR ⊢
  have HI := Lib.hid (Is.made w 31 d.cells)
  clear hr
  go_enter Try.func17, Try.ntmps17
  go_wp2_with (first | (refine wpList_load_want (o := ⟨some 7, _, _, _, _, _⟩) rfl _ _ rfl w.heap.size rfl _ _ _ HI.out Try.underlying31 rfl Try.sizeDesc ?_) | (go_at_call 19; refine (HR.out _).mono ?_; rintro e w1 ⟨rfl, ho1⟩; have O1 := Lib.hid ho1; clear ho1))
  go_ret2
  exact ⟨rfl, ((Only.refl _ w).alloc _).trans O1.out (fun _ _ e => e)⟩
theorem new_stp (w : World) : Calls Try.prog 30 #[] w fun e w' => ∃ b, e = .returned (ptr b) ∧ StP b w.heap.size w' [] ∧ Only (fun _ => False) w w' := by
  refine (new_is w).mono ?_
  rintro e w' ⟨rfl, rfl⟩
  exact ⟨_, rfl, ⟨by simp, _, _, wr_new w _ (Nat.le_refl _)⟩, (Only.refl _ w).alloc _⟩
/-- What Put answers of a right descriptor. -/
def PutYes (d : Dv) (rest : List Nat) (w : World) (e : Ending) (w' : World) : Prop :=
  ∃ A c out, e = .returned (.tuple #[.slice A out.length c, .int .i64 0]) ∧ Wrote out (d.digits ++ D rest) ∧ w'.ownsRow w.heap.size 5 1 (.slice A out.length c) out.length (cellsOf out) ∧ Only (fun _ => False) w w'
theorem StP.pure {b B : Nat} {w w' : World} {d : List Nat} (h : StP b B w d) (ho : Only (fun _ => False) w w') : StP b B w' d := by
  obtain ⟨hB, bs, v, hw⟩ := h
  exact ⟨Nat.le_trans hB ho.size, bs, v, hw.is.only ho (by simp), own_only hw.row ho (by simp), hw.wrote, hw.base⟩
theorem bytes_stp (b B lb cl : Nat) (d xs : List Nat) (vx : Value) (w : World) (h : StP b B w d) (h8 : d.length % 8 = 0) (hl : w.cell? ⟨lb, 0, none⟩ = some vx) (hs : Src w vx xs) (hx : ∀ x ∈ xs, x < 256) (hd : d.length ≤ 1000) (hxl : xs.length ≤ 1000000) :
    Calls Try.prog 31 #[ptr b, .slice (some ⟨lb, 0, none⟩) 1 cl] w fun e w' => e = .returned (ptr b) ∧ StP b B w' (d ++ D xs) ∧ Gone B w w' := by
  obtain ⟨hB, bs, v, hw⟩ := h
  refine (wbytes_one b B lb cl d bs xs v vx w hw h8 hB hl hs hx (by omega) hxl).mono ?_
  rintro e w' ⟨he, bs', v', hw', ho⟩
  exact ⟨he, ⟨Nat.le_trans hB ho.size, bs', v', hw'⟩, gone_wr hw ho⟩

set_option maxRecDepth 100000 in
set_option maxHeartbeats 2000000 in
theorem put_yes (d : Dv) (v : Value) (xs : List Nat) (w : World) (hf : d.Fit) (hr : d.right = true) (hs : Src w v xs) (hx : ∀ x ∈ xs, x < 256) (hxl : xs.length ≤ 1000000) :
    Calls Try.prog 17 #[d.val, v] w (PutYes d xs w) := by
  obtain ⟨A, c, rfl⟩ := hs.slice
  obtain ⟨hd8, hdl⟩ := digits_len d
  have HR := Lib.hid (fun w' => right_is d w' hf)
  rw [hr] at HR
  have HS := Lib.hid hs
  have HX := Lib.hid hx
  have H8 := Lib.hid hd8
  have HF := Lib.hid hf
  simp only [Dv.val] at HR ⊢
  have HI := Lib.hid (Is.made w 31 d.cells)
  clear hr hs hx hd8 hf
  go_enter Try.func17, Try.ntmps17
  go_wp2_with (first | (refine wpList_load_want (o := ⟨some 7, _, _, _, _, _⟩) rfl _ _ rfl w.heap.size rfl _ _ _ HI.out Try.underlying31 rfl Try.sizeDesc ?_) | (go_at_call 19; refine (HR.out _).mono ?_; rintro e w1 ⟨rfl, ho1⟩; have O1 := Lib.hid (show Only (fun _ => False) w w1 from ((Only.refl _ w).alloc _).trans ho1 (fun _ _ e => e)); have I1 := Lib.hid (HI.out.only ho1 (by simp)); clear ho1) | (go_at_call 30; refine (new_stp _).mono ?_; rintro e w2 ⟨b, rfl, hst, ho2⟩; have ST2 := Lib.hid hst; have O2 := Lib.hid ho2; clear hst ho2) | (refine wpList_load_want (o := ⟨some 11, _, _, _, _, _⟩) rfl _ _ rfl w.heap.size rfl _ _ _ (I1.out.only O2.out (by simp)) Try.underlying31 rfl Try.sizeDesc ?_) | (go_at_call 26; refine (visit_putter b visitor_putter d _ [] ST2.out (by unfold roomP; decide) ST2.out.1 HF.out).mono ?_; rintro e w3 ⟨rfl, hst3, hg3⟩; have ST3 := Lib.hid hst3; have G3 := Lib.hid hg3; clear hst3 hg3))
  have T3 := Lib.hid (show Only (fun _ => False) w w3 from (O1.out.trans O2.out (fun _ _ e => e)).trans G3.out.1 (fun i hi e => by have := O1.out.size; omega))
  have hcell : (w3.alloc (.cells #[.slice A xs.length c] 22)).cell? ⟨w3.heap.size, 0, none⟩ = some (.slice A xs.length c) := by
    have := (Is.made w3 22 #[.slice A xs.length c]).cell 0
    rw [this]
    rfl
  refine (bytes_stp b w1.heap.size w3.heap.size 1 d.digits xs _ _ (ST3.out.alloc _) H8.out hcell (HS.out.only (T3.out.alloc _) (by simp)) HX.out (by omega) hxl).mono ?_
  rintro e w4 ⟨rfl, hst4, hg4⟩
  obtain ⟨hB4, bs4, v4, hw4⟩ := hst4
  have T4 := Lib.hid (show Only (fun _ => False) w w4 from (T3.out.alloc _).trans hg4.1 (fun i hi e => by have := O1.out.size; omega))
  have HW4 := Lib.hid hw4
  clear hw4 hg4 hB4 hcell
  go_wp2_with fail
  refine (out_is b _ w.heap.size _ bs4 v4 w4 HW4.out T4.out.size (by rw [List.length_append, D_length]; omega)).mono ?_
  rintro e w5 ⟨v5, rfl, hown, ho5, _⟩
  rw [length_cellsOf] at hown
  obtain ⟨A5, c5, rfl, _⟩ := own_slice hown
  have HO := Lib.hid hown
  have T5 := Lib.hid (T4.out.trans ho5 (fun _ _ e => e))
  clear hown ho5
  go_wp2
  go_ret2
  exact ⟨A5, c5, bs4, rfl, HW4.out.wrote, HO.out, T5.out⟩
end Go.Proofs.Ytneogagainllnaa
