/- roster: Get, has. Conditions: as each says. -/
import Derived.Test.YtglgmhdajmncjaaRyA
set_option linter.unusedVariables false
set_option linter.unusedSimpArgs false
namespace Go.Proofs.Ytglgmhdajmncjaa
open Go Go.RowKit

def getV (o : Option Mb) : Value := match o with
  | some m => .tuple #[mbV m, .bool true]
  | none => .tuple #[mbV mb0, .bool false]
theorem find_at {p : Mb → Bool} {l : List Mb} {k : Nat} {x : Mb} (hno : ∀ m ∈ l.take k, p m = false) (hk : l[k]? = some x) (hx : p x = true) : l.find? p = some x := by
  obtain ⟨hkl, hke⟩ := List.getElem?_eq_some_iff.1 hk
  rw [← List.take_append_drop k l, List.find?_append, List.find?_eq_none.2 (fun m hm => by simp [hno m hm]), Option.none_or, List.drop_eq_getElem_cons hkl, List.find?_cons_of_pos (by rw [hke]; exact hx), hke]
theorem find_no {p : Mb → Bool} {l : List Mb} (hno : ∀ m ∈ l.take l.length, p m = false) : l.find? p = none := by
  rw [List.take_length] at hno
  exact List.find?_eq_none.2 (fun m hm => by simp [hno m hm])
theorem take_more {p : Mb → Bool} {l : List Mb} {k : Nat} {x : Mb} (hno : ∀ m ∈ l.take k, p m = false) (hk : l[k]? = some x) (hx : p x = false) : ∀ m ∈ l.take (k + 1), p m = false := by
  intro m hm
  rw [List.take_add_one, hk] at hm
  rcases List.mem_append.1 hm with h | h
  · exact hno m h
  · simp only [Option.toList_some, List.mem_singleton] at h
    rw [h]; exact hx
set_option maxRecDepth 100000 in
set_option maxHeartbeats 1000000 in
theorem get_nil (id : Int) (w : World) : Calls Try.prog 27 #[.pointer none, .int .i64 id] w (SaysR (getV none) w) := by
  go_enter Try.func27, Try.ntmps27
  go_wp2_with fail
  refine (rthere_nil _).mono ?_
  rintro e w1 ⟨rfl, rfl⟩
  go_wp2
  refine bodyPost_ret (results_is Try.results27 _ _ w.heap.size 58 _ _ (.bool false) rfl rfl (Is.made w _ zeroMb) Try.underlying58 rfl Try.sizeMb) rfl ?_
  exact ⟨rfl, (Only.refl _ w).alloc _⟩
set_option maxRecDepth 100000 in
set_option maxHeartbeats 4000000 in
theorem get_is (B b mb : Nat) (id : Int) (r : Ro) (vl : Value) (w : World) (h : Ror w B b mb r vl) (hl : r.l.length ≤ 1000) : Calls Try.prog 27 #[ptr b, .int .i64 id] w (SaysR (getV (getM r.l id)) w) := by
  have HF := Lib.hid h
  obtain ⟨A, c, rfl, hc⟩ := h.row.slice
  rw [mbRows_length] at HF h hc
  obtain ⟨L, hL⟩ : ∃ L, r.l = L := ⟨_, rfl⟩
  have HL := Lib.hid hL
  rw [hL] at hl hc h HF ⊢
  obtain ⟨N, hN⟩ : ∃ N, L.length = N := ⟨_, rfl⟩
  have HN := Lib.hid hN
  rw [hN] at hl hc h HF
  clear hN
  go_enter Try.func27, Try.ntmps27
  go_wp2_with fail
  have H1 := Lib.hid (HF.out.pure ((Only.refl _ w).alloc (.cells zeroMb 58)))
  have HR := Lib.hid (Is.made w 58 zeroMb)
  have HO := Lib.hid ((Only.refl (fun _ => False) w).alloc (.cells zeroMb 58))
  obtain ⟨rb, hrb⟩ : ∃ rb, w.heap.size = rb := ⟨_, rfl⟩
  have HRB := Lib.hid hrb
  show Calls _ _ _ (w.alloc (.cells zeroMb 58)) _
  rw [hrb] at HR ⊢
  generalize w.alloc (.cells zeroMb 58) = w2 at *
  clear h hrb
  refine (rthere_is B b mb r _ w2 H1.out).mono ?_
  rintro e w1 ⟨rfl, rfl⟩
  have c1 : w2.cell? ⟨b, 1, none⟩ = some (.slice A N c) := H1.out.cell 1
  go_wp2
  clear c1
  go_loopw [17] (fun s17 wr => ∃ k : Nat, k ≤ N ∧ s17 = .int .i64 (k : Int) ∧ Hid (Only (fun _ => False) w2 wr) ∧ Hid (∀ m ∈ L.take k, (m.id == id) = false)) (fun s17 _ => N - (intOf s17).toNat)
  case atStart => exact ⟨0, by omega, rfl, Lib.hid (Only.refl _ _), Lib.hid (by simp)⟩
  case round =>
    obtain ⟨k, hk, rfl, hO, hno⟩ := hrel
    by_cases hkl : k < N
    · have hkI : (k : Int) < (N : Int) := by omega
      have hkx : k < L.length := by rw [HN.out]; exact hkl
      have hrow := H1.out.row.only hO.out (by simp)
      obtain ⟨g, c', hgc, -⟩ := hrow.place (by rw [mbRows_length, HL.out]; omega)
      obtain ⟨hA, -, -⟩ := Value.slice.inj hgc
      subst hA
      clear hgc
      have hx : L[k]? = some L[k] := List.getElem?_eq_getElem hkx
      have HX := Lib.hid hx
      have HRG := Lib.hid (hrow.range (g := g) rfl (mbRows_get (by rw [HL.out]; exact hx)))
      generalize L[k] = x at *
      obtain ⟨xi, xo, xa, xm⟩ := x
      have HI := Lib.hid (HR.out.only hO.out (by simp))
      clear hrow hx hkx
      go_upto_region 6 with (refine wpList_load_mid rfl 58 _ rfl g (k * 4) rfl [.int .i64 xi, .int .u32 (xo : Int), .int .u32 (xa : Int), .bool xm] _ HRG.out Try.underlying58 rfl Try.sizeMb ?_)
      have hM := Is.made wr 58 #[.int .i64 xi, .int .u32 (xo : Int), .int .u32 (xa : Int), .bool xm]
      have hO3 := (Only.refl (fun _ => False) wr).alloc (.cells #[.int .i64 xi, .int .u32 (xo : Int), .int .u32 (xa : Int), .bool xm] 58)
      have HM := Lib.hid hM
      have HO4 := Lib.hid (hO.out.trans hO3 (fun _ _ e => e))
      have HI4 := Lib.hid (HI.out.only hO3 (by simp))
      generalize wr.alloc (.cells #[.int .i64 xi, .int .u32 (xo : Int), .int .u32 (xa : Int), .bool xm] 58) = w3 at *
      clear hM hO3
      have c0 : w3.cell? ⟨wr.heap.size, 0, none⟩ = some (.int .i64 xi) := HM.out.cell 0
      by_cases hx : xi = id
      · have HE := Lib.hid (find_at (p := fun m => m.id == id) hno.out HX.out (by simpa using hx))
        have hb : (xi == id) = true := by simpa using hx
        clear hx
        go_wp2_with (first
          | (refine wpList_load_row (o := ⟨some 25, _, _, _, _, _⟩) rfl _ _ rfl wr.heap.size rfl _ _ _ _ HM.out Try.underlying58 rfl Try.sizeMb ?_)
          | (refine wpList_store_is rfl 58 _ _ rfl rb #[.int .i64 xi, .int .u32 (xo : Int), .int .u32 (xa : Int), .bool xm] rfl rfl _ _ HI4.out Try.sizeMb rfl (by simp [Value.oneCell']) ?_; intro w4 hI4 hO5; replace hI4 := Lib.hid hI4; replace hO5 := Lib.hid hO5))
        refine bodyPost_ret (results_is Try.results27 _ w4 rb 58 _ _ (.bool true) rfl rfl hI4.out Try.underlying58 rfl Try.sizeMb) rfl ?_
        refine ⟨?_, (HO.out.trans HO4.out (fun _ _ e => e)).trans hO5.out (fun i hi e => ?_)⟩
        · unfold getM
          rw [HE.out]
          rfl
        · have := HRB.out; omega
      · have HE := Lib.hid (take_more (p := fun m => m.id == id) hno.out HX.out (by simpa using hx))
        have hb : (xi == id) = false := by simpa using hx
        clear hx
        go_wp2
        exact ⟨⟨k + 1, by omega, by go_num, HO4, HE⟩, by simp [intOf]; omega⟩
    · obtain rfl : k = N := by omega
      have HI := Lib.hid (HR.out.only hO.out (by simp))
      have HE := Lib.hid (find_no (p := fun m => m.id == id) (l := L) (by rw [HN.out]; exact hno.out))
      go_wp2_with (refine wpList_store_is rfl 58 _ _ rfl rb zeroMb rfl rfl _ _ HI.out Try.sizeMb rfl (by simp [Value.oneCell', zeroMb]) ?_; intro w4 hI4 hO5; replace hI4 := Lib.hid hI4; replace hO5 := Lib.hid hO5)
      refine bodyPost_ret (results_is Try.results27 _ w4 rb 58 _ _ (.bool false) rfl rfl hI4.out Try.underlying58 rfl Try.sizeMb) rfl ?_
      refine ⟨?_, (HO.out.trans hO.out (fun _ _ e => e)).trans hO5.out (fun i hi e => ?_)⟩
      · unfold getM
        rw [HE.out]
        rfl
      · have := HRB.out; omega
end Go.Proofs.Ytglgmhdajmncjaa
