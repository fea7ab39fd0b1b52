/- ext: Known, Find, Form. Conditions: as each says. -/
import Derived.Test.YtcgfmjdlningpaaExA
set_option linter.unusedVariables false
namespace Go.Proofs.Ytcgfmjdlningpaa
open Go.RowKit

theorem zeroF_one : zeroF.all (·.oneCell') = true := by simp [zeroF, Value.oneCell']
set_option maxRecDepth 100000 in
set_option maxHeartbeats 1000000 in
theorem known_is (p : Nat) (w : World) (hp : p < 65536) :
    Calls Try.prog 28 #[.int .u16 p] w fun e w' => e = .returned (.bool (decide (formB p ≠ 0))) ∧ Only (fun _ => False) w w' := by
  by_cases hf : formB p = 0
  · have HN := Lib.hid (fun w => formOf_none p w hp hf)
    have e1 : decide (formB p ≠ 0) = false := by simp [hf]
    have VF := Lib.hid zeroF_one
    rw [e1]
    clear hf e1
    go_enter Try.func28, Try.ntmps28
    go_wp2_with (first | (go_at_call 61; refine (HN.out _).mono ?_; rintro e w1 ⟨rfl, ho1⟩; have O1 := Lib.hid ho1; clear ho1) | (refine wpList_store_is rfl 104 _ _ rfl w1.heap.size zeroF rfl rfl 104 zeroF (Is.made _ _ zeroF) Try.sizeForm rfl VF.out ?_; intro w2 hi2 ho2))
    go_ret
    exact ⟨rfl, only_more O1.out (only_made ho2)⟩
  · have HN := Lib.hid (fun w => formOf_some p w hp hf)
    have e1 : decide (formB p ≠ 0) = true := by simp [hf]
    rw [e1]
    clear hf e1
    generalize (formB p == 1) = one at *
    have VF := Lib.hid (formC_one one)
    go_enter Try.func28, Try.ntmps28
    go_wp2_with (first | (go_at_call 61; refine (HN.out _).mono ?_; rintro e w1 ⟨rfl, ho1⟩; have O1 := Lib.hid ho1; clear ho1) | (refine wpList_store_is rfl 104 _ _ rfl w1.heap.size (formC one) rfl rfl 104 zeroF (Is.made _ _ zeroF) Try.sizeForm rfl VF.out ?_; intro w2 hi2 ho2))
    go_ret
    exact ⟨rfl, only_more O1.out (only_made ho2)⟩

/-- The first element with an id. -/
def findEl (id : Nat) (l : List El) : Option El := l.find? (fun x => x.id == id)
def FindEnd (r : Option El) (w : World) (e : Ending) (w' : World) : Prop :=
  Only (fun _ => False) w w' ∧ ((r = none ∧ e = .returned (.tuple #[.slice none 0 0, .bool false])) ∨
    ∃ x, r = some x ∧ ∃ v, e = .returned (.tuple #[v, .bool true]) ∧ w'.ownsRow w.heap.size 5 1 v x.data.length (cellsOf x.data))
set_option maxRecDepth 100000 in
set_option maxHeartbeats 2000000 in
theorem find_is (id : Nat) (v : Value) (l : List El) (w : World) (hr : RdE w v l) (hf : ∀ x ∈ l, x.id < 256) (hid : id < 256) (hl : l.length ≤ 1000000) (hb : ∀ x ∈ l, x.data.length ≤ 1000000) :
    Calls Try.prog 36 #[.int .u8 id, v] w (FindEnd (findEl id l) w) := by
  obtain ⟨A, c, rfl, hlc, hh⟩ := hr
  have HF := Lib.hid hf
  have HB := Lib.hid hb
  have HH := Lib.hid hh
  obtain ⟨L, hL⟩ : ∃ L, l.length = L := ⟨_, rfl⟩
  have HL := Lib.hid hL
  rw [hL] at hl hlc ⊢
  clear hf hb hL hh
  go_enter Try.func36, Try.ntmps36
  go_wp2
  go_loopw [10] (fun s10 wr => ∃ k : Nat, k ≤ L ∧ s10 = .int .i64 k ∧ findEl id (l.drop k) = findEl id l ∧ Only (fun _ => False) w wr) (fun s10 _ => L - (intOf s10).toNat)
  case atStart => exact ⟨0, by omega, rfl, rfl, Only.refl _ _⟩
  case round =>
    obtain ⟨k, hk, rfl, hall, ho⟩ := hrel
    have HALL := Lib.hid hall
    have O1 := Lib.hid ho
    clear hall ho
    by_cases hkl : k < L
    · have hkb : k < l.length := by rw [HL.out]; exact hkl
      obtain ⟨x, hx⟩ : ∃ x, l[k]? = some x := ⟨_, List.getElem?_eq_getElem hkb⟩
      obtain ⟨g, o, rfl, hcell⟩ := HH.out (by rw [HL.out]; omega)
      obtain ⟨u, hu1, hu2⟩ := hcell k x hx
      have hm := List.mem_of_getElem? hx
      have hxid := HF.out x hm
      have hdl := HB.out x hm
      have HDR := Lib.hid (show l.drop k = x :: l.drop (k + 1) from by
        obtain ⟨hk', rfl⟩ := List.getElem?_eq_some_iff.1 hx
        exact List.drop_eq_getElem_cons hk')
      obtain ⟨q0, q1⟩ := hu1.only O1.out
      have SU := Lib.hid (hu2.of_only O1.out)
      obtain ⟨Au, cu, rfl⟩ := hu2.slice
      have hkI : (k : Int) < (L : Int) := by omega
      have HJ := Lib.hid (show findEl id l = if x.id = id then some x else findEl id (l.drop (k + 1)) from by
        rw [← HALL.out, HDR.out]
        unfold findEl
        rw [List.find?_cons]
        by_cases e : x.id = id
        · simp [e]
        · rw [show (x.id == id) = false from by simp [e], if_neg e])
      clear hcell hu1 hu2 hx hm hkb
      have V1 := Lib.hid (show (#[.int .u8 (x.id : Nat), .slice Au x.data.length cu] : Array Value).all (·.oneCell') = true from by simp [Value.oneCell'])
      go_upto_region 4 with (refine wpList_store_is rfl 50 _ _ rfl wr.heap.size #[.int .u8 (x.id : Nat), .slice Au x.data.length cu] rfl rfl 50 zeroE (Is.made _ _ zeroE) Try.sizeEl rfl V1.out ?_; intro w2 hi2 ho2)
      have I2 := Lib.hid hi2
      have O2 := Lib.hid (only_more O1.out (only_made ho2))
      have S2 := Lib.hid (SU.out.of_only (only_made ho2))
      generalize wr.heap.size = pb at *
      clear hi2 ho2 q0 q1
      have c0 := I2.out.cell 0
      have c1 := I2.out.cell 1
      simp at c0 c1
      by_cases he : x.id = id
      · have ez : ((x.id : Int) == (id : Int)) = true := by simp [he]
        have HJ1 := Lib.hid (show findEl id l = some x from by rw [HJ.out, if_pos he])
        have CL := Lib.hid (clone_src (.slice Au x.data.length cu) x.data w2 w.heap.size O2.out.size S2.out (by omega))
        clear he
        go_wp2_with (go_at_call 58; refine CL.out.mono ?_; rintro e w3 ⟨v3, rfl, hv3, ho3, -⟩; have OV := Lib.hid hv3; have O3 := Lib.hid ho3; clear hv3 ho3)
        go_ret2
        refine ⟨only_more O2.out O3.out, .inr ⟨x, HJ1.out, v3, rfl, ?_⟩⟩
        have := OV.out
        rwa [length_cellsOf] at this
      · have ez : ((x.id : Int) == (id : Int)) = false := by simp; omega
        have HJ1 := Lib.hid (show findEl id (l.drop (k + 1)) = findEl id l from by rw [HJ.out, if_neg he])
        clear he
        go_wp2
        go_roundw
        case rel => exact ⟨k + 1, by omega, by go_num, HJ1.out, O2.out⟩
        case measure => simp [intOf]; omega
    · obtain rfl : k = L := by omega
      have HE := Lib.hid (show findEl id l = none from by rw [← HALL.out, List.drop_eq_nil_of_le (by rw [HL.out]; exact Nat.le_refl _)]; rfl)
      go_wp2
      go_ret2
      exact ⟨O1.out, .inl ⟨HE.out, rfl⟩⟩

/-- The first form that may hold elements. -/
def formE (l : List El) : Value := if l.all (elOk true) then .tuple #[.int .u16 48862, .bool true] else if l.all (elOk false) then .tuple #[.int .u16 4096, .bool true] else .tuple #[.int .u16 0, .bool false]
set_option maxRecDepth 100000 in
set_option maxHeartbeats 2000000 in
theorem form_is (v : Value) (l : List El) (w : World) (hr : RdE w v l) (hf : ∀ x ∈ l, x.id < 256) (hl : l.length ≤ 1000000) (hb : ∀ x ∈ l, x.data.length ≤ 1000000) :
    Calls Try.prog 37 #[v] w fun e w' => e = .returned (formE l) ∧ Only (fun _ => False) w w' := by
  have HR := Lib.hid hr
  obtain ⟨A, c, rfl, -, -⟩ := hr
  have i0 : ∀ w, (Instr.index 120 (.agg #[.int .u16 48862, .int .u16 4096]) (.int .i64 0)).run Try.prog w = .ok (.int .u16 48862) w := fun _ => by kernel_rfl
  have i1 : ∀ w, (Instr.index 120 (.agg #[.int .u16 48862, .int .u16 4096]) (.int .i64 1)).run Try.prog w = .ok (.int .u16 4096) w := fun _ => by kernel_rfl
  have HF1 := Lib.hid (fun w => formOf_some 48862 w (by decide) (by decide))
  have HF2 := Lib.hid (fun w => formOf_some 4096 w (by decide) (by decide))
  have HH := Lib.hid (fun one w' (ho : Only (fun _ => False) w w') => holds_is one _ l w' (HR.out.only ho) hf hl hb)
  have VT := Lib.hid (formC_one true)
  have VF := Lib.hid (formC_one false)
  clear hf hb hl
  generalize l.length = L at *
  go_enter Try.func37, Try.ntmps37
  go_wp2
  go_loopw [9] (fun s9 wr => ((s9 = .int .i64 0) ∨ (s9 = .int .i64 1 ∧ l.all (elOk true) = false) ∨ (s9 = .int .i64 2 ∧ l.all (elOk true) = false ∧ l.all (elOk false) = false)) ∧ Only (fun _ => False) w wr) (fun s9 _ => 2 - (intOf s9).toNat)
  case atStart => exact ⟨.inl rfl, Only.refl _ _⟩
  case round =>
    obtain ⟨hs, ho⟩ := hrel
    have O1 := Lib.hid ho
    clear ho
    rcases hs with rfl | ⟨rfl, h1⟩ | ⟨rfl, h1, h2⟩
    · obtain ⟨b, hb⟩ : ∃ b, l.all (elOk true) = b := ⟨_, rfl⟩
      have HHT := Lib.hid (fun w' ho => (HH.out true w' ho))
      rw [hb] at HHT
      have HBB := Lib.hid hb
      clear hb
      cases b
      · go_wp2_with (first
          | (go_at_call 61; refine (HF1.out _).mono ?_; rintro e w1 ⟨rfl, ho1⟩; have O2 := Lib.hid (only_more O1.out ho1); clear ho1)
          | (refine wpList_store_is rfl 104 _ _ rfl w1.heap.size (formC true) rfl rfl 104 zeroF (Is.made _ _ zeroF) Try.sizeForm rfl VT.out ?_; intro w2 hi2 ho2; have O3 := Lib.hid (only_more O2.out (only_made ho2)); have I2 := Lib.hid hi2; clear hi2 ho2)
          | (refine wpList_load_want rfl _ _ rfl w1.heap.size rfl _ _ _ I2.out Try.underlying104 rfl Try.sizeForm ?_)
          | (go_at_call 69; refine (HHT.out _ O3.out).mono ?_; rintro e w4 ⟨rfl, ho4⟩; have O4 := Lib.hid (only_more O3.out ho4); clear ho4))
        refine ⟨⟨.inr (.inl ⟨rfl, HBB.out⟩), O4.out⟩, by simp [intOf]⟩
      · go_wp2_with (first
          | (go_at_call 61; refine (HF1.out _).mono ?_; rintro e w1 ⟨rfl, ho1⟩; have O2 := Lib.hid (only_more O1.out ho1); clear ho1)
          | (refine wpList_store_is rfl 104 _ _ rfl w1.heap.size (formC true) rfl rfl 104 zeroF (Is.made _ _ zeroF) Try.sizeForm rfl VT.out ?_; intro w2 hi2 ho2; have O3 := Lib.hid (only_more O2.out (only_made ho2)); have I2 := Lib.hid hi2; clear hi2 ho2)
          | (refine wpList_load_want rfl _ _ rfl w1.heap.size rfl _ _ _ I2.out Try.underlying104 rfl Try.sizeForm ?_)
          | (go_at_call 69; refine (HHT.out _ O3.out).mono ?_; rintro e w4 ⟨rfl, ho4⟩; have O4 := Lib.hid (only_more O3.out ho4); clear ho4))
        go_ret2
        exact ⟨by unfold formE; rw [if_pos HBB.out]; rfl, O4.out⟩
    · have H1 := Lib.hid h1
      clear h1
      obtain ⟨b, hb⟩ : ∃ b, l.all (elOk false) = b := ⟨_, rfl⟩
      have HHT := Lib.hid (fun w' ho => (HH.out false w' ho))
      rw [hb] at HHT
      have HBB := Lib.hid hb
      clear hb
      cases b
      · go_wp2_with (first
          | (go_at_call 61; refine (HF2.out _).mono ?_; rintro e w1 ⟨rfl, ho1⟩; have O2 := Lib.hid (only_more O1.out ho1); clear ho1)
          | (refine wpList_store_is rfl 104 _ _ rfl w1.heap.size (formC false) rfl rfl 104 zeroF (Is.made _ _ zeroF) Try.sizeForm rfl VF.out ?_; intro w2 hi2 ho2; have O3 := Lib.hid (only_more O2.out (only_made ho2)); have I2 := Lib.hid hi2; clear hi2 ho2)
          | (refine wpList_load_want rfl _ _ rfl w1.heap.size rfl _ _ _ I2.out Try.underlying104 rfl Try.sizeForm ?_)
          | (go_at_call 69; refine (HHT.out _ O3.out).mono ?_; rintro e w4 ⟨rfl, ho4⟩; have O4 := Lib.hid (only_more O3.out ho4); clear ho4))
        refine ⟨⟨.inr (.inr ⟨rfl, H1.out, HBB.out⟩), O4.out⟩, by simp [intOf]⟩
      · go_wp2_with (first
          | (go_at_call 61; refine (HF2.out _).mono ?_; rintro e w1 ⟨rfl, ho1⟩; have O2 := Lib.hid (only_more O1.out ho1); clear ho1)
          | (refine wpList_store_is rfl 104 _ _ rfl w1.heap.size (formC false) rfl rfl 104 zeroF (Is.made _ _ zeroF) Try.sizeForm rfl VF.out ?_; intro w2 hi2 ho2; have O3 := Lib.hid (only_more O2.out (only_made ho2)); have I2 := Lib.hid hi2; clear hi2 ho2)
          | (refine wpList_load_want rfl _ _ rfl w1.heap.size rfl _ _ _ I2.out Try.underlying104 rfl Try.sizeForm ?_)
          | (go_at_call 69; refine (HHT.out _ O3.out).mono ?_; rintro e w4 ⟨rfl, ho4⟩; have O4 := Lib.hid (only_more O3.out ho4); clear ho4))
        go_ret2
        have h1 := H1.out
        exact ⟨by unfold formE; rw [if_neg (by rw [h1]; simp), if_pos HBB.out]; rfl, O4.out⟩
    · have H1 := Lib.hid h1
      have H2 := Lib.hid h2
      clear h1 h2
      go_wp2
      go_ret2
      exact ⟨by unfold formE; rw [if_neg (by rw [H1.out]; simp), if_neg (by rw [H2.out]; simp)]; rfl, O1.out⟩
end Go.Proofs.Ytcgfmjdlningpaa
