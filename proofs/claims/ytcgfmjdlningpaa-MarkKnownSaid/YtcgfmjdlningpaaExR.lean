/- The reference of layer 3: one, two, Known, may, Find, Form. Conditions: as each says. -/
import Derived.Test.YtcgfmjdlningpaaExB
set_option linter.unusedVariables false
namespace Go.Proofs.Ytcgfmjdlningpaa
open Go.RowKit

set_option maxRecDepth 100000 in
set_option maxHeartbeats 1000000 in
theorem rone_is (p : Nat) (w : World) : Calls Try.prog 60 #[.int .u16 p] w fun e w' => e = .returned (.bool (formB p == 1)) ∧ w = w' := by
  by_cases h1 : p = 48862
  · have ez : ((p : Int) == 48862) = true := by simp; omega
    rw [show (formB p == 1) = true from by rw [h1]; decide]
    clear h1
    go_enter Try.func60, Try.ntmps60
    go_wp2
    go_ret
    exact ⟨rfl, rfl⟩
  · have ez : ((p : Int) == 48862) = false := by simp; omega
    rw [show (formB p == 1) = false from by unfold formB; rw [if_neg h1]; split <;> rfl]
    clear h1
    go_enter Try.func60, Try.ntmps60
    go_wp2
    go_ret
    exact ⟨rfl, rfl⟩
set_option maxRecDepth 100000 in
set_option maxHeartbeats 1000000 in
theorem rtwo_is (p : Nat) (w : World) : Calls Try.prog 67 #[.int .u16 p] w fun e w' => e = .returned (.bool (decide (4096 ≤ p ∧ p ≤ 4111))) ∧ w = w' := by
  by_cases h1 : 4096 ≤ p
  · have e1 : decide ((4096 : Int) ≤ (p : Int)) = true := decide_eq_true (by omega)
    have h1' : (4096 : Int) ≤ (p : Int) := by omega
    by_cases h2 : p ≤ 4111
    · have e2 : decide ((p : Int) ≤ 4111) = true := decide_eq_true (by omega)
      have h2' : (p : Int) ≤ 4111 := by omega
      rw [show decide (4096 ≤ p ∧ p ≤ 4111) = true from decide_eq_true ⟨h1, h2⟩]
      go_enter Try.func67, Try.ntmps67
      go_wp2
      go_ret
      exact ⟨rfl, rfl⟩
    · have e2 : decide ((p : Int) ≤ 4111) = false := decide_eq_false (by omega)
      have h2' : ¬ (p : Int) ≤ 4111 := by omega
      rw [show decide (4096 ≤ p ∧ p ≤ 4111) = false from decide_eq_false (fun h => h2 h.2)]
      go_enter Try.func67, Try.ntmps67
      go_wp2
      go_ret
      exact ⟨rfl, rfl⟩
  · have e1 : decide ((4096 : Int) ≤ (p : Int)) = false := decide_eq_false (by omega)
    have h1' : ¬ (4096 : Int) ≤ (p : Int) := by omega
    rw [show decide (4096 ≤ p ∧ p ≤ 4111) = false from decide_eq_false (fun h => h1 h.1)]
    go_enter Try.func67, Try.ntmps67
    go_wp2
    go_ret
    exact ⟨rfl, rfl⟩
set_option maxRecDepth 100000 in
set_option maxHeartbeats 1000000 in
theorem rknown_is (p : Nat) (w : World) : Calls Try.prog 29 #[.int .u16 p] w fun e w' => e = .returned (.bool (decide (formB p ≠ 0))) ∧ w = w' := by
  have H1 := Lib.hid (fun w => rone_is p w)
  have H2 := Lib.hid (fun w => rtwo_is p w)
  by_cases h1 : p = 48862
  · rw [show (formB p == 1) = true from by rw [h1]; decide] at H1
    rw [show decide (formB p ≠ 0) = true from by rw [h1]; decide]
    clear h1
    go_enter Try.func29, Try.ntmps29
    go_wp2_with (first | (go_at_call 60; refine (H1.out _).mono ?_; rintro e w1 ⟨rfl, rfl⟩) | (go_at_call 67; refine (H2.out _).mono ?_; rintro e w1 ⟨rfl, rfl⟩))
    go_ret
    exact ⟨rfl, rfl⟩
  · rw [show (formB p == 1) = false from by unfold formB; rw [if_neg h1]; split <;> rfl] at H1
    have e2 : decide (formB p ≠ 0) = decide (4096 ≤ p ∧ p ≤ 4111) := by
      unfold formB
      rw [if_neg h1]
      by_cases h2 : 4096 ≤ p ∧ p ≤ 4111 <;> simp [h2]
    rw [e2]
    generalize decide (4096 ≤ p ∧ p ≤ 4111) = d at *
    clear h1 e2
    go_enter Try.func29, Try.ntmps29
    go_wp2_with (first | (go_at_call 60; refine (H1.out _).mono ?_; rintro e w1 ⟨rfl, rfl⟩) | (go_at_call 67; refine (H2.out _).mono ?_; rintro e w1 ⟨rfl, rfl⟩))
    go_ret
    exact ⟨rfl, rfl⟩

theorem may_one (x : El) : elOk true x = (decide (1 ≤ x.id) && decide (x.id ≤ 14) && decide (1 ≤ x.data.length) && decide (x.data.length ≤ 16)) := by
  unfold elOk
  rw [Bool.eq_iff_iff]
  simp
  omega
theorem may_two (x : El) : elOk false x = (decide (1 ≤ x.id) && decide (x.data.length ≤ 255)) := by
  unfold elOk
  rw [Bool.eq_iff_iff]
  simp
theorem rmay_one (x : El) (A : Option Addr) (c : Nat) (w : World) (hid : x.id < 256) (hn : x.data.length ≤ 1000000) :
    Calls Try.prog 68 #[.agg #[.int .u8 (x.id : Nat), .slice A x.data.length c], .bool true] w fun e w' => e = .returned (.bool (elOk true x)) ∧ Only (fun _ => False) w w' := by
  have HX := Lib.hid (may_one x)
  generalize elOk true x = res at *
  generalize x.id = id at *
  generalize x.data.length = dl at *
  have O1 := Lib.hid ((Only.refl (fun _ => False) w).alloc (.cells #[.int .u8 (id : Nat), .slice A dl c] 101))
  have I1 := Lib.hid (Is.made w 101 #[.int .u8 (id : Nat), .slice A dl c])
  go_enter Try.func68, Try.ntmps68
  go_upto_region 2 with (fail)
  generalize (w.alloc (.cells #[.int .u8 (id : Nat), .slice A dl c] 101)) = w1 at *
  generalize w.heap.size = pb at *
  have c0 := I1.out.cell 0
  have c1 := I1.out.cell 1
  simp at c0 c1
  have FIN := Lib.hid (show ∀ r, res = r → ∀ w3, w1 = w3 → Ending.returned (.bool r) = Ending.returned (.bool res) ∧ Only (fun _ => False) w w3 from by rintro r rfl w3 rfl; exact ⟨rfl, O1.out⟩)
  by_cases h1 : 1 ≤ id
  · have h1' : (1 : Int) ≤ (id : Int) := by omega
    by_cases h2 : id ≤ 14
    · have h2' : (id : Int) ≤ 14 := by omega
      by_cases h3 : 1 ≤ dl
      · have h3' : (1 : Int) ≤ (dl : Int) := by omega
        by_cases h4 : dl ≤ 16
        · have h4' : (dl : Int) ≤ 16 := by omega
          have HZ := Lib.hid (show res = true from by rw [HX.out]; simp; omega)
          go_wp2
          go_ret
          exact FIN.out _ HZ.out _ rfl
        · have h4' : ¬ (dl : Int) ≤ 16 := by omega
          have HZ := Lib.hid (show res = false from by rw [HX.out]; simp; omega)
          go_wp2
          go_ret
          exact FIN.out _ HZ.out _ rfl
      · have h3' : ¬ (1 : Int) ≤ (dl : Int) := by omega
        have HZ := Lib.hid (show res = false from by rw [HX.out]; simp; omega)
        go_wp2
        go_ret
        exact FIN.out _ HZ.out _ rfl
    · have h2' : ¬ (id : Int) ≤ 14 := by omega
      have HZ := Lib.hid (show res = false from by rw [HX.out]; simp; omega)
      go_wp2
      go_ret
      exact FIN.out _ HZ.out _ rfl
  · have h1' : ¬ (1 : Int) ≤ (id : Int) := by omega
    have HZ := Lib.hid (show res = false from by rw [HX.out]; simp; omega)
    go_wp2
    go_ret
    exact FIN.out _ HZ.out _ rfl
theorem rmay_two (x : El) (A : Option Addr) (c : Nat) (w : World) (hid : x.id < 256) (hn : x.data.length ≤ 1000000) :
    Calls Try.prog 68 #[.agg #[.int .u8 (x.id : Nat), .slice A x.data.length c], .bool false] w fun e w' => e = .returned (.bool (elOk false x)) ∧ Only (fun _ => False) w w' := by
  have HX := Lib.hid (may_two x)
  generalize elOk false x = res at *
  generalize x.id = id at *
  generalize x.data.length = dl at *
  have O1 := Lib.hid ((Only.refl (fun _ => False) w).alloc (.cells #[.int .u8 (id : Nat), .slice A dl c] 101))
  have I1 := Lib.hid (Is.made w 101 #[.int .u8 (id : Nat), .slice A dl c])
  go_enter Try.func68, Try.ntmps68
  go_upto_region 3 with (fail)
  generalize (w.alloc (.cells #[.int .u8 (id : Nat), .slice A dl c] 101)) = w1 at *
  generalize w.heap.size = pb at *
  have c0 := I1.out.cell 0
  have c1 := I1.out.cell 1
  simp at c0 c1
  have FIN := Lib.hid (show ∀ r, res = r → ∀ w3, w1 = w3 → Ending.returned (.bool r) = Ending.returned (.bool res) ∧ Only (fun _ => False) w w3 from by rintro r rfl w3 rfl; exact ⟨rfl, O1.out⟩)
  by_cases h1 : 1 ≤ id
  · have h1' : (1 : Int) ≤ (id : Int) := by omega
    by_cases h4 : dl ≤ 255
    · have h4' : (dl : Int) ≤ 255 := by omega
      have HZ := Lib.hid (show res = true from by rw [HX.out]; simp; omega)
      go_wp2
      go_ret
      exact FIN.out _ HZ.out _ rfl
    · have h4' : ¬ (dl : Int) ≤ 255 := by omega
      have HZ := Lib.hid (show res = false from by rw [HX.out]; simp; omega)
      go_wp2
      go_ret
      exact FIN.out _ HZ.out _ rfl
  · have h1' : ¬ (1 : Int) ≤ (id : Int) := by omega
    have HZ := Lib.hid (show res = false from by rw [HX.out]; simp; omega)
    go_wp2
    go_ret
    exact FIN.out _ HZ.out _ rfl
theorem rmay_is (one : Bool) (x : El) (A : Option Addr) (c : Nat) (w : World) (hid : x.id < 256) (hn : x.data.length ≤ 1000000) :
    Calls Try.prog 68 #[.agg #[.int .u8 (x.id : Nat), .slice A x.data.length c], .bool one] w fun e w' => e = .returned (.bool (elOk one x)) ∧ Only (fun _ => False) w w' := by
  cases one
  · exact rmay_two x A c w hid hn
  · exact rmay_one x A c w hid hn

def RFindEnd (r : Option El) (w : World) (e : Ending) (w' : World) : Prop :=
  Only (fun _ => False) w w' ∧ ((r = none ∧ e = .returned (.tuple #[.slice none 0 0, .bool false])) ∨
    ∃ x, r = some x ∧ ∃ v, e = .returned (.tuple #[v, .bool true]) ∧ Src w' v x.data)
set_option maxRecDepth 100000 in
set_option maxHeartbeats 2000000 in
theorem rfind_is (id : Nat) (v : Value) (l : List El) (w : World) (hr : RdE w v l) (hf : ∀ x ∈ l, x.id < 256) (hid : id < 256) (hl : l.length ≤ 1000000) :
    Calls Try.prog 33 #[.int .u8 id, v] w (RFindEnd (findEl id l) w) := by
  obtain ⟨A, c, rfl, hlc, hh⟩ := hr
  have HF := Lib.hid hf
  have HH := Lib.hid hh
  obtain ⟨L, hL⟩ : ∃ L, l.length = L := ⟨_, rfl⟩
  have HL := Lib.hid hL
  rw [hL] at hl hlc ⊢
  clear hf hL hh
  go_enter Try.func33, Try.ntmps33
  go_wp2
  go_loopw [6] (fun s10 wr => ∃ k : Nat, k ≤ L ∧ s10 = .int .i64 k ∧ findEl id (l.drop k) = findEl id l ∧ w = wr) (fun s10 _ => L - (intOf s10).toNat)
  case atStart => exact ⟨0, by omega, rfl, rfl, rfl⟩
  case round =>
    obtain ⟨k, hk, rfl, hall, rfl⟩ := hrel
    have HALL := Lib.hid hall
    clear hall
    by_cases hkl : k < L
    · have hkb : k < l.length := by rw [HL.out]; exact hkl
      obtain ⟨x, hx⟩ : ∃ x, l[k]? = some x := ⟨_, List.getElem?_eq_getElem hkb⟩
      obtain ⟨g, o, rfl, hcell⟩ := HH.out (by rw [HL.out]; omega)
      obtain ⟨u, hu1, hu2⟩ := hcell k x hx
      have hm := List.mem_of_getElem? hx
      have hxid := HF.out x hm
      have HDR := Lib.hid (show l.drop k = x :: l.drop (k + 1) from by
        obtain ⟨hk', rfl⟩ := List.getElem?_eq_some_iff.1 hx
        exact List.drop_eq_getElem_cons hk')
      obtain ⟨q0, q1⟩ := hu1
      have SU := Lib.hid hu2
      obtain ⟨Au, cu, rfl⟩ := hu2.slice
      have hkI : (k : Int) < (L : Int) := by omega
      have HJ := Lib.hid (show findEl id l = if x.id = id then some x else findEl id (l.drop (k + 1)) from by
        rw [← HALL.out, HDR.out]
        unfold findEl
        rw [List.find?_cons]
        by_cases e : x.id = id
        · simp [e]
        · rw [show (x.id == id) = false from by simp [e], if_neg e])
      clear hcell hu2 hx hm hkb
      by_cases he : x.id = id
      · have ez : ((x.id : Int) == (id : Int)) = true := by simp [he]
        have HJ1 := Lib.hid (show findEl id l = some x from by rw [HJ.out, if_pos he])
        clear he
        go_wp2
        go_ret2
        exact ⟨Only.refl _ _, .inr ⟨x, HJ1.out, _, rfl, SU.out⟩⟩
      · have ez : ((x.id : Int) == (id : Int)) = false := by simp; omega
        have HJ1 := Lib.hid (show findEl id (l.drop (k + 1)) = findEl id l from by rw [HJ.out, if_neg he])
        clear he
        go_wp2
        go_roundw
        case rel => exact ⟨k + 1, by omega, by go_num, HJ1.out, trivial⟩
        case measure => simp [intOf]; omega
    · obtain rfl : k = L := by omega
      have HE := Lib.hid (show findEl id l = none from by rw [← HALL.out, List.drop_eq_nil_of_le (by rw [HL.out]; exact Nat.le_refl _)]; rfl)
      go_wp2
      go_ret2
      exact ⟨Only.refl _ _, .inl ⟨HE.out, rfl⟩⟩

theorem all_snoc {l : List El} {k : Nat} {x : El} (p : El → Bool) (h : l[k]? = some x) : (l.take (k + 1)).all p = ((l.take k).all p && p x) := by
  obtain ⟨hk, rfl⟩ := List.getElem?_eq_some_iff.1 h
  rw [List.take_succ_eq_append_getElem hk, List.all_append]
  simp
set_option maxRecDepth 100000 in
set_option maxHeartbeats 8000000 in
theorem rform_is (v : Value) (l : List El) (w : World) (hr : RdE w v l) (hf : ∀ x ∈ l, x.id < 256) (hl : l.length ≤ 1000000) (hb : ∀ x ∈ l, x.data.length ≤ 1000000) :
    Calls Try.prog 34 #[v] w fun e w' => e = .returned (formE l) ∧ Only (fun _ => False) w w' := by
  obtain ⟨A, c, rfl, hlc, hh⟩ := hr
  have HF := Lib.hid hf
  have HB := Lib.hid hb
  have HH := Lib.hid hh
  obtain ⟨L, hL⟩ : ∃ L, l.length = L := ⟨_, rfl⟩
  have HL := Lib.hid hL
  rw [hL] at hl hlc ⊢
  clear hf hb hL hh
  go_enter Try.func34, Try.ntmps34
  go_wp2
  go_loopw [4, 5, 6] (fun s4 s5 s6 wr => ∃ k : Nat, k ≤ L ∧ s6 = .int .i64 k ∧ s4 = .bool ((l.take k).all (elOk true)) ∧ s5 = .bool ((l.take k).all (elOk false)) ∧ Only (fun _ => False) w wr) (fun _ _ s6 _ => L - (intOf s6).toNat)
  case atStart => exact ⟨0, by omega, rfl, rfl, rfl, Only.refl _ _⟩
  case round =>
    obtain ⟨k, hk, rfl, rfl, rfl, ho⟩ := hrel
    have O1 := Lib.hid ho
    clear ho
    by_cases hkl : k < L
    · have hkb : k < l.length := by rw [HL.out]; exact hkl
      obtain ⟨x, hx⟩ : ∃ x, l[k]? = some x := ⟨_, List.getElem?_eq_getElem hkb⟩
      obtain ⟨g, o, rfl, hcell⟩ := HH.out (by rw [HL.out]; omega)
      obtain ⟨u, hu1, hu2⟩ := hcell k x hx
      have hm := List.mem_of_getElem? hx
      have hxid := HF.out x hm
      have hdl := HB.out x hm
      have HE := Lib.hid hu1
      obtain ⟨q0, q1⟩ := hu1.only O1.out
      obtain ⟨Au, cu, rfl⟩ := hu2.slice
      have hkI : (k : Int) < (L : Int) := by omega
      have HT := Lib.hid (all_snoc (elOk true) hx)
      have HN := Lib.hid (all_snoc (elOk false) hx)
      have M1 := Lib.hid (fun w => rmay_one x Au cu w hxid hdl)
      have M2 := Lib.hid (fun w => rmay_two x Au cu w hxid hdl)
      clear hcell hu2 hx hm hkb
      generalize (l.take k).all (elOk true) = bt at *
      generalize (l.take k).all (elOk false) = bf at *
      generalize elOk true x = mt at *
      generalize elOk false x = mf at *
      cases bt
      · cases bf
        · go_wp2
          go_roundw
          case rel => exact ⟨k + 1, by omega, by go_num, by rw [HT.out]; rfl, by rw [HN.out]; rfl, O1.out⟩
          case measure => simp [intOf]; omega
        · go_wp2_with (go_at_call 68; refine (M2.out _).mono ?_; rintro e w2 ⟨rfl, ho2⟩; have O2 := Lib.hid (only_more O1.out ho2); clear ho2)
          go_roundw
          case rel => exact ⟨k + 1, by omega, by go_num, by rw [HT.out]; rfl, by rw [HN.out]; rfl, O2.out⟩
          case measure => simp [intOf]; omega
      · cases bf
        · go_wp2_with (go_at_call 68; refine (M1.out _).mono ?_; rintro e w2 ⟨rfl, ho2⟩; have O2 := Lib.hid (only_more O1.out ho2); clear ho2)
          go_roundw
          case rel => exact ⟨k + 1, by omega, by go_num, by rw [HT.out]; rfl, by rw [HN.out]; rfl, O2.out⟩
          case measure => simp [intOf]; omega
        · go_upto_region 6 with (go_at_call 68; refine (M1.out _).mono ?_; rintro e w2 ⟨rfl, ho2⟩; have O2 := Lib.hid (only_more O1.out ho2); clear ho2)
          clear q0 q1
          obtain ⟨q0, q1⟩ := HE.out.only O2.out
          go_wp2_with (go_at_call 68; refine (M2.out _).mono ?_; rintro e w3 ⟨rfl, ho3⟩; have O3 := Lib.hid (only_more O2.out ho3); clear ho3)
          go_roundw
          case rel => exact ⟨k + 1, by omega, by go_num, by rw [HT.out]; rfl, by rw [HN.out]; rfl, O3.out⟩
          case measure => simp [intOf]; omega
    · obtain rfl : k = L := by omega
      have HFE := Lib.hid (show formE l = (if l.take k |>.all (elOk true) then .tuple #[.int .u16 48862, .bool true] else if (l.take k).all (elOk false) then .tuple #[.int .u16 4096, .bool true] else .tuple #[.int .u16 0, .bool false]) from by rw [List.take_of_length_le (by rw [HL.out]; exact Nat.le_refl _)]; rfl)
      generalize (l.take k).all (elOk true) = bt at *
      generalize (l.take k).all (elOk false) = bf at *
      cases bt
      · cases bf
        · go_wp2
          go_ret2
          exact ⟨by rw [HFE.out]; rfl, O1.out⟩
        · go_wp2
          go_ret2
          exact ⟨by rw [HFE.out]; rfl, O1.out⟩
      · go_wp2
        go_ret2
        exact ⟨by rw [HFE.out]; rfl, O1.out⟩
end Go.Proofs.Ytcgfmjdlningpaa
