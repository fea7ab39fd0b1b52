/- A window's rise, keep, In. Conditions: as each says. -/
import Derived.Test.YtllchikjdpoopaaWnB
set_option linter.unusedVariables false
namespace Go.Proofs.Ytllchikjdpoopaa
open Go Go.RowKit

theorem wiped_zero (f : Nat → Bool) (n : Nat) : wiped f n 0 = f := by
  funext p
  simp [wiped]
theorem wiped_succ (f : Nat → Bool) (n k : Nat) : (fun q => wiped f n k q && !((n - k) % 1024 == q)) = wiped f n (k + 1) := by
  funext p
  unfold wiped
  rw [List.range_succ, List.any_append, Bool.not_or, ← Bool.and_assoc]
  simp
theorem WIs.setTop {w : World} {b : Nat} {m : Wm} {D : Nat → Nat} (h : WIs w b m D) (n : Nat) : WIs (w.setCell ⟨b, 2, none⟩ (.int .u64 (n : Int))) b { m with top := n } D := ⟨h.is.put 2 _, h.dw⟩
theorem WIs.setLeast {w : World} {b : Nat} {m : Wm} {D : Nat → Nat} (h : WIs w b m D) (n : Nat) : WIs (w.setCell ⟨b, 3, none⟩ (.int .u64 (n : Int))) b { m with least := n } D := ⟨h.is.put 3 _, h.dw⟩
theorem WIs.setSome {w : World} {b : Nat} {m : Wm} {D : Nat → Nat} (h : WIs w b m D) (x : Bool) : WIs (w.setCell ⟨b, 1, none⟩ (.bool x)) b { m with some := x } D := ⟨h.is.put 1 _, h.dw⟩
theorem WIs.setCount {w : World} {b : Nat} {m : Wm} {D : Nat → Nat} (h : WIs w b m D) (i : Nat) (hi : i < 3) : WIs (w.setCell ⟨b, 20 + i, none⟩ (.int .u64 ((m.c i + 1 : Nat) : Int))) b (m.tell i) D := by
  refine ⟨?_, h.dw⟩
  have := h.is.put (20 + i) (.int .u64 ((m.c i + 1 : Nat) : Int))
  have e : (wnCells m D).setIfInBounds (20 + i) (.int .u64 ((m.c i + 1 : Nat) : Int)) = wnCells (m.tell i) D := by
    have : i = 0 ∨ i = 1 ∨ i = 2 := by omega
    rcases this with rfl | rfl | rfl <;> rfl
  rwa [e] at this
/-- A window lies there, in whatever words. -/
def Wnd (w : World) (b : Nat) (m : Wm) : Prop := ∃ D, WIs w b m D
/-- What a call leaves. -/
def Left (b : Nat) (m : Wm) (w : World) (e : Ending) (w' : World) : Prop := e = .returned (.tuple #[]) ∧ Wnd w' b m ∧ Only (fun k => k = b) w w'

set_option maxRecDepth 20000 in
set_option maxHeartbeats 2000000 in
theorem rise_is (b n : Nat) (m : Wm) (w : World) (h : Wnd w b m) (hf : m.Fit) (hn : n < 18446744073709551616) (ht : m.top < n) : Calls Try.prog 30 #[ptr b, .int .u64 (n : Int)] w (Left b (m.rise n) w) := by
  obtain ⟨D, h⟩ := h
  have H := Lib.hid (show WIs w b { m with f := wiped m.f n 0 } D from by rw [wiped_zero]; exact h)
  have HB := Lib.hid (fun k (wr : World) (D' : Nat → Nat) (h : WIs wr b { m with f := wiped m.f n k } D') => blank_is b (n - k) _ D' wr h)
  have c0 := h.size
  have c2 := h.top
  have h1 := hf.one
  have h2 := hf.le
  have HF := Lib.hid (show m.rise n = { m with top := n, f := wiped m.f n (min (n - m.top) m.size) } from rfl)
  obtain ⟨K, hK⟩ : ∃ K, min (n - m.top) m.size = K := ⟨_, rfl⟩
  rw [hK] at HF
  generalize m.rise n = mr at *
  have HKK := Lib.hid hK
  have hkn : K ≤ n := by omega
  have hks : K ≤ 1024 := by omega
  have HC0 := Lib.hid c0
  generalize m.size = s at *
  generalize m.top = t at *
  have e1 : IntKind.u64.wrap ((n : Int) - t) = ((n - t : Nat) : Int) := by rw [IntKind.wrap_u64]; omega
  clear h hf hK
  go_enter Try.func30, Try.ntmps30
  go_upto_region 0 with (fail)
  go_quiet (fail)
  rw [show (if s < n - t then (s : Int) else ((n - t : Nat) : Int)) = (K : Int) from by
    have := HKK.out
    split <;> omega]
  generalize hw1 : w.drewN nq = w1
  have W0 := Lib.hid (show ∃ D', WIs w1 b { m with size := s, top := t, f := wiped m.f n 0 } D' from by
    rw [← hw1]
    exact ⟨D, H.out.only ((Only.refl (fun _ => False) w).drewN nq) (by simp)⟩)
  have O0 := Lib.hid (show Only (fun k => k = b) w w1 from by rw [← hw1]; exact (Only.refl _ w).drewN nq)
  clear hw1 c0 c2 e1 HC0 H HKK
  go_wp2
  go_loopw [16] (fun i wr => ∃ k : Nat, k ≤ K ∧ i = .int .u64 k ∧ (∃ D', WIs wr b { m with size := s, top := t, f := wiped m.f n k } D') ∧ Only (fun k => k = b) w wr) (fun i _ => K - (intOf i).toNat)
  case atStart => exact ⟨0, by omega, rfl, W0.out, O0.out⟩
  case round =>
    obtain ⟨k, hk, rfl, ⟨D1, hW⟩, hO⟩ := hrel
    have HW := Lib.hid hW
    have HO := Lib.hid hO
    clear hW hO W0 O0
    by_cases hlt : k < K
    · have e2 : IntKind.u64.wrap ((n : Int) - k) = ((n - k : Nat) : Int) := by rw [IntKind.wrap_u64]; omega
      have e3 : IntKind.u64.wrap ((k : Int) + 1) = ((k + 1 : Nat) : Int) := by rw [IntKind.wrap_u64]; omega
      have HBB := Lib.hid (HB.out k wr D1 HW.out)
      have HX := Lib.hid (show (fun q => wiped m.f n k q && !((n - k) % 1024 == q)) = wiped m.f n (k + 1) from wiped_succ _ _ _)
      generalize n - k = x at *
      go_wp2_with fail
      refine HBB.out.mono ?_
      rintro e w2 ⟨rfl, ⟨D2, hd⟩, ho⟩
      have HD := Lib.hid hd
      have HO2 := Lib.hid (HO.out.trans ho (fun _ _ e => e))
      clear hd ho
      go_wp2
      go_roundw
      case rel => exact ⟨k + 1, by omega, by go_num, ⟨D2, by rw [← HX.out]; exact HD.out⟩, HO2.out⟩
      case measure => simp [intOf]; omega
    · obtain rfl : k = K := by omega
      have f2 := HW.out.free 2
      have c2 := HW.out.top
      go_wp2
      go_end0
      refine ⟨rfl, ⟨D1, ?_⟩, HO.out.set (fun _ => rfl) _⟩
      rw [HF.out]
      exact HW.out.setTop n

theorem Wm.Fit.begin {m : Wm} (h : m.Fit) {n : Nat} (hn : n < 18446744073709551616) : (m.begin n).Fit := by
  unfold Wm.begin
  split
  · exact h
  · exact ⟨h.one, h.le, hn, hn⟩
theorem Wm.Fit.up {m : Wm} (h : m.Fit) {n : Nat} (hn : n < 18446744073709551616) : (m.up n).Fit := by
  unfold Wm.up Wm.rise
  split
  · exact ⟨h.one, h.le, hn, h.least⟩
  · exact h
theorem Wm.Fit.tell {m : Wm} (h : m.Fit) (s : Nat) : (m.tell s).Fit := ⟨h.one, h.le, h.top, h.least⟩
theorem Wm.Fit.add {m : Wm} (h : m.Fit) (n : Nat) : (m.add n).Fit := ⟨h.one, h.le, h.top, Nat.lt_of_le_of_lt (Nat.min_le_left _ _) h.least⟩
theorem Wm.Fit.inn {m : Wm} (h : m.Fit) {n : Nat} (hn : n < 18446744073709551616) : (m.inn n).Fit := by
  unfold Wm.inn Wm.keep
  split
  · exact (((h.tell 0).begin hn).up hn).add n
  · exact h.tell _

theorem Only.setIn {b i : Nat} {w w1 : World} (h : Only (fun k => k = b) w w1) (u : Value) : Only (fun k => k = b) w (w1.setCell ⟨b, i, none⟩ u) := h.set (fun _ => rfl) u
set_option maxRecDepth 20000 in
set_option maxHeartbeats 2000000 in
theorem keep_is (b n : Nat) (m : Wm) (w : World) (h : Wnd w b m) (hf : m.Fit) (hn : n < 18446744073709551616) : Calls Try.prog 27 #[ptr b, .int .u64 (n : Int)] w (Left b (m.keep n) w) := by
  have HRI := Lib.hid (fun (wr : World) (q : Wnd wr b (m.begin n)) => rise_is b n (m.begin n) wr q (hf.begin hn) hn)
  have HUP := Lib.hid (show (m.begin n).up n = if (m.begin n).top < n then (m.begin n).rise n else m.begin n from rfl)
  have HPUT := Lib.hid (fun (x : Wm) (wr : World) (D' : Nat → Nat) (h : WIs wr b x D') => dput_is b n x D' wr h)
  have HK := Lib.hid (show m.keep n = ((m.begin n).up n).add n from rfl)
  generalize m.keep n = mk at *
  obtain ⟨D, h⟩ := h
  have H := Lib.hid h
  obtain ⟨so, hso⟩ : ∃ so, m.some = so := ⟨_, rfl⟩
  have c1 := h.went
  rw [hso] at c1
  have f1 := h.free 1
  have f2 := h.free 2
  have f3 := h.free 3
  have c2 := h.top
  have c3 := h.least
  have hb : m.begin n = if so then m else { m with some := true, top := n, least := n } := by rw [← hso]; rfl
  clear h
  cases so
  · rw [if_neg (by simp)] at hb
    have HBG := Lib.hid hb
    have hnu : (m.begin n).up n = { m with some := true, top := n, least := n } := by
      rw [HUP.out, hb]
      exact if_neg (Nat.lt_irrefl n)
    have HNU := Lib.hid hnu
    clear hb hnu
    go_enter Try.func27, Try.ntmps27
    go_upto_region 2 with (fail)
    generalize hwx : (((w.setCell ⟨b, 1, none⟩ (Value.bool true)).setCell ⟨b, 2, none⟩ (Value.int IntKind.u64 (n : Int))).setCell ⟨b, 3, none⟩ (Value.int IntKind.u64 (n : Int))) = wx
    have HX := Lib.hid (show WIs wx b ((m.begin n).up n) D from by
      rw [HNU.out, ← hwx]
      exact ((H.out.setSome true).setTop n).setLeast n)
    have hxo : Only (fun k => k = b) w wx := by
      rw [← hwx]
      exact (((Only.refl _ w).setIn _).setIn _).setIn _
    have ht : ((m.begin n).up n).top = n := by rw [HNU.out]
    have c2 := HX.out.top
    rw [ht] at c2
    clear hwx c1 f1 f2 f3 ht
    generalize (m.begin n).up n = M at *
    have c3 := HX.out.least
    have f3 := HX.out.free 3
    have HLE := Lib.hid (show M.add n = { M with least := min M.least n, f := fun p => M.f p || n % 1024 == p } from rfl)
    have HPU := Lib.hid (fun (wr : World) (h : WIs wr b { M with least := min M.least n } D) => HPUT.out _ wr D h)
    have HSL := Lib.hid (HX.out.setLeast (min M.least n))
    generalize hle : M.least = le at c3 HLE HPU HSL
    clear hle
    have HXO := Lib.hid hxo
    clear hxo
    go_upto_region 5 with (fail)
    rw [show (if n < le then (n : Int) else (le : Int)) = ((min le n : Nat) : Int) from by split <;> omega]
    have HZ := Lib.hid (HXO.out.setIn (i := 3) (.int .u64 ((min le n : Nat) : Int)))
    generalize World.setCell wx _ _ = wy at *
    clear c3 f3
    go_wp2_with fail
    refine (HPU.out _ HSL.out).mono ?_
    rintro e w5 ⟨rfl, hd, ho⟩
    go_wp2
    go_end0
    refine ⟨rfl, ?_, HZ.out.trans ho (fun _ _ e => e)⟩
    rw [HK.out, HLE.out]
    exact hd
  · rw [if_pos rfl] at hb
    rw [hb] at HRI HUP HK
    clear hb
    have HW := Lib.hid (show Wnd w b m from ⟨D, H.out⟩)
    obtain ⟨tp, htp⟩ : ∃ tp, m.top = tp := ⟨_, rfl⟩
    rw [htp] at c2 HUP HRI
    clear c3 f1 f2 f3
    by_cases htn : tp < n
    · rw [if_pos htn] at HUP
      have HRR := Lib.hid (HRI.out w HW.out htn)
      clear HRI HW htp
      go_enter Try.func27, Try.ntmps27
      go_wp2_with fail
      refine HRR.out.mono ?_
      rintro e wx ⟨rfl, ⟨D2, hd⟩, hxo⟩
      have HX := Lib.hid (show WIs wx b (m.up n) D2 from by rw [HUP.out]; exact hd)
      clear hd c1 c2 HRR HUP
      generalize m.up n = M at *
      have c3 := HX.out.least
      have f3 := HX.out.free 3
      have HLE := Lib.hid (show M.add n = { M with least := min M.least n, f := fun p => M.f p || n % 1024 == p } from rfl)
      have HPU := Lib.hid (fun (wr : World) (h : WIs wr b { M with least := min M.least n } D2) => HPUT.out _ wr D2 h)
      have HSL := Lib.hid (HX.out.setLeast (min M.least n))
      generalize hle : M.least = le at c3 HLE HPU HSL
      clear hle
      have HXO := Lib.hid hxo
      clear hxo
      go_upto_region 5 with (fail)
      rw [show (if n < le then (n : Int) else (le : Int)) = ((min le n : Nat) : Int) from by split <;> omega]
      have HZ := Lib.hid (HXO.out.setIn (i := 3) (.int .u64 ((min le n : Nat) : Int)))
      generalize World.setCell wx _ _ = wy at *
      clear c3 f3
      go_wp2_with fail
      refine (HPU.out _ HSL.out).mono ?_
      rintro e w5 ⟨rfl, hd, ho⟩
      go_wp2
      go_end0
      refine ⟨rfl, ?_, HZ.out.trans ho (fun _ _ e => e)⟩
      rw [HK.out, HLE.out]
      exact hd
    · rw [if_neg htn] at HUP
      have HX := Lib.hid (show WIs w b (m.up n) D from by rw [HUP.out]; exact H.out)
      clear HRI HW htp HUP
      generalize m.up n = M at *
      obtain ⟨wx, hwx⟩ : ∃ wx, w = wx := ⟨_, rfl⟩
      have hxo : Only (fun k => k = b) w wx := by rw [← hwx]; exact Only.refl _ _
      rw [hwx] at c1 c2 HX
      have htn2 : n ≤ tp := by omega
      clear htn
      go_enter Try.func27, Try.ntmps27
      conv => arg 5; rw [hwx]
      clear hwx
      have c3 := HX.out.least
      have f3 := HX.out.free 3
      have HLE := Lib.hid (show M.add n = { M with least := min M.least n, f := fun p => M.f p || n % 1024 == p } from rfl)
      have HPU := Lib.hid (fun (wr : World) (h : WIs wr b { M with least := min M.least n } D) => HPUT.out _ wr D h)
      have HSL := Lib.hid (HX.out.setLeast (min M.least n))
      generalize hle : M.least = le at c3 HLE HPU HSL
      clear hle
      have HXO := Lib.hid hxo
      clear hxo
      go_upto_region 5 with (fail)
      rw [show (if n < le then (n : Int) else (le : Int)) = ((min le n : Nat) : Int) from by split <;> omega]
      have HZ := Lib.hid (HXO.out.setIn (i := 3) (.int .u64 ((min le n : Nat) : Int)))
      generalize World.setCell wx _ _ = wy at *
      clear c3 f3
      go_wp2_with fail
      refine (HPU.out _ HSL.out).mono ?_
      rintro e w5 ⟨rfl, hd, ho⟩
      go_wp2
      go_end0
      refine ⟨rfl, ?_, HZ.out.trans ho (fun _ _ e => e)⟩
      rw [HK.out, HLE.out]
      exact hd
end Go.Proofs.Ytllchikjdpoopaa
