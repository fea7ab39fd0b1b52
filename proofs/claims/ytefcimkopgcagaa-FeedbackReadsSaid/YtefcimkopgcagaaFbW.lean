/- feedback.Same. Conditions: as it says. -/
import Derived.Test.YtefcimkopgcagaaFbV
set_option linter.unusedVariables false
namespace Go.Proofs.Ytefcimkopgcagaa
open Go.RowKit

def sameMs (m k : Ms) : Bool := decide (m.sort = k.sort ∧ m.sender = k.sender ∧ m.media = k.media ∧ m.pairs = k.pairs ∧ m.orders = k.orders ∧ m.exp = k.exp ∧ m.mant = k.mant ∧ m.srcs = k.srcs)
structure Ms.Fit (m : Ms) : Prop where
  sort : m.sort < 256
  sender : m.sender < 4294967296
  media : m.media < 4294967296
  pairs : ∀ p ∈ m.pairs, p.Fit
  orders : ∀ p ∈ m.orders, p.Fit
  exp : m.exp < 256
  mant : m.mant < 4294967296
  srcs : ∀ x ∈ m.srcs, x < 4294967296
theorem cls_cells {m : Ms} {vp vo vs : Value} {w : World} {b : Nat} {T : TypeId} (h : Is w b T (m.cls vp vo vs)) :
    w.cell? ⟨b, 0, none⟩ = some (.int .u8 (m.sort : Nat)) ∧ w.cell? ⟨b, 1, none⟩ = some (.int .u32 (m.sender : Nat)) ∧ w.cell? ⟨b, 2, none⟩ = some (.int .u32 (m.media : Nat)) ∧ w.cell? ⟨b, 3, none⟩ = some vp ∧ w.cell? ⟨b, 4, none⟩ = some vo ∧ w.cell? ⟨b, 5, none⟩ = some (.int .u8 (m.exp : Nat)) ∧ w.cell? ⟨b, 6, none⟩ = some (.int .u32 (m.mant : Nat)) ∧ w.cell? ⟨b, 7, none⟩ = some vs :=
  ⟨h.cell 0, h.cell 1, h.cell 2, h.cell 3, h.cell 4, h.cell 5, h.cell 6, h.cell 7⟩

set_option maxRecDepth 100000 in
set_option maxHeartbeats 4000000 in
theorem fsame_is (m k : Ms) (p1 o1 s1 p2 o2 s2 : Value) (w : World) (h1 : RdM m p1 o1 s1 w) (h2 : RdM k p2 o2 s2 w) (hl : m.pairs.length ≤ 1000000 ∧ m.orders.length ≤ 1000000 ∧ m.srcs.length ≤ 1000000) (hl2 : k.pairs.length ≤ 1000000 ∧ k.orders.length ≤ 1000000 ∧ k.srcs.length ≤ 1000000) :
    Calls Try.prog 17 #[.agg (m.cls p1 o1 s1), .agg (k.cls p2 o2 s2)] w fun e w' => e = .returned (.bool (sameMs m k)) ∧ Only (fun _ => False) w w' := by
  have HP := Lib.hid (fun wx (ho : Only (fun _ => False) w wx) => equal_fp p1 p2 m.pairs k.pairs wx (h1.p.only ho) (h2.p.only ho) hl.1 hl2.1)
  have HO := Lib.hid (fun wx (ho : Only (fun _ => False) w wx) => equal_fo o1 o2 m.orders k.orders wx (h1.o.only ho) (h2.o.only ho) hl.2.1 hl2.2.1)
  have HS := Lib.hid (fun wx (ho : Only (fun _ => False) w wx) => ints32_equal s1 s2 m.srcs k.srcs wx (h1.s.only ho (by simp)) (h2.s.only ho (by simp)) (by have := hl.2.2; omega))
  have HC1 := Lib.hid (fun b wx => @cls_cells m p1 o1 s1 wx b 27)
  have HC2 := Lib.hid (fun b wx => @cls_cells k p2 o2 s2 wx b 27)
  obtain ⟨r, hr⟩ : ∃ r, sameMs m k = r := ⟨_, rfl⟩
  rw [hr]
  unfold sameMs at hr
  obtain ⟨bp, hbp⟩ : ∃ b, decide (m.pairs = k.pairs) = b := ⟨_, rfl⟩
  obtain ⟨bo, hbo⟩ : ∃ b, decide (m.orders = k.orders) = b := ⟨_, rfl⟩
  obtain ⟨bs, hbs⟩ : ∃ b, decide (m.srcs = k.srcs) = b := ⟨_, rfl⟩
  rw [hbp] at HP
  rw [hbo] at HO
  rw [hbs] at HS
  have HR := Lib.hid (show r = (decide (m.sort = k.sort) && (decide (m.sender = k.sender) && (decide (m.media = k.media) && (bp && (bo && (decide (m.exp = k.exp) && (decide (m.mant = k.mant) && bs))))))) from by
    rw [← hr, ← hbp, ← hbo, ← hbs, Bool.eq_iff_iff]
    simp)
  generalize m.sort = a0 at *
  generalize m.sender = a1 at *
  generalize m.media = a2 at *
  generalize m.exp = a5 at *
  generalize m.mant = a6 at *
  generalize k.sort = c0 at *
  generalize k.sender = c1 at *
  generalize k.media = c2 at *
  generalize k.exp = c5 at *
  generalize k.mant = c6 at *
  obtain ⟨A, hA⟩ : ∃ a, m.cls p1 o1 s1 = a := ⟨_, rfl⟩
  obtain ⟨B, hB⟩ : ∃ a, k.cls p2 o2 s2 = a := ⟨_, rfl⟩
  rw [hA] at HC1
  rw [hB] at HC2
  rw [hA, hB]
  clear hA hB h1 h2 hl hl2 hr hbp hbo hbs
  go_enter Try.func17, Try.ntmps17
  go_upto_region 1 with (fail)
  generalize hw0 : World.alloc (World.alloc _ _) _ = w0
  have I1 := Lib.hid (show Is w0 w.heap.size 27 A from by rw [← hw0]; exact (Is.made w _ _).alloc _)
  have I2 := Lib.hid (show Is w0 (w.heap.size + 1) 27 B from by rw [← hw0]; have := Is.made (w.alloc (.cells A 27)) 27 B; rw [World.size_alloc] at this; exact this)
  have T0 := Lib.hid (show Only (fun _ => False) w w0 from by rw [← hw0]; exact ((Only.refl _ w).alloc _).alloc _)
  obtain ⟨ab, hab⟩ : ∃ k, w.heap.size = k := ⟨_, rfl⟩
  obtain ⟨bb, hbb⟩ : ∃ k, w.heap.size + 1 = k := ⟨_, rfl⟩
  rw [hbb] at I2 ⊢
  rw [hab] at I1 ⊢
  clear hw0 hab hbb
  have HE1 := Lib.hid (fun wx (ho : Only (fun _ => False) w0 wx) => HC1.out ab wx (I1.out.only ho (by simp)))
  have HE2 := Lib.hid (fun wx (ho : Only (fun _ => False) w0 wx) => HC2.out bb wx (I2.out.only ho (by simp)))
  clear I1 I2 HC1 HC2
  obtain ⟨e0, e1, e2, e3, e4, e5, e6, e7⟩ := HE1.out w0 (Only.refl _ _)
  obtain ⟨g0, g1, g2, g3, g4, g5, g6, g7⟩ := HE2.out w0 (Only.refl _ _)
  have key : ∀ (x y : Nat), ((x : Int) == (y : Int)) = decide (x = y) := fun x y => by
    by_cases h : x = y
    · rw [h]; simp
    · rw [decide_eq_false h, beq_eq_false_iff_ne]; omega
  have fin : ∀ v w', v = r → Only (fun _ => False) w0 w' → (Ending.returned (Value.bool v) = .returned (.bool r) ∧ Only (fun _ => False) w w') := fun v w' h ho => ⟨by rw [h], only_more T0.out ho⟩
  have HK := Lib.hid fin
  clear key fin
  go_wp2_with (first
    | (go_at_call 50; refine (HP.out _ T0.out).mono ?_; rintro e w1 ⟨rfl, ho1⟩; have O1 := Lib.hid ho1; obtain ⟨e0, e1, e2, e3, e4, e5, e6, e7⟩ := HE1.out w1 O1.out; obtain ⟨g0, g1, g2, g3, g4, g5, g6, g7⟩ := HE2.out w1 O1.out; clear ho1)
    | (go_at_call 51; refine (HO.out _ (only_more T0.out O1.out)).mono ?_; rintro e w2 ⟨rfl, ho2⟩; have O2 := Lib.hid (only_more O1.out ho2); obtain ⟨e0, e1, e2, e3, e4, e5, e6, e7⟩ := HE1.out w2 O2.out; obtain ⟨g0, g1, g2, g3, g4, g5, g6, g7⟩ := HE2.out w2 O2.out; clear ho2)
    | (go_at_call 52; refine (HS.out _ (only_more T0.out O2.out)).mono ?_; rintro e w3 ⟨rfl, n3, rfl⟩))
  all_goals go_ret
  all_goals first
    | exact HK.out false _ (by rw [HR.out, decide_eq_false (show ¬ a0 = c0 by omega)]; rfl) (by first | exact only_more O2.out (only_drewN _ _) | exact O2.out | exact O1.out | exact Only.refl _ _)
    | exact HK.out false _ (by rw [HR.out, decide_eq_true (show a0 = c0 by omega), decide_eq_false (show ¬ a1 = c1 by omega)]; rfl) (by first | exact only_more O2.out (only_drewN _ _) | exact O2.out | exact O1.out | exact Only.refl _ _)
    | exact HK.out false _ (by rw [HR.out, decide_eq_true (show a0 = c0 by omega), decide_eq_true (show a1 = c1 by omega), decide_eq_false (show ¬ a2 = c2 by omega)]; rfl) (by first | exact only_more O2.out (only_drewN _ _) | exact O2.out | exact O1.out | exact Only.refl _ _)
    | exact HK.out false _ (by rw [HR.out, decide_eq_true (show a0 = c0 by omega), decide_eq_true (show a1 = c1 by omega), decide_eq_true (show a2 = c2 by omega), (Bool.eq_false_iff.2 (by assumption) : bp = false)]; rfl) (by first | exact only_more O2.out (only_drewN _ _) | exact O2.out | exact O1.out | exact Only.refl _ _)
    | exact HK.out false _ (by rw [HR.out, decide_eq_true (show a0 = c0 by omega), decide_eq_true (show a1 = c1 by omega), decide_eq_true (show a2 = c2 by omega), (show bp = true by assumption), (Bool.eq_false_iff.2 (by assumption) : bo = false)]; rfl) (by first | exact only_more O2.out (only_drewN _ _) | exact O2.out | exact O1.out | exact Only.refl _ _)
    | exact HK.out false _ (by rw [HR.out, decide_eq_true (show a0 = c0 by omega), decide_eq_true (show a1 = c1 by omega), decide_eq_true (show a2 = c2 by omega), (show bp = true by assumption), (show bo = true by assumption), decide_eq_false (show ¬ a5 = c5 by omega)]; rfl) (by first | exact only_more O2.out (only_drewN _ _) | exact O2.out | exact O1.out | exact Only.refl _ _)
    | exact HK.out false _ (by rw [HR.out, decide_eq_true (show a0 = c0 by omega), decide_eq_true (show a1 = c1 by omega), decide_eq_true (show a2 = c2 by omega), (show bp = true by assumption), (show bo = true by assumption), decide_eq_true (show a5 = c5 by omega), decide_eq_false (show ¬ a6 = c6 by omega)]; rfl) (by first | exact only_more O2.out (only_drewN _ _) | exact O2.out | exact O1.out | exact Only.refl _ _)
    | exact HK.out bs _ (by rw [HR.out, decide_eq_true (show a0 = c0 by omega), decide_eq_true (show a1 = c1 by omega), decide_eq_true (show a2 = c2 by omega), (show bp = true by assumption), (show bo = true by assumption), decide_eq_true (show a5 = c5 by omega), decide_eq_true (show a6 = c6 by omega)]; rfl) (by first | exact only_more O2.out (only_drewN _ _) | exact O2.out | exact O1.out | exact Only.refl _ _)
end Go.Proofs.Ytefcimkopgcagaa
