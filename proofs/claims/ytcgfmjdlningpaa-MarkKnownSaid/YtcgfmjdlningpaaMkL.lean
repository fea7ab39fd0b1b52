/- MarkFinds' walk. Conditions: as it says. -/
import Derived.Test.YtcgfmjdlningpaaMkH
import Derived.Test.YtcgfmjdlningpaaMkJ
import Derived.Test.YtcgfmjdlningpaaRpC
import Derived.Test.YtcgfmjdlningpaaRpD
import Derived.Test.YtcgfmjdlningpaaRtpL
set_option linter.unusedVariables false
namespace Go.Proofs.Ytcgfmjdlningpaa
open Go.RowKit

theorem run_neq_rmk {o : Oper} {ρ : Operand → Value} (w : World) (x y : Operand) (d : Mk) (ho : o.op = .binOp .neq 71 x y 71) (hx : ρ x = .agg d.cells) (hy : ρ y = .agg d.cells) :
    (execOp ρ o).run Try.prog w = .ok (.value (.bool false)) w := by
  have h := eq_rmk d d w
  rw [run_eql_struct, Mk.same_self] at h
  have ok : ∀ {r : Result Bool} {v : Bool}, (r.andThen fun b w' => .ok (Value.bool b) w') = .ok (.bool v) w → r = .ok v w := by
    intro r v h
    cases r <;> simp_all [Result.andThen]
  have hn : (binOp .neq 71 (.agg d.cells) (.agg d.cells)).run Try.prog w = .ok (.bool false) w := by
    rw [run_neq_struct, ok h]
    rfl
  unfold execOp
  simp only [ho, hx, hy, Sem.run_bind, Sem.run_pure, Result.andThen_ok, run_eqGuard_agg (P := Try.prog) w .neq 71 x y d.cells d.cells (by kernel_rfl), hn]
theorem OwnPk.rd {B : Nat} {p : Pk} {vc ve vp : Value} {w : World} (h : OwnPk B p vc ve vp w) : RdPk p vc ve vp w := ⟨own32_rd h.1, Src.of_own h.2.1, Src.of_own h.2.2, own_isSl h.1⟩
theorem own_nil {w : World} {B n : Nat} {t : TypeId} {v : Value} {xs : List Value} (h : w.ownsRow B t 1 v n xs) : v = .slice none 0 0 ∨ ∃ ad n c, v = .slice (some ad) n c := by
  rcases h.2 with ⟨rfl, rfl⟩ | ⟨g, cap, cur, rfl, _⟩
  · exact .inl rfl
  · exact .inr ⟨_, _, _, rfl⟩
/-- A packet told anew. -/
def GotRd (p : Pk) (w : World) (e : Ending) (w' : World) : Prop := ∃ vc ve vp, e = .returned (.agg (p.cls vc ve vp)) ∧ RdPk p vc ve vp w' ∧ Only (fun _ => False) w w'
theorem docs_rd (p : Pk) (vc ve vp : Value) (w : World) (hn0 : vc = .slice none 0 0 ∨ ∃ ad n c, vc = .slice (some ad) n c) (h : RdPk p vc ve vp w) (hl : p.csrc.length ≤ 1000 ∧ p.ext.length ≤ 1000000 ∧ p.pay.length ≤ 1000000) :
    Calls Try.prog 18 #[.agg (p.cls vc ve vp)] w (GotRd p w) := by
  refine (docs_packet p vc ve vp w hn0 h.c h.e h.p hl).mono ?_
  rintro e w' ⟨a, b, c, rfl, h1, h2, h3, ho⟩
  exact ⟨a, b, c, rfl, OwnPk.rd (B := w.heap.size) ⟨h1, h2, h3⟩, ho⟩
theorem same_rd (p : Pk) (c1 e1 p1 c2 e2 p2 : Value) (w : World) (h1 : RdPk p c1 e1 p1 w) (h2 : RdPk p c2 e2 p2 w) (hl : p.csrc.length ≤ 1000 ∧ p.ext.length ≤ 1000000 ∧ p.pay.length ≤ 1000000) :
    Calls Try.prog 17 #[.agg (p.cls c1 e1 p1), .agg (p.cls c2 e2 p2)] w fun e w' => e = .returned (.bool true) ∧ Only (fun _ => False) w w' :=
  rsame_pk p c1 e1 p1 c2 e2 p2 w h1.c h2.c h1.e h2.e h1.p h2.p hl
theorem cls_size (p : Pk) (vc ve vp : Value) : (Try.prog.info? 33).map (·.size) = some (p.cls vc ve vp).size := Try.sizePq
theorem with_size (p : Pk) (ix : Nat) (m : Mk) (h : p.csrc.length ≤ 20 ∧ p.ext.length ≤ 400 ∧ p.pay.length ≤ 400) : (withPk p ix m).csrc.length ≤ 1000 ∧ (withPk p ix m).ext.length ≤ 1000000 ∧ (withPk p ix m).pay.length ≤ 1000000 := by
  unfold withPk
  split
  · refine ⟨by show p.csrc.length ≤ 1000; omega, ?_, by show p.pay.length ≤ 1000000; omega⟩
    show (exPut (decide (ix ≤ 14)) [⟨ix, m.enc⟩]).length ≤ 1000000
    have h1 := with_len ix m (decide (ix ≤ 14))
    unfold exPut noughts4
    rw [List.length_append, List.length_replicate]
    omega
  · omega

/-- Amid the comparisons. -/
structure Fnd (q : Pk) (qb sb : Nat) (vc ve vp sc se sp : Value) (w wx : World) : Prop where
  i1 : Is wx qb 33 (q.cls vc ve vp)
  i2 : Is wx sb 29 (q.cls sc se sp)
  r1 : RdPk q vc ve vp wx
  r2 : RdPk q sc se sp wx
  pure : Only (fun _ => False) w wx
theorem Fnd.go {q : Pk} {qb sb : Nat} {vc ve vp sc se sp : Value} {w wx wy : World} (h : Fnd q qb sb vc ve vp sc se sp w wx) (ho : Only (fun _ => False) wx wy) : Fnd q qb sb vc ve vp sc se sp w wy :=
  ⟨h.i1.only ho (by simp), h.i2.only ho (by simp), h.r1.only ho, h.r2.only ho, only_more h.pure ho⟩
/-- Amid the reference's With. -/
structure Fnw (B : Nat) (p : Pk) (m : Mk) (rb mb : Nat) (vc ve vp : Value) (w wx : World) : Prop where
  i1 : Is wx rb 29 (p.cls vc ve vp)
  i2 : Is wx mb 69 m.cells
  r : OwnPk B p vc ve vp wx
  pure : Only (fun _ => False) w wx
theorem Fnw.go {B : Nat} {p : Pk} {m : Mk} {rb mb : Nat} {vc ve vp : Value} {w wx wy : World} (h : Fnw B p m rb mb vc ve vp w wx) (ho : Only (fun _ => False) wx wy) : Fnw B p m rb mb vc ve vp w wy :=
  ⟨h.i1.only ho (by simp), h.i2.only ho (by simp), h.r.only ho, only_more h.pure ho⟩

set_option maxRecDepth 100000 in
set_option maxHeartbeats 8000000 in
theorem mfinds_any (p : Pk) (vc ve vp : Value) (ix : Nat) (m : Mk) (w : World) (hm : m.Fit) (hf : p.Fit) (hix : ix < 256) (hn0 : vc = .slice none 0 0 ∨ ∃ ad n c, vc = .slice (some ad) n c) (hrd : RdPk p vc ve vp w) :
    Calls Try.prog 10 #[.agg (p.cls vc ve vp), .int .u8 ix, .agg m.cells] w fun e w' => e = .returned (.bool true) ∧ Only (fun _ => False) w w' := by
  obtain ⟨Ac, cc, rfl⟩ := hrd.c.slice
  obtain ⟨Ae, ce, rfl⟩ := hrd.e.slice
  obtain ⟨Ap, cp, rfl⟩ := hrd.p.slice
  rw [nats_length] at hrd hn0 ⊢
  have HRD := Lib.hid hrd
  have HFEW := Lib.hid (fun w' => few_is p Ac Ae Ap cc ce cp w')
  have HWK := Lib.hid (fun w => mworks_any w)
  have HPV : p.val (.slice Ac p.csrc.length cc) (.slice Ae p.ext.length ce) (.slice Ap p.pay.length cp) = .agg (p.cls (.slice Ac p.csrc.length cc) (.slice Ae p.ext.length ce) (.slice Ap p.pay.length cp)) := rfl
  rw [HPV] at HFEW
  obtain ⟨pc, hpc⟩ : ∃ a, Value.slice Ac p.csrc.length cc = a := ⟨_, rfl⟩
  obtain ⟨pe, hpe⟩ : ∃ a, Value.slice Ae p.ext.length ce = a := ⟨_, rfl⟩
  obtain ⟨pp, hpp⟩ : ∃ a, Value.slice Ap p.pay.length cp = a := ⟨_, rfl⟩
  have HVP := Lib.hid (show (p.cls pc pe pp).all (·.oneCell') = true from p.cls_one ⟨_, _, _, hpc.symm⟩ ⟨_, _, _, hpe.symm⟩ ⟨_, _, _, hpp.symm⟩)
  rw [hpc, hpe, hpp] at HFEW
  rw [hpc, hpe, hpp] at HRD hrd
  rw [hpc] at hn0
  rw [hpc, hpe, hpp]
  have HN0 := Lib.hid hn0
  clear hpc hpe hpp HPV
  cases hfew : p.few
  · rw [hfew] at HFEW
    clear hfew hn0 hrd
    go_enter Try.func10, Try.ntmps10
    go_upto_region 1 with (fail)
    generalize hw0 : World.alloc (World.alloc _ _) _ = w0
    have HI := Lib.hid (show Is w0 w.heap.size 33 (p.cls pc pe pp) from by rw [← hw0]; exact (Is.made w _ _).alloc _)
    have P0 := Lib.hid (show Only (fun _ => False) w w0 from by rw [← hw0]; exact ((Only.refl _ w).alloc _).alloc _)
    clear hw0
    go_wp2_with (first
      | (refine wpList_load_want (o := ⟨some 17, _, _, _, _, _⟩) rfl _ _ rfl w.heap.size rfl _ _ _ HI.out Try.underlying33 rfl Try.sizePq ?_)
      | (go_at_call 46; refine (HFEW.out _).mono ?_; rintro e w1 ⟨rfl, ho1⟩; have O1 := Lib.hid ho1; clear ho1)
      | (go_at_call 43; refine (HWK.out _).mono ?_; rintro e w2 ⟨rfl, ho2⟩; have O2 := Lib.hid ho2; clear ho2))
    go_ret
    exact ⟨rfl, only_more P0.out (only_more O1.out O2.out)⟩
  rw [hfew] at HFEW
  have hsz : p.csrc.length ≤ 20 ∧ p.ext.length ≤ 400 ∧ p.pay.length ≤ 400 := by simpa [Pk.few] using hfew
  have HSZ := Lib.hid (show p.csrc.length ≤ 1000 ∧ p.ext.length ≤ 1000000 ∧ p.pay.length ≤ 1000000 from by omega)
  have HSQ := Lib.hid (with_size p ix m hsz)
  have HOF := Lib.hid (fun w' (ho : Only (fun _ => False) w w') => mk_of p ix pc pe pp w' hix hf.profile hrd.s (src_isSl hrd.p) (hrd.e.of_only ho) hf.ext (by omega))
  have HROF := Lib.hid (fun v1 v2 v3 w' (h : RdPk p v1 v2 v3 w') => rmk_of p ix v1 v2 v3 w' hix hf.profile h.s (src_isSl h.p) h.e hf.ext (by omega))
  have HWI := Lib.hid (fun w' (ho : Only (fun _ => False) w w') => mk_with p ix m pc pe pp w' hix hm (hrd.c.only ho (by simp)) hn0 (hrd.e.of_only ho) (hrd.p.of_only ho) (by omega))
  have HRWI := Lib.hid (fun v1 v2 v3 w' (h : RdPk p v1 v2 v3 w') => rmk_with p ix m v1 v2 v3 w' hix h)
  have HDP := Lib.hid (fun w' (ho : Only (fun _ => False) w w') => docs_packet p pc pe pp w' hn0 (hrd.c.only ho (by simp)) (hrd.e.of_only ho) (hrd.p.of_only ho) HSZ.out)
  have HDR := Lib.hid (fun w' (ho : Only (fun _ => False) w w') => docs_rd p pc pe pp w' hn0 (hrd.only ho) HSZ.out)
  have HRF := Lib.hid (fun w => mk_ref m w)
  have HSPQ := Lib.hid (fun v1 v2 v3 B w' (h : OwnPk B (withPk p ix m) v1 v2 v3 w') => spoil_packet (withPk p ix m) v1 v2 v3 w' B B B _ _ _ _ _ _ h.1 h.2.1 h.2.2 HSQ.out)
  obtain ⟨am, ab, hab⟩ : ∃ am ab, ofMk p ix = (am, ab) := ⟨_, _, rfl⟩
  rw [hab] at HOF HROF
  have HRFA := Lib.hid (fun w => mk_ref am w)
  have HVA := Lib.hid (Mk.one am)
  clear hab hfew hsz hm hf hn0 hrd
  obtain ⟨q, hq⟩ : ∃ q, withPk p ix m = q := ⟨_, rfl⟩
  obtain ⟨k, hk⟩ : ∃ k, withErr ix m = k := ⟨_, rfl⟩
  rw [hq, hk] at HWI HRWI
  rw [hq] at HSPQ HSQ
  clear hq hk
  have e1 : (ab != ab) = false := by simp
  have e2 : ((k : Int) != (k : Int)) = false := by simp
  go_enter Try.func10, Try.ntmps10
  go_upto_region 1 with (fail)
  generalize hw0 : World.alloc (World.alloc _ _) _ = w0
  have HI := Lib.hid (show Is w0 w.heap.size 33 (p.cls pc pe pp) from by rw [← hw0]; exact (Is.made w _ _).alloc _)
  have HM := Lib.hid (show Is w0 (w.heap.size + 1) 69 m.cells from by rw [← hw0]; have := Is.made (w.alloc (.cells (p.cls pc pe pp) 33)) 69 m.cells; rw [World.size_alloc] at this; exact this)
  have P0 := Lib.hid (show Only (fun _ => False) w w0 from by rw [← hw0]; exact ((Only.refl _ w).alloc _).alloc _)
  obtain ⟨pb, hpb⟩ : ∃ k, w.heap.size = k := ⟨_, rfl⟩
  obtain ⟨mb, hmb⟩ : ∃ k, w.heap.size + 1 = k := ⟨_, rfl⟩
  rw [hmb] at HM ⊢
  rw [hpb] at HI ⊢
  clear hw0 hmb hpb
  go_upto_region 4 with (first
    | (refine wpList_load_want (o := ⟨some 17, _, _, _, _, _⟩) rfl _ _ rfl pb rfl _ _ _ HI.out Try.underlying33 rfl Try.sizePq ?_)
    | (go_at_call 46; refine (HFEW.out _).mono ?_; rintro e w1 ⟨rfl, ho1⟩; have O1 := Lib.hid ho1; clear ho1)
    | (refine wpList_load_want (o := ⟨some 21, _, _, _, _, _⟩) rfl _ _ rfl pb rfl _ _ _ (HI.out.only O1.out (by simp)) Try.underlying33 rfl Try.sizePq ?_)
    | (go_at_call 18; refine (HDP.out _ (only_more P0.out O1.out)).mono ?_; rintro e w2 ⟨rc, re, rp, rfl, hr1, hr2, hr3, ho2⟩; have O2 := Lib.hid (only_more O1.out ho2); have HB02 := Lib.hid ho2.size; have RO2 := Lib.hid (show OwnPk w1.heap.size p rc re rp w2 from ⟨hr1, hr2, hr3⟩); have RR2 := Lib.hid RO2.out.rd; have HVR := Lib.hid (p.cls_one (own_isSl hr1) (own_isSl hr2) (own_isSl hr3)); clear hr1 hr2 hr3 ho2)
    | (refine wpList_store_is rfl 29 _ _ rfl w2.heap.size (p.cls rc re rp) rfl rfl 29 zeroPk (Is.made w2 _ zeroPk) Try.sizeRp rfl HVR.out ?_; intro w3 hi3 ho3; have O3 := Lib.hid (only_made ho3); have R3 := Lib.hid hi3; clear hi3 ho3))
  have RR3 := Lib.hid (RR2.out.only O3.out)
  have RO3 := Lib.hid (RO2.out.only O3.out)
  have HB0 := Lib.hid (show w1.heap.size ≤ w3.heap.size from by have h := O1.out.size; have := O3.out.size; have := HB02.out; omega)
  generalize w1.heap.size = B0 at *
  have I3 := Lib.hid (HI.out.only (only_more O2.out O3.out) (by simp))
  have M3 := Lib.hid (HM.out.only (only_more O2.out O3.out) (by simp))
  have T3 := Lib.hid (only_more P0.out (only_more O2.out O3.out))
  generalize w2.heap.size = rb at *
  clear HI HM P0 O1 O2 O3 RR2 HFEW HDP
  go_upto_region 5 with (first
    | (refine wpList_load_want (o := ⟨some 24, _, _, _, _, _⟩) rfl _ _ rfl pb rfl _ _ _ I3.out Try.underlying33 rfl Try.sizePq ?_)
    | (go_at_call 47; refine (HOF.out _ T3.out).mono ?_; rintro e w4 ⟨rfl, ho4⟩; have O4 := Lib.hid ho4; clear ho4)
    | (refine wpList_store_is rfl 69 _ _ rfl w4.heap.size am.cells rfl rfl 69 Mk.zero.cells (Is.made w4 _ Mk.zero.cells) Try.sizeMk rfl HVA.out ?_; intro w5 hi5 ho5; have O5 := Lib.hid (only_more O4.out (only_made ho5)); have A5 := Lib.hid hi5; clear hi5 ho5))
  generalize w4.heap.size = xb at *
  have RR5 := Lib.hid (RR3.out.only O5.out)
  go_upto_region 6 with (first
    | (refine wpList_load_want (o := ⟨some 30, _, _, _, _, _⟩) rfl _ _ rfl rb rfl _ _ _ (R3.out.only O5.out (by simp)) Try.underlying29 rfl Try.sizeRp ?_)
    | (go_at_call 48; refine (HROF.out _ _ _ _ RR5.out).mono ?_; rintro e w6 ⟨rfl, ho6⟩; have O6 := Lib.hid ho6; clear ho6)
    | (refine wpList_store_is rfl 71 _ _ rfl w6.heap.size am.cells rfl rfl 71 Mk.zero.cells (Is.made w6 _ Mk.zero.cells) Try.sizeRm rfl HVA.out ?_; intro w7 hi7 ho7; have O7 := Lib.hid (only_more O6.out (only_made ho7)); have B7 := Lib.hid hi7; clear hi7 ho7))
  generalize w6.heap.size = yb at *
  have A7 := Lib.hid (A5.out.only O7.out (by simp))
  have I7 := Lib.hid (I3.out.only (only_more O5.out O7.out) (by simp))
  have M7 := Lib.hid (M3.out.only (only_more O5.out O7.out) (by simp))
  have R7 := Lib.hid (R3.out.only (only_more O5.out O7.out) (by simp))
  have RR7 := Lib.hid (RR3.out.only (only_more O5.out O7.out))
  have RO7 := Lib.hid (RO3.out.only (only_more O5.out O7.out))
  have HB7 := Lib.hid (Nat.le_trans HB0.out (only_more O5.out O7.out).size)
  have T7 := Lib.hid (only_more T3.out (only_more O5.out O7.out))
  clear A5 I3 M3 R3 RR3 RR5 T3 O4 O5 O6 O7 HOF HROF
  refine wp_region_posts [[], [0], [], [1, 2, 0], [3, 1, 2, 0], [4, 3, 1, 2, 0], [4, 3, 1, 2, 0], [5, 6, 4, 3, 1, 2, 0], [4, 7, 3, 1, 2, 0, 5, 6]] [1] [] [[], [], [], [], [], [], [], [], []] [[], [], [], [], [], [], [], [], []] [] [] [] []
      [some (.agg am.cells), some (.agg am.cells), some (.agg am.cells), some (.bool false), some ?v4, some ?v5, some ?v6, some ?v7, some ?v8]
      ?T (fun wx => Is wx xb 69 am.cells ∧ Is wx yb 71 am.cells ∧ Only (fun _ => False) w7 wx) ?W ?E (by kernel_rfl) (by kernel_rfl) (by kernel_rfl) (fun x => ?hT) ?hF ?hini (Reg.all_ops ?runs) ?pres ?fin
  case W => exact fun j x w' => True
  case E => exact fun _ w' w'' => True
  case hT =>
    simp only [Reg.fillV, Act.put, List.setIfInBounds_toArray, List.set_cons_zero, List.set_cons_succ]
    rfl
  case runs =>
    refine And.intro ?_ ?_
    · refine Reg.ob_pure (fun _ => rfl) rfl rfl rfl rfl (fun x w1 hF => ?_)
      exact run_load_at 69 _ (by rfl) xb (by rfl) 69 _ _ hF.1 Try.underlying69 rfl Try.sizeMk
    refine And.intro ?_ ?_
    · refine Reg.ob_known (fun _ => rfl) rfl rfl (fun x w1 hF hU K hK => ?_)
      replace hF := hF rfl
      go_simp
      refine (HRFA.out _).mono ?_
      rintro e w3 ⟨rfl, ho⟩
      exact hK w3 (fun _ _ _ => ⟨hF.1.only ho (by simp), hF.2.1.only ho (by simp), only_more hF.2.2 ho⟩) trivial
    refine And.intro ?_ ?_
    · refine Reg.ob_pure (fun _ => rfl) rfl rfl rfl rfl (fun x w1 hF => ?_)
      exact run_load_at 71 _ (by rfl) yb (by rfl) 71 _ _ hF.2.1 Try.underlying71 rfl Try.sizeRm
    refine And.intro ?_ ?_
    · refine Reg.ob_pure (fun _ => rfl) rfl rfl rfl rfl (fun x w1 hF => ?_)
      exact run_neq_rmk _ _ _ am rfl rfl rfl
    refine And.intro ?_ ?_
    · refine Reg.ob_pure (fun _ => rfl) rfl rfl rfl rfl (fun x w1 hF => ?_)
      go_simp
      with_reducible rfl
    refine And.intro ?_ ?_
    · refine Reg.ob_pure (fun _ => rfl) rfl rfl rfl rfl (fun x w1 hF => ?_)
      go_simp
      with_reducible rfl
    refine And.intro ?_ ?_
    · refine Reg.ob_pure (fun _ => rfl) rfl rfl rfl rfl (fun x w1 hF => ?_)
      go_simp
      with_reducible rfl
    refine And.intro ?_ ?_
    · refine Reg.ob_pure (fun _ => rfl) rfl rfl rfl rfl (fun x w1 hF => ?_)
      go_simp
      with_reducible rfl
    refine And.intro ?_ ?_
    · refine Reg.ob_pure (fun _ => rfl) rfl rfl rfl rfl (fun x w1 hF => ?_)
      go_simp
      with_reducible rfl
    exact trivial
  case hF =>
    exact ⟨A7.out.only (only_drewN _ 1) (by simp), B7.out.only (only_drewN _ 1) (by simp), only_drewN _ 1⟩
  case hini =>
    exact trivial
  case pres =>
    intro i hi j hj hc x w1 w2 hF hE hW
    trivial
  case fin =>
    rintro x w8 hF -
    have P8 := Lib.hid (hF rfl).2.2
    clear hF
    have I8 := Lib.hid (I7.out.only P8.out (by simp))
    have M8 := Lib.hid (M7.out.only P8.out (by simp))
    have R8 := Lib.hid (R7.out.only P8.out (by simp))
    have RR8 := Lib.hid (RR7.out.only P8.out)
    have T8 := Lib.hid (only_more T7.out P8.out)
    go_wp2
    go_loopw [12] (fun i wr => ∃ n : Nat, n ≤ 2 ∧ i = .int .i64 n ∧ Only (fun _ => False) w7 wr) (fun i _ => 2 - (intOf i).toNat)
    case atStart => exact ⟨0, by omega, rfl, P8.out⟩
    case round =>
      obtain ⟨n, hn, rfl, hpw⟩ := hrel
      have HPW := Lib.hid hpw
      clear hpw I8 M8 R8 RR8 T8 P8
      by_cases hlt : n < 2
      · have zk : (n : Int) < 2 := by omega
        go_upto_region 12 with (first
          | (refine wpList_load_want (o := ⟨some 49, _, _, _, _, _⟩) rfl _ _ rfl pb rfl _ _ _ (I7.out.only HPW.out (by simp)) Try.underlying33 rfl Try.sizePq ?_)
          | (refine wpList_load_want (o := ⟨some 51, _, _, _, _, _⟩) rfl _ _ rfl mb rfl _ _ _ (M7.out.only HPW.out (by simp)) Try.underlying69 rfl Try.sizeMk ?_)
          | (go_at_call 49; refine (HWI.out _ (only_more T7.out HPW.out)).mono ?_; rintro e w8 ⟨qc, qe, qp, rfl, hown8, ho8⟩; have O8 := Lib.hid ho8; have OW8 := Lib.hid hown8; have HVQ := Lib.hid (q.cls_one (own_isSl hown8.1) (own_isSl hown8.2.1) (own_isSl hown8.2.2)); clear ho8 hown8)
          | (refine wpList_store_is rfl 33 _ _ rfl w8.heap.size (q.cls qc qe qp) rfl rfl 33 zeroPk (Is.made w8 _ zeroPk) Try.sizePq rfl HVQ.out ?_; intro w9 hi9 ho9; have O9' := Lib.hid (only_made ho9); have Q9 := Lib.hid hi9; clear hi9 ho9))
        have O9 := Lib.hid (only_more O8.out O9'.out)
        have OW9 := Lib.hid (OW8.out.only O9'.out)
        have R9 := Lib.hid (R7.out.only (only_more HPW.out O9.out) (by simp))
        have M9 := Lib.hid (M7.out.only (only_more HPW.out O9.out) (by simp))
        have RR9 := Lib.hid (RO7.out.only (only_more HPW.out O9.out))
        have HB9 := Lib.hid (Nat.le_trans HB7.out (only_more HPW.out O9.out).size)
        generalize w8.heap.size = qb at *
        refine wp_region_posts [[], [], [], [2], [0, 1, 3, 2], [4, 0, 1, 3, 2], [5, 4, 0, 1, 3, 2], [5, 4, 0, 1, 3, 2], [], [8, 6, 4, 0, 1, 2, 3, 5], [7, 9, 0, 1, 2, 3, 4, 5, 6, 8]] [3, 4, 8, 9] [4, 5, 6, 7, 8, 9, 10] [[], [], [], [], [], [], [], [], [], [4, 6, 8], []] [[], [], [], [], [], [4], [4, 5], [5], [], [6, 8], [7]] [9, 10] [] [] []
            [some (.agg (p.cls rc re rp)), some ?vw1, some (.agg m.cells), some (.agg m.cells), none, none, none, none, none, none, none]
            ?Tw (fun wx => Fnw B0 p m rb mb rc re rp w9 wx) ?Ww ?Ew (by kernel_rfl) (by kernel_rfl) (by kernel_rfl) (fun x => ?hTw) ?hFw ?hiniw (Reg.all_ops ?runsw) ?presw ?finw
        case Ww => exact fun j x w' => match j with | 4 => ∃ a b c, x 4 = .tuple #[.agg (q.cls a b c), .int .i64 (k : Nat)] ∧ OwnPk B0 q a b c w' | 5 => x 5 = x 4 ∧ ∃ a b c, x 5 = .tuple #[.agg (q.cls a b c), .int .i64 (k : Nat)] | 6 => ∃ a b c, x 6 = .agg (q.cls a b c) ∧ OwnPk B0 q a b c w' | 7 => x 7 = .int .i64 (k : Nat) | 8 => ∃ sb, x 8 = .pointer (some ⟨sb, 0, none⟩) ∧ w9.heap.size ≤ sb ∧ Is w' sb 29 zeroPk | 9 => ∃ sb a b c, x 8 = .pointer (some ⟨sb, 0, none⟩) ∧ w9.heap.size ≤ sb ∧ Is w' sb 29 (q.cls a b c) ∧ OwnPk B0 q a b c w' | 10 => x 10 = .int .i64 (k : Nat) | _ => True
        case Ew => exact fun i w' w'' => match i with | 9 => True | _ => Only (fun _ => False) w' w''
        case hTw =>
          simp only [Reg.fillV, Act.put, List.setIfInBounds_toArray, List.set_cons_zero, List.set_cons_succ]
          rfl
        case runsw =>
          refine And.intro ?_ ?_
          · refine Reg.ob_pure (fun _ => rfl) rfl rfl rfl rfl (fun x w1 hF => ?_)
            exact run_load_at 29 _ (by rfl) rb (by rfl) 29 _ _ hF.i1 Try.underlying29 rfl Try.sizeRp
          refine And.intro ?_ ?_
          · refine Reg.ob_pure (fun _ => rfl) rfl rfl rfl rfl (fun x w1 hF => ?_)
            go_simp
            with_reducible rfl
          refine And.intro ?_ ?_
          · refine Reg.ob_pure (fun _ => rfl) rfl rfl rfl rfl (fun x w1 hF => ?_)
            exact run_load_at 69 _ (by rfl) mb (by rfl) 69 _ _ hF.i2 Try.underlying69 rfl Try.sizeMk
          refine And.intro ?_ ?_
          · refine Reg.ob_known (fun _ => rfl) rfl rfl (fun x w1 hF hU K hK => ?_)
            replace hF := hF rfl
            go_simp
            refine (HRF.out _).mono ?_
            rintro e w3 ⟨rfl, ho⟩
            exact hK w3 (fun _ _ _ => hF.go ho) ho
          refine And.intro ?_ ?_
          · refine Reg.ob_some (fun _ => rfl) rfl (fun x w1 hF hU K hK => ?_)
            replace hF := hF rfl
            go_simp
            refine (HRWI.out _ _ _ _ hF.r.rd).mono ?_
            rintro e w3 ⟨a, b, c, rfl, hr, ho, hown⟩
            exact hK _ w3 (fun _ _ _ => hF.go ho) ho ⟨a, b, c, rfl, hown B0 (Nat.le_trans HB9.out hF.pure.size) hF.r⟩
          refine And.intro ?_ ?_
          · refine Reg.ob_some (fun _ => rfl) rfl (fun x w1 hF hU K hK => ?_)
            obtain ⟨⟨a, b, c, h4, hr⟩, -⟩ := hU
            have h4 : x 4 = .tuple #[.agg (q.cls a b c), .int .i64 (k : Nat)] := h4
            revert hK
            simp only [Nat.reduceAdd, h4]
            intro hK
            go_simp
            exact hK _ _ (fun h => by cases h) rfl ⟨h4.symm, a, b, c, rfl⟩
          refine And.intro ?_ ?_
          · refine Reg.ob_some (fun _ => rfl) rfl (fun x w1 hF hU K hK => ?_)
            obtain ⟨⟨a, b, c, h4, hr⟩, ⟨h5, -⟩, -⟩ := hU
            have h4 : x 4 = .tuple #[.agg (q.cls a b c), .int .i64 (k : Nat)] := h4
            have h5 : x 5 = x 4 := h5
            rw [h4] at h5
            revert hK
            simp only [Nat.reduceAdd, h5, h4]
            intro hK
            go_simp
            exact hK _ _ (fun h => by cases h) rfl ⟨a, b, c, rfl, hr⟩
          refine And.intro ?_ ?_
          · refine Reg.ob_some (fun _ => rfl) rfl (fun x w1 hF hU K hK => ?_)
            obtain ⟨⟨-, a, b, c, h5⟩, -⟩ := hU
            have h5 : x 5 = .tuple #[.agg (q.cls a b c), .int .i64 (k : Nat)] := h5
            revert hK
            simp only [Nat.reduceAdd, h5]
            intro hK
            go_simp
            exact hK _ _ (fun h => by cases h) rfl rfl
          refine And.intro ?_ ?_
          · refine Reg.ob_some (fun _ => rfl) rfl (fun x w1 hF hU K hK => ?_)
            replace hF := hF rfl
            go_simp
            exact hK _ _ (fun _ _ _ => hF.go ((Only.refl _ w1).alloc _)) ((Only.refl _ w1).alloc _) ⟨_, rfl, hF.pure.size, Is.made _ _ _⟩
          refine And.intro ?_ ?_
          · refine Reg.ob_some (fun _ => rfl) rfl (fun x w1 hF hU K hK => ?_)
            replace hF := hF rfl
            obtain ⟨⟨a, b, c, h6, hr⟩, ⟨sb, h8, hsb, hI⟩, -⟩ := hU
            have h6 : x 6 = .agg (q.cls a b c) := h6
            have h8 : x 8 = .pointer (some ⟨sb, 0, none⟩) := h8
            refine wp_store_row 29 _ _ rfl sb (q.cls a b c) (by simpa [Act.eval] using h8) (by simpa [Act.eval] using h6) 29 zeroPk hI Try.sizeRp rfl (q.cls_one hr.rd.s (src_isSl hr.rd.e) (src_isSl hr.rd.p)) ?_
            have ho : Only (fun k => k = sb) w1 (w1.setRow sb (q.cls a b c)) := Only.setRow (S := fun k => k = sb) (Only.refl _ w1) (fun _ => rfl) _
            have hp : Only (fun _ => False) w9 (w1.setRow sb (q.cls a b c)) := hF.pure.trans ho (fun i hi e => by omega)
            exact hK undef _ (fun _ _ _ => ⟨R9.out.only hp (by simp), M9.out.only hp (by simp), RR9.out.only hp, hp⟩) trivial ⟨sb, a, b, c, h8, hsb, hI.setRow _, hr.off hI ho⟩
          refine And.intro ?_ ?_
          · refine Reg.ob_some (fun _ => rfl) rfl (fun x w1 hF hU K hK => ?_)
            obtain ⟨h7, -⟩ := hU
            have h7 : x 7 = .int .i64 (k : Nat) := h7
            revert hK
            simp only [Nat.reduceAdd, h7]
            intro hK
            go_simp
            exact hK _ _ (fun h => by cases h) rfl rfl
          exact trivial
        case hFw =>
          exact ⟨R9.out.only (only_drewN _ 1) (by simp), M9.out.only (only_drewN _ 1) (by simp), RR9.out.only (only_drewN _ 1), only_drewN _ 1⟩
        case hiniw =>
          exact trivial
        case presw =>
          intro i hi j hj hc x w1 w2 hF hE hW
          simp only [List.mem_cons, List.mem_nil_iff, or_false] at hi hj
          rcases hi with rfl | rfl | rfl | rfl <;> rcases hj with rfl | rfl | rfl | rfl | rfl | rfl | rfl
          all_goals first
            | (exfalso; revert hc; decide)
            | exact hW
            | (obtain ⟨a, b, c, h1, h2⟩ := hW; exact ⟨a, b, c, h1, h2.only hE⟩)
            | (obtain ⟨sb, h1, h2, h3⟩ := hW; exact ⟨sb, h1, h2, h3.only hE (by simp)⟩)
        case finw =>
          rintro x w10 hF ⟨⟨sb, sc, se, sp, h8, hsb, hI, hr⟩, h10, -⟩
          have h8 : x 8 = .pointer (some ⟨sb, 0, none⟩) := h8
          have h10 : x 10 = .int .i64 (k : Nat) := h10
          rw [h8, h10]
          have F10 := Lib.hid (hF rfl)
          have O10 := Lib.hid F10.out.pure
          have S10 := Lib.hid (show Fnd q qb sb qc qe qp sc se sp w10 w10 from ⟨Q9.out.only O10.out (by simp), hI, OW9.out.rd.only O10.out, hr.rd, Only.refl _ _⟩)
          have HQN := Lib.hid (own_nil OW9.out.1)
          clear hF hI hr h8 h10
          go_upto_region 13 with (fail)
          refine wp_region_posts [[], [], [0, 1], [2, 0, 1], [3, 2, 0, 1], [4, 3, 2, 0, 1], [3, 2, 0, 1], [5, 6, 3, 4, 2, 0, 1], [7, 3, 5, 6, 4, 2, 0, 1], [3, 8, 2, 0, 1, 7, 5, 6, 4]] [5, 7] [5] [[], [], [], [], [], [], [], [5], [], []] [[], [], [], [], [], [], [], [5], [], []] [] [] [] []
              [some ?vs0, some ?vs1, some ?vs2, some ?vs3, some (.agg (q.cls qc qe qp)), none, some (.agg (q.cls sc se sp)), some (.bool true), some ?vs8, some ?vs9]
              ?Ts (fun wx => Fnd q qb sb qc qe qp sc se sp w10 wx) ?Ws ?Es (by kernel_rfl) (by kernel_rfl) (by kernel_rfl) (fun x => ?hTs) ?hFs ?hinis (Reg.all_ops ?runss) ?press ?fins
          case Ws => exact fun j x w' => match j with | 5 => ∃ a b c, x 5 = .agg (q.cls a b c) ∧ RdPk q a b c w' | _ => True
          case Es => exact fun _ w' w'' => True
          case hTs =>
            simp only [Reg.fillV, Act.put, List.setIfInBounds_toArray, List.set_cons_zero, List.set_cons_succ]
            rfl
          case runss =>
            refine And.intro ?_ ?_
            · refine Reg.ob_pure (fun _ => rfl) rfl rfl rfl rfl (fun x w1 hF => ?_)
              go_simp
              with_reducible rfl
            refine And.intro ?_ ?_
            · refine Reg.ob_pure (fun _ => rfl) rfl rfl rfl rfl (fun x w1 hF => ?_)
              go_simp
              with_reducible rfl
            refine And.intro ?_ ?_
            · refine Reg.ob_pure (fun _ => rfl) rfl rfl rfl rfl (fun x w1 hF => ?_)
              go_simp
              with_reducible rfl
            refine And.intro ?_ ?_
            · refine Reg.ob_pure (fun _ => rfl) rfl rfl rfl rfl (fun x w1 hF => ?_)
              go_simp
              with_reducible rfl
            refine And.intro ?_ ?_
            · refine Reg.ob_pure (fun _ => rfl) rfl rfl rfl rfl (fun x w1 hF => ?_)
              exact run_load_at 33 _ (by rfl) qb (by rfl) 33 _ _ hF.i1 Try.underlying33 rfl Try.sizePq
            refine And.intro ?_ ?_
            · refine Reg.ob_some (fun _ => rfl) rfl (fun x w1 hF hU K hK => ?_)
              replace hF := hF rfl
              go_simp
              refine (docs_rd q qc qe qp w1 HQN.out hF.r1 HSQ.out).mono ?_
              rintro e w3 ⟨a, b, c, rfl, hr, ho⟩
              exact hK _ w3 (fun _ _ _ => hF.go ho) trivial ⟨a, b, c, rfl, hr⟩
            refine And.intro ?_ ?_
            · refine Reg.ob_pure (fun _ => rfl) rfl rfl rfl rfl (fun x w1 hF => ?_)
              exact run_load_at 29 _ (by rfl) sb (by rfl) 29 _ _ hF.i2 Try.underlying29 rfl Try.sizeRp
            refine And.intro ?_ ?_
            · refine Reg.ob_known (fun _ => rfl) rfl rfl (fun x w1 hF hU K hK => ?_)
              replace hF := hF rfl
              obtain ⟨⟨a, b, c, h5, hr⟩, -⟩ := hU
              have h5 : x 5 = .agg (q.cls a b c) := h5
              revert hK
              simp only [Nat.reduceAdd, h5]
              intro hK
              go_simp
              refine (same_rd q a b c sc se sp w1 hr hF.r2 HSQ.out).mono ?_
              rintro e w3 ⟨rfl, ho⟩
              exact hK w3 (fun _ _ _ => hF.go ho) trivial
            refine And.intro ?_ ?_
            · refine Reg.ob_pure (fun _ => rfl) rfl rfl rfl rfl (fun x w1 hF => ?_)
              go_simp
              with_reducible rfl
            refine And.intro ?_ ?_
            · refine Reg.ob_pure (fun _ => rfl) rfl rfl rfl rfl (fun x w1 hF => ?_)
              go_simp
              with_reducible rfl
            exact trivial
          case hFs =>
            exact S10.out.go (only_drewN _ 1)
          case hinis =>
            exact trivial
          case press =>
            intro i hi j hj hc x w1 w2 hF hE hW
            exfalso
            revert hc
            simp only [List.mem_cons, List.mem_nil_iff, or_false] at hi hj
            rcases hi with rfl | rfl <;> rcases hj with rfl <;> decide
          case fins =>
            rintro x w11 hF -
            have S11 := Lib.hid (hF rfl)
            clear hF
            have OWQ := Lib.hid (OW9.out.only (only_more O10.out S11.out.pure))
            have HSP := Lib.hid (HSPQ.out qc qe qp _ w11 OWQ.out)
            go_upto_region 16 with (first
              | (refine wpList_load_want (o := ⟨some 73, _, _, _, _, _⟩) rfl _ _ rfl qb rfl _ _ _ S11.out.i1 Try.underlying33 rfl Try.sizePq ?_)
              | (go_at_call 21; refine HSP.out.mono ?_; rintro e w12 ⟨rfl, ho12⟩; have O12 := Lib.hid ho12; clear ho12))
            have PWR := Lib.hid ((only_more O9.out (only_more O10.out S11.out.pure)).trans O12.out (fun i hi e => by
              have h1 := OWQ.out.1.lt i
              have h2 := OWQ.out.2.1.lt i
              have h3 := OWQ.out.2.2.lt i
              rcases e with e | e | e
              · have := (h1 e).1; omega
              · have := (h2 e).1; omega
              · have := (h3 e).1; omega))
            have PW := Lib.hid (only_more HPW.out PWR.out)
            have PI := Lib.hid (I7.out.only PW.out (by simp))
            have PR := Lib.hid (R7.out.only PW.out (by simp))
            have PRR := Lib.hid (RR7.out.only PW.out)
            refine wp_region_posts [[], [0], [], [1, 2, 0], [3, 1, 2, 0]] [1, 3] [1] [[], [], [], [1], []] [[], [], [], [1], []] [] [] [] []
                [some (.agg (p.cls pc pe pp)), none, some (.agg (p.cls rc re rp)), some (.bool true), some ?vp4]
                ?Tp (fun wx => Is wx pb 33 (p.cls pc pe pp) ∧ Is wx rb 29 (p.cls rc re rp) ∧ RdPk p rc re rp wx ∧ Only (fun _ => False) w wx ∧ Only (fun _ => False) wr wx) ?Wp ?Ep (by kernel_rfl) (by kernel_rfl) (by kernel_rfl) (fun x => ?hTp) ?hFp ?hinip (Reg.all_ops ?runsp) ?presp ?finp
            case Wp => exact fun j x w' => match j with | 1 => ∃ a b c, x 1 = .agg (p.cls a b c) ∧ RdPk p a b c w' | _ => True
            case Ep => exact fun _ w' w'' => True
            case hTp =>
              simp only [Reg.fillV, Act.put, List.setIfInBounds_toArray, List.set_cons_zero, List.set_cons_succ]
              rfl
            case runsp =>
              refine And.intro ?_ ?_
              · refine Reg.ob_pure (fun _ => rfl) rfl rfl rfl rfl (fun x w1 hF => ?_)
                exact run_load_at 33 _ (by rfl) pb (by rfl) 33 _ _ hF.1 Try.underlying33 rfl Try.sizePq
              refine And.intro ?_ ?_
              · refine Reg.ob_some (fun _ => rfl) rfl (fun x w1 hF hU K hK => ?_)
                replace hF := hF rfl
                go_simp
                refine (HDR.out _ hF.2.2.2.1).mono ?_
                rintro e w3 ⟨a, b, c, rfl, hr, ho⟩
                exact hK _ w3 (fun _ _ _ => ⟨hF.1.only ho (by simp), hF.2.1.only ho (by simp), hF.2.2.1.only ho, only_more hF.2.2.2.1 ho, only_more hF.2.2.2.2 ho⟩) trivial ⟨a, b, c, rfl, hr⟩
              refine And.intro ?_ ?_
              · refine Reg.ob_pure (fun _ => rfl) rfl rfl rfl rfl (fun x w1 hF => ?_)
                exact run_load_at 29 _ (by rfl) rb (by rfl) 29 _ _ hF.2.1 Try.underlying29 rfl Try.sizeRp
              refine And.intro ?_ ?_
              · refine Reg.ob_known (fun _ => rfl) rfl rfl (fun x w1 hF hU K hK => ?_)
                replace hF := hF rfl
                obtain ⟨⟨a, b, c, h1, hr⟩, -⟩ := hU
                have h1 : x 1 = .agg (p.cls a b c) := h1
                revert hK
                simp only [Nat.reduceAdd, h1]
                intro hK
                go_simp
                refine (same_rd p a b c rc re rp w1 hr hF.2.2.1 HSZ.out).mono ?_
                rintro e w3 ⟨rfl, ho⟩
                exact hK w3 (fun _ _ _ => ⟨hF.1.only ho (by simp), hF.2.1.only ho (by simp), hF.2.2.1.only ho, only_more hF.2.2.2.1 ho, only_more hF.2.2.2.2 ho⟩) trivial
              refine And.intro ?_ ?_
              · refine Reg.ob_pure (fun _ => rfl) rfl rfl rfl rfl (fun x w1 hF => ?_)
                go_simp
                with_reducible rfl
              exact trivial
            case hFp =>
              exact ⟨PI.out.only (only_drewN _ 1) (by simp), PR.out.only (only_drewN _ 1) (by simp), PRR.out.only (only_drewN _ 1), only_more (only_more T7.out PW.out) (only_drewN _ 1), only_more PWR.out (only_drewN _ 1)⟩
            case hinip =>
              exact trivial
            case presp =>
              intro i hi j hj hc x w1 w2 hF hE hW
              exfalso
              revert hc
              simp only [List.mem_cons, List.mem_nil_iff, or_false] at hi hj
              rcases hi with rfl | rfl <;> rcases hj with rfl <;> decide
            case finp =>
              rintro x w9 hF -
              have PU := Lib.hid (hF rfl).2.2.2.2
              clear hF
              go_wp2
              exact ⟨⟨n + 1, by omega, by go_num, only_more HPW.out PU.out⟩, by simp [intOf]; omega⟩
            
          
      · obtain rfl : n = 2 := by omega
        go_wp2_with fail
        refine (HWK.out _).mono ?_
        rintro e w9 ⟨rfl, ho9⟩
        have O9 := Lib.hid ho9
        clear ho9
        go_wp2
        go_ret
        exact ⟨rfl, only_more T7.out (only_more HPW.out O9.out)⟩
end Go.Proofs.Ytcgfmjdlningpaa
