/- MarkBack's walk. Conditions: as it says. -/
import Derived.Test.YtcgfmjdlningpaaMkH
import Derived.Test.YtcgfmjdlningpaaRtpM
import Derived.Test.YtcgfmjdlningpaaRegT
set_option linter.unusedVariables false
namespace Go.Proofs.Ytcgfmjdlningpaa
open Go.RowKit

theorem first_of (b : Nat) (h : b < 256) : bn (hasb b 128) 128 + bn (hasb b 64) 64 + bn (hasb b 32) 32 + bn (hasb b 16) 16 + bn (hasb b 8) 8 + b % 8 = b ∧ (b % 16 = 0 → bn (hasb b 128) 128 + bn (hasb b 64) 64 + bn (hasb b 32) 32 + bn (hasb b 16) 16 = b) := by
  have : ∀ i : Fin 256, bn (hasb i.val 128) 128 + bn (hasb i.val 64) 64 + bn (hasb i.val 32) 32 + bn (hasb i.val 16) 16 + bn (hasb i.val 8) 8 + i.val % 8 = i.val ∧ (i.val % 16 = 0 → bn (hasb i.val 128) 128 + bn (hasb i.val 64) 64 + bn (hasb i.val 32) 32 + bn (hasb i.val 16) 16 = i.val) := by decide +kernel
  exact this ⟨b, h⟩
theorem mk_parsed (bs : List Nat) (hb : ∀ x ∈ bs, x < 256) (h : mkErr bs = 0) : (mkOf bs).right = true ∧ (mkOf bs).enc = bs := by
  unfold mkErr at h
  by_cases h3 : bs.length = 3
  · match bs, h3 with
    | [b, x, y], _ =>
      have e : mkOf [b, x, y] = mkThree b x y := by
        unfold mkOf mkThree
        rw [if_pos (by simp)]
        rfl
      rw [e]
      refine ⟨mkThree_right b x y, ?_⟩
      have := (first_of b (hb b (by simp))).1
      show [bn (hasb b 128) 128 + bn (hasb b 64) 64 + bn (hasb b 32) 32 + bn (hasb b 16) 16 + bn (hasb b 8) 8 + b % 8, x, y] = [b, x, y]
      rw [this]
  · rw [if_neg h3] at h
    by_cases h1 : bs.length = 1 ∧ bt bs 0 % 16 = 0
    · match bs, h1 with
      | [b], h1 =>
        have h16 : b % 16 = 0 := h1.2
        have e : mkOf [b] = mkFour b := by
          unfold mkOf mkFour
          rw [if_neg (by simp), if_pos ⟨rfl, h16⟩]
          rfl
        rw [e]
        refine ⟨rfl, ?_⟩
        have := (first_of b (hb b (by simp))).2 h16
        show [bn (hasb b 128) 128 + bn (hasb b 64) 64 + bn (hasb b 32) 32 + bn (hasb b 16) 16 + bn false 8 + 0] = [b]
        rw [show bn false 8 = 0 from rfl]
        simp only [Nat.add_zero]
        rw [this]
    · rw [if_neg h1] at h
      cases h
theorem run_neq_mk {o : Oper} {ρ : Operand → Value} (w : World) (x y : Operand) (d e : Mk) (ho : o.op = .binOp .neq 69 x y 69) (hx : ρ x = .agg d.cells) (hy : ρ y = .agg e.cells) :
    (execOp ρ o).run Try.prog w = .ok (.value (.bool (!d.same e))) w := by
  have h := eq_mk d e w
  rw [run_eql_struct] at h
  have ok : ∀ {r : Result Bool} {v : Bool}, (r.andThen fun b w' => .ok (Value.bool b) w') = .ok (.bool v) w → r = .ok v w := by
    intro r v h
    cases r <;> simp_all [Result.andThen]
  have hn : (binOp .neq 69 (.agg d.cells) (.agg e.cells)).run Try.prog w = .ok (.bool (!d.same e)) w := by
    rw [run_neq_struct, ok h]
    rfl
  unfold execOp
  simp only [ho, hx, hy, Sem.run_bind, Sem.run_pure, Result.andThen_ok, run_eqGuard_agg (P := Try.prog) w .neq 69 x y d.cells e.cells (by kernel_rfl), hn]
theorem run_neq_self {o : Oper} {ρ : Operand → Value} (w : World) (x y : Operand) (d : Mk) (ho : o.op = .binOp .neq 69 x y 69) (hx : ρ x = .agg d.cells) (hy : ρ y = .agg d.cells) :
    (execOp ρ o).run Try.prog w = .ok (.value (.bool false)) w := by
  rw [run_neq_mk w x y d d ho hx hy, Mk.same_self]
  rfl
section
variable {ops : Array Oper} {rest : List Oper} {o : Oper} {a : Act} {w : World} {Q : Exit → Act → World → Prop}
theorem wpList_neq_mk (hw : Region.wanted o (yielded ops a.tmps) = true) (x y : Operand) (ho : o.op = .binOp .neq 69 x y 69) (d : Mk) (hx : a.eval x = .agg d.cells) (hy : a.eval y = .agg d.cells)
    (h : wpList Try.prog ops Q rest (a.put o.dst (.bool false)) w) : wpList Try.prog ops Q (o :: rest) a w :=
  wpList_want hw fun K hK => by
    unfold Oper.wp
    rw [run_neq_mk w x y d d ho hx hy, Mk.same_self]
    simp only [Oper.upon]
    exact hK _ _ h
end
theorem with_bad {ix : Nat} {m : Mk} (h : withErr ix m ≠ 0) : withErr ix m = 40 ∧ (ix = 0 ∨ m.right = false) := by
  unfold withErr at *
  by_cases hr : m.right = false
  · rw [if_pos hr]
    exact ⟨rfl, .inr hr⟩
  · rw [if_neg hr] at *
    by_cases h0 : ix = 0
    · rw [if_pos h0]
      exact ⟨rfl, .inl h0⟩
    · rw [if_neg h0] at h
      exact absurd rfl h
theorem rd_own32 {w : World} {B : Nat} {v : Value} {ns : List Nat} (h : w.ownsRow B 26 1 v ns.length (cells32 ns)) : Rd .u32 w v (nats ns) := by
  rcases h.2 with ⟨rfl, h0⟩ | ⟨g, cap, cur, rfl, _, _, hc, _⟩
  · obtain rfl := List.eq_nil_of_length_eq_zero h0
    exact Rd.nil _ _
  · refine ⟨some ⟨g, 0, none⟩, cap, by rw [nats_length], by rw [nats_length]; exact hc, fun hp => ⟨g, 0, rfl, fun j hj => ?_⟩⟩
    rw [nats_length] at hj
    have h1 := h.cells (g := g) rfl j (.int .u32 (ns[j] : Nat)) (by simp [cells32, hj])
    rw [add_plain] at h1
    rw [h1]
    simp [nats]

theorem bad_eq (m : Mk) : ((m.bad : Int) == 0) = m.right := by
  unfold Mk.bad
  cases m.right <;> rfl
theorem with_zero {p : Pk} {ix : Nat} {m : Mk} (h : withErr ix m ≠ 0) : withPk p ix m = p := by unfold withPk; rw [if_neg h]

set_option maxRecDepth 100000 in
set_option maxHeartbeats 4000000 in
theorem mback_any (m : Mk) (vb : Value) (bs : List Nat) (p : Pk) (vc ve vp : Value) (ix : Nat) (w : World) (hm : m.Fit) (hs : Src w vb bs) (hb : ∀ x ∈ bs, x < 256) (hf : p.Fit) (hix : ix < 256)
    (hc : Rd .u32 w vc (nats p.csrc)) (hn0 : vc = .slice none 0 0 ∨ ∃ ad n c, vc = .slice (some ad) n c) (he : Src w ve p.ext) (hp : Src w vp p.pay) :
    Calls Try.prog 11 #[.agg m.cells, vb, .agg (p.cls vc ve vp), .int .u8 ix] w fun e w' => e = .returned (.bool true) ∧ Only (fun _ => False) w w' := by
  obtain ⟨Ab, cb, rfl⟩ := hs.slice
  obtain ⟨Ac, cc, rfl⟩ := hc.slice
  obtain ⟨Ae, ce, rfl⟩ := he.slice
  obtain ⟨Ap, cp, rfl⟩ := hp.slice
  rw [nats_length] at hc hn0 ⊢
  have HS := Lib.hid hs
  have HC := Lib.hid hc
  have HE := Lib.hid he
  have HP := Lib.hid hp
  have HFEW := Lib.hid (fun w' => few_is p Ac Ae Ap cc ce cp w')
  have HWK := Lib.hid (fun w => mworks_any w)
  obtain ⟨pa, hpa⟩ : ∃ a, p.cls (.slice Ac p.csrc.length cc) (.slice Ae p.ext.length ce) (.slice Ap p.pay.length cp) = a := ⟨_, rfl⟩
  have HPA := Lib.hid hpa
  have HPV : p.val (.slice Ac p.csrc.length cc) (.slice Ae p.ext.length ce) (.slice Ap p.pay.length cp) = .agg pa := by rw [← hpa]; rfl
  rw [HPV] at HFEW
  rw [hpa]
  have SZP := Lib.hid (show (Try.prog.info? 33).map (·.size) = some pa.size from by rw [← hpa]; exact Try.sizePq)
  clear hpa
  by_cases hl : 20 < bs.length
  · have zl : decide ((20 : Int) < (bs.length : Int)) = true := decide_eq_true (by omega)
    clear hl hb hs hc he hp hn0 HPV
    go_enter Try.func11, Try.ntmps11
    go_wp2_with fail
    refine (HWK.out _).mono ?_
    rintro e w1 ⟨rfl, ho1⟩
    have O1 := Lib.hid (only_more (((Only.refl _ w).alloc _).alloc _) ho1)
    clear ho1
    go_wp2
    go_ret
    exact ⟨rfl, O1.out⟩
  have zl : decide ((20 : Int) < (bs.length : Int)) = false := decide_eq_false (by omega)
  have HBL := Lib.hid (show bs.length ≤ 20 from by omega)
  clear hl HPV hs
  cases hfew : p.few
  · rw [hfew] at HFEW
    clear hfew hb hc he hp hn0
    go_enter Try.func11, Try.ntmps11
    go_upto_region 1 with (fail)
    generalize hw0 : World.alloc (World.alloc _ _) _ = w0
    have HI := Lib.hid (show Is w0 (w.heap.size + 1) 33 pa from by rw [← hw0]; have := Is.made (w.alloc (.cells m.cells 69)) 33 pa; rw [World.size_alloc] at this; exact this)
    have P0 := Lib.hid (show Only (fun _ => False) w w0 from by rw [← hw0]; exact ((Only.refl _ w).alloc _).alloc _)
    clear hw0
    go_wp2_with (first
      | (refine wpList_load_want (o := ⟨some 25, _, _, _, _, _⟩) rfl _ _ rfl (w.heap.size + 1) rfl _ _ _ HI.out Try.underlying33 rfl SZP.out ?_)
      | (go_at_call 46; refine (HFEW.out _).mono ?_; rintro e w1 ⟨rfl, ho1⟩; have O1 := Lib.hid ho1; clear ho1)
      | (go_at_call 43; refine (HWK.out _).mono ?_; rintro e w2 ⟨rfl, ho2⟩; have O2 := Lib.hid ho2; clear ho2))
    go_ret
    exact ⟨rfl, only_more P0.out (only_more O1.out O2.out)⟩
  rw [hfew] at HFEW
  obtain ⟨hcl, hel, hpl⟩ : p.csrc.length ≤ 20 ∧ p.ext.length ≤ 400 ∧ p.pay.length ≤ 400 := by simpa [Pk.few] using hfew
  have HPM := Lib.hid (fun w => mk_put m w)
  have HRM := Lib.hid (fun w => mk_right m w)
  have HPO := Lib.hid (show m.right = true → ∀ v w, Src w v m.out → Calls Try.prog 44 #[v] w fun e w' => e = .returned (.tuple #[.agg m.cells, .int .i64 0]) ∧ Only (fun _ => False) w w' from fun hr v w h => by
    have e1 : m.out = m.enc := by unfold Mk.out; rw [hr]; rfl
    have h7 : m.tid ≤ 7 := by
      have hr2 := hr
      unfold Mk.right at hr2
      simp at hr2
      exact hr2.1
    rw [e1] at h
    obtain ⟨b1, b2⟩ := mk_back m hr
    refine (mk_parse v m.enc w h (enc_byte m hm h7)).mono ?_
    rintro e w' ⟨rfl, ho⟩
    rw [b1, b2]
    exact ⟨rfl, ho⟩)
  have HOL := Lib.hid (mk_out_len m)
  have HPB := Lib.hid (fun v w (h : Src w v bs) => mk_parse v bs w h hb)
  unfold MkParA at HPB
  have HPY := Lib.hid (show mkErr bs = 0 → ∀ w, Calls Try.prog 40 #[.agg (mkOf bs).cells] w (PutB 0 bs w) from fun h w => by
    obtain ⟨y1, y2⟩ := mk_parsed bs hb h
    have := mk_put (mkOf bs) w
    rw [show (mkOf bs).bad = 0 from by unfold Mk.bad; rw [y1]; rfl, show (mkOf bs).out = bs from by unfold Mk.out; rw [y1, y2]; rfl] at this
    exact this)
  have HVY := Lib.hid (Mk.one (mkOf bs))
  have HVM := Lib.hid (Mk.one m)
  have HWI := Lib.hid (fun w' (ho : Only (fun _ => False) w w') => mk_with p ix m (.slice Ac p.csrc.length cc) (.slice Ae p.ext.length ce) (.slice Ap p.pay.length cp) w' hix hm (hc.only ho (by simp)) hn0 (he.of_only ho) (hp.of_only ho) (by omega))
  rw [HPA.out] at HWI
  have HKB := Lib.hid (fun h => with_bad (ix := ix) (m := m) h)
  have HQP := Lib.hid (fun h => with_zero (p := p) (ix := ix) (m := m) h)
  have HOF := Lib.hid (fun h => of_with p ix m h)
  have HQ0 := Lib.hid (show withErr ix m = 0 → withPk p ix m = { p with hasExt := true, profile := withProf ix, ext := exPut (decide (ix ≤ 14)) [⟨ix, m.enc⟩] } from fun h => by unfold withPk; rw [if_pos h])
  have HQB := Lib.hid (show withErr ix m = 0 → (withPk p ix m).profile < 65536 ∧ (∀ x ∈ (withPk p ix m).ext, x < 256) ∧ (withPk p ix m).ext.length ≤ 100000 from fun h => by
    have hr : m.right = true := by
      unfold withErr at h
      by_cases e : m.right = false
      · rw [if_pos e] at h; cases h
      · simpa using e
    have h0 : ix ≠ 0 := by
      unfold withErr at h
      intro e
      rw [if_neg (by rw [hr]; simp), if_pos e] at h
      cases h
    have h7 : m.tid ≤ 7 := by
      have hr2 := hr
      unfold Mk.right at hr2
      simp at hr2
      exact hr2.1
    unfold withPk
    rw [if_pos h]
    refine ⟨(with_form ix).2.2, ?_, ?_⟩
    · exact exPut_lt _ _ (with_all ix m h0) (by simp; exact ⟨hix, enc_byte m hm h7⟩)
    · have h1 := with_len ix m (decide (ix ≤ 14))
      show (exPut (decide (ix ≤ 14)) [⟨ix, m.enc⟩]).length ≤ 100000
      unfold exPut noughts4
      rw [List.length_append, List.length_replicate]
      omega)
  have ebr := bad_eq m
  have e2 : (m.right != m.right) = false := by simp
  have HSAME := Lib.hid (fun v1 v2 w' (ho : Only (fun _ => False) w w') (h1 : Rd .u32 w' v1 (nats p.csrc)) (h2 : Src w' v2 p.pay) => same_true p (.slice Ac p.csrc.length cc) (.slice Ae p.ext.length ce) (.slice Ap p.pay.length cp) v1 (.slice Ae p.ext.length ce) v2 w' hf (hc.only ho (by simp)) h1 (he.of_only ho) (he.of_only ho) (hp.of_only ho) h2 (by omega))
  have HSAME2 := Lib.hid (fun v1 v3 v2 w' (ho : Only (fun _ => False) w w') (h1 : Rd .u32 w' v1 (nats p.csrc)) (h3 : Src w' v3 p.ext) (h2 : Src w' v2 p.pay) => same_true p (.slice Ac p.csrc.length cc) (.slice Ae p.ext.length ce) (.slice Ap p.pay.length cp) v1 v3 v2 w' hf (hc.only ho (by simp)) h1 (he.of_only ho) h3 (hp.of_only ho) h2 (by omega))
  clear hfew hb hc he hp hn0 hf hm hcl hel hpl
  generalize m.out = out at *
  generalize m.bad = bad at *
  generalize hrt : m.right = rt at *
  generalize mkOf bs = y at *
  generalize mkErr bs = ye at *
  obtain ⟨q, hq⟩ : ∃ q, withPk p ix m = q := ⟨_, rfl⟩
  obtain ⟨k, hk⟩ : ∃ k, withErr ix m = k := ⟨_, rfl⟩
  rw [hq] at HWI HOF HQ0 HQB HQP
  rw [hk] at HWI HOF HQ0 HQB HQP HKB
  clear hq hk hrt
  go_enter Try.func11, Try.ntmps11
  go_upto_region 1 with (fail)
  generalize hw0 : World.alloc (World.alloc _ _) _ = w0
  have HM := Lib.hid (show Is w0 w.heap.size 69 m.cells from by rw [← hw0]; exact (Is.made w _ _).alloc _)
  have HI := Lib.hid (show Is w0 (w.heap.size + 1) 33 pa from by rw [← hw0]; have := Is.made (w.alloc (.cells m.cells 69)) 33 pa; rw [World.size_alloc] at this; exact this)
  have P0 := Lib.hid (show Only (fun _ => False) w w0 from by rw [← hw0]; exact ((Only.refl _ w).alloc _).alloc _)
  obtain ⟨mb, hmb⟩ : ∃ k, w.heap.size = k := ⟨_, rfl⟩
  obtain ⟨pb, hpb⟩ : ∃ k, w.heap.size + 1 = k := ⟨_, rfl⟩
  have HPBK := Lib.hid (show w.heap.size ≤ mb ∧ w.heap.size ≤ pb from by omega)
  rw [hpb] at HI ⊢
  rw [hmb] at HM ⊢
  clear hw0 hmb hpb
  go_upto_if 41 with (first
    | (refine wpList_load_want (o := ⟨some 25, _, _, _, _, _⟩) rfl _ _ rfl pb rfl _ _ _ HI.out Try.underlying33 rfl SZP.out ?_)
    | (go_at_call 46; refine (HFEW.out _).mono ?_; rintro e w1 ⟨rfl, ho1⟩; have O1 := Lib.hid ho1; clear ho1)
    | (refine wpList_load_want (o := ⟨some 31, _, _, _, _, _⟩) rfl _ _ rfl mb rfl _ _ _ (HM.out.only O1.out (by simp)) Try.underlying69 rfl Try.sizeMk ?_)
    | (go_at_call 40; refine (HPM.out _).mono ?_; rintro e w2 ⟨v2, rfl, hv2, ho2⟩; obtain ⟨A2, c2, h2, -⟩ := own_slice hv2; subst h2; have V2 := Lib.hid hv2; have O2 := Lib.hid (only_more O1.out ho2); clear hv2 ho2)
    | (refine wpList_load_want (o := ⟨some 37, _, _, _, _, _⟩) rfl _ _ rfl mb rfl _ _ _ (HM.out.only O2.out (by simp)) Try.underlying69 rfl Try.sizeMk ?_)
    | (go_at_call 41; refine (HRM.out _).mono ?_; rintro e w3 ⟨rfl, ho3⟩; have O3 := Lib.hid ho3; clear ho3))
  have M3 := Lib.hid (HM.out.only (only_more O2.out O3.out) (by simp))
  have I3 := Lib.hid (HI.out.only (only_more O2.out O3.out) (by simp))
  have T3 := Lib.hid (only_more P0.out (only_more O2.out O3.out))
  go_cut [] (fun wx => Only (fun _ => False) w3 wx)
  case first =>
    cases rt
    · go_wp2_with fail
      go_meet
      exact Only.refl _ _
    · have HPO2 := Lib.hid (HPO.out rfl _ _ (Src.of_own (own_only V2.out O3.out (by simp))))
      go_wp2_with (first
        | (go_at_call 44; refine HPO2.out.mono ?_; rintro e w4 ⟨rfl, ho4⟩; have O4 := Lib.hid ho4; clear ho4)
        | (refine wpList_store_is rfl 69 _ _ rfl w4.heap.size m.cells rfl rfl 69 Mk.zero.cells (Is.made w4 _ Mk.zero.cells) Try.sizeMk rfl HVM.out ?_; intro w5 hi5 ho5; have O5 := Lib.hid (only_made ho5); have I5 := Lib.hid hi5; clear hi5 ho5)
        | (refine wpList_load_want (o := ⟨some 50, _, _, _, _, _⟩) rfl _ _ rfl w4.heap.size rfl _ _ _ I5.out Try.underlying69 rfl Try.sizeMk ?_)
        | (refine wpList_load_want (o := ⟨some 51, _, _, _, _, _⟩) rfl _ _ rfl mb rfl _ _ _ (M3.out.only (only_more O4.out O5.out) (by simp)) Try.underlying69 rfl Try.sizeMk ?_)
        | (refine wpList_neq_mk (o := ⟨some 52, _, _, _, _, _⟩) rfl _ _ rfl m rfl rfl ?_))
      go_meet
      exact only_more O4.out O5.out
  case rest =>
    have OC := Lib.hid hcut
    have M6 := Lib.hid (M3.out.only OC.out (by simp))
    have I6 := Lib.hid (I3.out.only OC.out (by simp))
    have T6 := Lib.hid (only_more T3.out OC.out)
    clear hcut OC M3 I3 T3 HPO HPM HFEW V2 O1 O2 O3
    go_upto_if 60 with (first
      | (go_at_call 44; refine (HPB.out _ _ (HS.out.of_only T6.out)).mono ?_; rintro e w4 ⟨rfl, ho4⟩; have O4 := Lib.hid ho4; clear ho4)
      | (refine wpList_store_is rfl 69 _ _ rfl w4.heap.size y.cells rfl rfl 69 Mk.zero.cells (Is.made w4 _ Mk.zero.cells) Try.sizeMk rfl HVY.out ?_; intro w5 hi5 ho5; have O5 := Lib.hid (only_made ho5); have I5 := Lib.hid hi5; clear hi5 ho5))
    have T5 := Lib.hid (only_more T6.out (only_more O4.out O5.out))
    have M5 := Lib.hid (M6.out.only (only_more O4.out O5.out) (by simp))
    have K5 := Lib.hid (I6.out.only (only_more O4.out O5.out) (by simp))
    generalize w4.heap.size = yb at *
    clear M6 I6 T6
    go_cut [] (fun wx => Only (fun _ => False) w5 wx)
    case first =>
      by_cases h0 : ye = 0
      · have ez : ((ye : Int) == 0) = true := by simp [h0]
        have HPZ := Lib.hid (HPY.out h0)
        have HSB := Lib.hid (fun v1 w' (ho : Only (fun _ => False) w w') (h1 : Src w' v1 bs) => msame_yes v1 (.slice Ab bs.length cb) bs w' h1 (HS.out.of_only ho) (by have := HBL.out; omega))
        clear h0
        go_wp2_with (first
          | (refine wpList_load_want (o := ⟨some 62, _, _, _, _, _⟩) rfl _ _ rfl yb rfl _ _ _ I5.out Try.underlying69 rfl Try.sizeMk ?_)
          | (go_at_call 40; refine (HPZ.out _).mono ?_; rintro e w6 ⟨v6, rfl, hv6, ho6⟩; have V6 := Lib.hid (Src.of_own hv6); obtain ⟨A6, c6, h6, -⟩ := own_slice hv6; subst h6; have O6 := Lib.hid ho6; clear hv6 ho6)
          | (go_at_call 22; refine (HSB.out _ _ (only_more T5.out O6.out) V6.out).mono ?_; rintro e w7 ⟨rfl, ho7⟩; have O7 := Lib.hid ho7; clear ho7))
        go_meet
        exact only_more O6.out O7.out
      · have ez : ((ye : Int) == 0) = false := by simp; omega
        clear h0
        go_wp2_with fail
        go_meet
        exact Only.refl _ _
    case rest =>
      have OC := Lib.hid hcut
      have M6 := Lib.hid (M5.out.only OC.out (by simp))
      have K6 := Lib.hid (K5.out.only OC.out (by simp))
      have T6 := Lib.hid (only_more T5.out OC.out)
      clear hcut OC M5 K5 T5 HPB HPY I5 O4 O5 HVY
      go_upto_region 16 with (first
        | (refine wpList_load_want (o := ⟨some 75, _, _, _, _, _⟩) rfl _ _ rfl pb rfl _ _ _ K6.out Try.underlying33 rfl SZP.out ?_)
        | (refine wpList_load_want (o := ⟨some 77, _, _, _, _, _⟩) rfl _ _ rfl mb rfl _ _ _ M6.out Try.underlying69 rfl Try.sizeMk ?_)
        | (go_at_call 49; refine (HWI.out _ T6.out).mono ?_; rintro e w7 ⟨vc7, ve7, vp7, rfl, hown7, ho7⟩; have O7 := Lib.hid ho7; have OW7 := Lib.hid hown7; have HV7 := Lib.hid (q.cls_one (own_isSl hown7.1) (own_isSl hown7.2.1) (own_isSl hown7.2.2)); clear ho7 hown7)
        | (refine wpList_store_is rfl 33 _ _ rfl w7.heap.size (q.cls vc7 ve7 vp7) rfl rfl 33 zeroPk (Is.made w7 _ zeroPk) Try.sizePq rfl HV7.out ?_; intro w8 hi8 ho8; have O8 := Lib.hid (only_made ho8); have I8 := Lib.hid hi8; clear hi8 ho8))
      have OW8 := Lib.hid (OW7.out.only O8.out)
      have M8 := Lib.hid (M6.out.only (only_more O7.out O8.out) (by simp))
      have K8 := Lib.hid (K6.out.only (only_more O7.out O8.out) (by simp))
      have T8 := Lib.hid (only_more T6.out (only_more O7.out O8.out))
      have HQW := Lib.hid (show w.heap.size ≤ w7.heap.size ∧ pb < w7.heap.size from ⟨(only_more T6.out O7.out).size, Nat.lt_of_lt_of_le K6.out.lt O7.out.size⟩)
      generalize w7.heap.size = qb at *
      by_cases h0 : k = 0
      · have ez : ((k : Int) != 0) = false := by simp [h0]
        have HOQ := Lib.hid (HOF.out h0)
        have HQ1 := Lib.hid (HQ0.out h0)
        obtain ⟨b1, b2, b3⟩ := HQB.out h0
        have HOFQ := Lib.hid (mk_of q ix vc7 ve7 vp7 w8 hix b1 (own_isSl OW8.out.1) (own_isSl OW8.out.2.2) (Src.of_own OW8.out.2.1) b2 b3)
        rw [HOQ.out] at HOFQ
        clear h0 b1 b2 b3 HOF HQ0 HQB
        go_upto_region 19 with (first
          | (refine wpList_load_want (o := ⟨some 103, _, _, _, _, _⟩) rfl _ _ rfl qb rfl _ _ _ I8.out Try.underlying33 rfl Try.sizePq ?_)
          | (go_at_call 47; refine HOFQ.out.mono ?_; rintro e w9 ⟨rfl, ho9⟩; have O9 := Lib.hid ho9; clear ho9)
          | (refine wpList_store_is rfl 69 _ _ rfl w9.heap.size m.cells rfl rfl 69 Mk.zero.cells (Is.made w9 _ Mk.zero.cells) Try.sizeMk rfl HVM.out ?_; intro w10 hi10 ho10; have O10 := Lib.hid (only_made ho10); have I10 := Lib.hid hi10; clear hi10 ho10))
        have O810 := Lib.hid (only_more O9.out O10.out)
        have Q10 := Lib.hid (I8.out.only O810.out (by simp))
        have M10 := Lib.hid (M8.out.only O810.out (by simp))
        have K10 := Lib.hid (K8.out.only O810.out (by simp))
        have OW10 := Lib.hid (OW8.out.only O810.out)
        have T10 := Lib.hid (only_more T8.out O810.out)
        generalize w9.heap.size = zb at *
        have HQ6 := Lib.hid (show w10.cell? ⟨qb, 6, none⟩ = some (.bool true) from by have h := Q10.out.cell 6; rw [HQ1.out] at h; exact h)
        go_upto_region 19 with (fail)
        refine wp_region_text [[], [0], [1, 0], [2, 1, 0], [2, 1, 0], [3, 4, 2, 1, 0], [2, 5, 1, 0, 3, 4], [6, 2, 5, 1, 0, 3, 4], [7, 6, 2, 5, 1, 0, 3, 4], [8, 7, 6, 2, 5, 1, 0, 3, 4], [9, 7, 8, 6, 2, 5, 1, 0, 3, 4], [7, 10, 6, 2, 5, 1, 0, 3, 4, 9, 8]] [] [] [[], [], [], [], [], [], [], [], [], [], [], []] [[], [], [], [], [], [], [], [], [], [], [], []] [] [] [] []
            [some ?vn0, some ?vn1, some ?vn2, some (.agg m.cells), some (.agg m.cells), some (.bool false), some ?vn6, some ?vn7, some ?vn8, some ?vn9, some ?vn10, some ?vn11]
            ?Tn (fun wx => Is wx zb 69 m.cells ∧ Is wx mb 69 m.cells ∧ wx.cell? ⟨qb, 6, none⟩ = some (.bool true) ∧ Only (fun _ => False) w10 wx) ?Wn ?En (by kernel_rfl) (by kernel_rfl) (by kernel_rfl) (fun x => ?hTn) ?hFn ?hinin (Reg.all_ops ?runsn) ?presn ?finn
        case Wn => exact fun j x w' => True
        case En => exact fun _ w' w'' => True
        case hTn =>
          simp only [Reg.fillV, Act.put, List.setIfInBounds_toArray, List.set_cons_zero, List.set_cons_succ]
          rfl
        case runsn =>
          refine And.intro ?_ ?_
          · refine Reg.ob_pure (fun _ => rfl) rfl rfl rfl rfl (fun x w1 hF => ?_)
            obtain ⟨-, -, hq6, -⟩ := hF
            go_simp
            with_reducible rfl
          refine And.intro ?_ ?_
          · refine Reg.ob_pure (fun _ => rfl) rfl rfl rfl rfl (fun x w1 hF => ?_)
            obtain ⟨-, -, hq6, -⟩ := hF
            go_simp
            with_reducible rfl
          refine And.intro ?_ ?_
          · refine Reg.ob_pure (fun _ => rfl) rfl rfl rfl rfl (fun x w1 hF => ?_)
            obtain ⟨-, -, hq6, -⟩ := hF
            go_simp
            with_reducible rfl
          refine And.intro ?_ ?_
          · refine Reg.ob_pure (fun _ => rfl) rfl rfl rfl rfl (fun x w1 hF => ?_)
            exact run_load_at 69 _ (by rfl) zb (by rfl) 69 _ _ hF.1 Try.underlying69 rfl Try.sizeMk
          refine And.intro ?_ ?_
          · refine Reg.ob_pure (fun _ => rfl) rfl rfl rfl rfl (fun x w1 hF => ?_)
            exact run_load_at 69 _ (by rfl) mb (by rfl) 69 _ _ hF.2.1 Try.underlying69 rfl Try.sizeMk
          refine And.intro ?_ ?_
          · refine Reg.ob_pure (fun _ => rfl) rfl rfl rfl rfl (fun x w1 hF => ?_)
            exact run_neq_self w1 _ _ m rfl rfl rfl
          refine And.intro ?_ ?_
          · refine Reg.ob_pure (fun _ => rfl) rfl rfl rfl rfl (fun x w1 hF => ?_)
            obtain ⟨-, -, hq6, -⟩ := hF
            go_simp
            with_reducible rfl
          refine And.intro ?_ ?_
          · refine Reg.ob_pure (fun _ => rfl) rfl rfl rfl rfl (fun x w1 hF => ?_)
            obtain ⟨-, -, hq6, -⟩ := hF
            go_simp
            with_reducible rfl
          refine And.intro ?_ ?_
          · refine Reg.ob_pure (fun _ => rfl) rfl rfl rfl rfl (fun x w1 hF => ?_)
            obtain ⟨-, -, hq6, -⟩ := hF
            go_simp
            with_reducible rfl
          refine And.intro ?_ ?_
          · refine Reg.ob_pure (fun _ => rfl) rfl rfl rfl rfl (fun x w1 hF => ?_)
            obtain ⟨-, -, hq6, -⟩ := hF
            go_simp
            with_reducible rfl
          refine And.intro ?_ ?_
          · refine Reg.ob_pure (fun _ => rfl) rfl rfl rfl rfl (fun x w1 hF => ?_)
            obtain ⟨-, -, hq6, -⟩ := hF
            go_simp
            with_reducible rfl
          refine And.intro ?_ ?_
          · refine Reg.ob_pure (fun _ => rfl) rfl rfl rfl rfl (fun x w1 hF => ?_)
            obtain ⟨-, -, hq6, -⟩ := hF
            go_simp
            with_reducible rfl
          exact trivial
        case hFn =>
          exact ⟨I10.out, M10.out, HQ6.out, Only.refl _ _⟩
        case hinin =>
          exact trivial
        case presn =>
          intro i hi j hj
          cases hj
        case finn =>
          rintro x w11 hF -
          have O11 := Lib.hid (hF rfl).2.2.2
          clear hF
          have Q10' := Lib.hid (Q10.out.only O11.out (by simp))
          have K10' := Lib.hid (K10.out.only O11.out (by simp))
          have OW10' := Lib.hid (OW10.out.only O11.out)
          have T10' := Lib.hid (only_more T10.out O11.out)
          clear Q10 K10 OW10 T10 M10 I10
          have q6 := Q10'.out.cell 6
          have q7 := Q10'.out.cell 7
          have q8 := Q10'.out.cell 8
          have g6 := Q10'.out.free 6
          have g7 := Q10'.out.free 7
          have g8 := Q10'.out.free 8
          rw [HQ1.out] at q6 q7 q8
          simp [Pk.cls] at q6 q7 q8
          have k6 := K10'.out.cell 6
          have k7 := K10'.out.cell 7
          have k8 := K10'.out.cell 8
          rw [← HPA.out] at k6 k7 k8
          simp [Pk.cls] at k6 k7 k8
          have hne : pb ≠ qb := by have := HQW.out; omega
          have hne2 : qb ≠ pb := by omega
          go_upto_region 24 with (fail)
          generalize hT : World.setCell _ _ _ = T
          have Q11 := Lib.hid (show Is T qb 33 (p.cls vc7 (.slice Ae p.ext.length ce) vp7) from by
            rw [← hT]
            have h := ((Q10'.out.put 6 (.bool p.hasExt)).put 7 (.int .u16 (p.profile : Nat))).put 8 (.slice Ae p.ext.length ce)
            rw [HQ1.out] at h
            exact h)
          have Z11 := Lib.hid (show Only (fun k => k = qb) w11 T from by
            rw [← hT]
            exact (((Only.refl (fun k => k = qb) w11).set (p := ⟨qb, 6, none⟩) (fun _ => rfl) _).set (p := ⟨qb, 7, none⟩) (fun _ => rfl) _).set (p := ⟨qb, 8, none⟩) (fun _ => rfl) _)
          have T11 := Lib.hid (T10'.out.trans Z11.out (fun i hi e => by have := HQW.out; omega))
          have K11 := Lib.hid (K10'.out.only Z11.out hne)
          have OW11 := Lib.hid (OW10'.out.far Q10'.out Z11.out)
          have HSM := Lib.hid (HSAME.out vc7 vp7 T T11.out (rd_own32 (by have h := OW11.out.1; rw [HQ1.out] at h; exact h)) (Src.of_own (by have h := OW11.out.2.2; rw [HQ1.out] at h; exact h)))
          rw [show p.val (.slice Ac p.csrc.length cc) (.slice Ae p.ext.length ce) (.slice Ap p.pay.length cp) = .agg pa from by rw [← HPA.out]; rfl, show p.val vc7 (.slice Ae p.ext.length ce) vp7 = .agg (p.cls vc7 (.slice Ae p.ext.length ce) vp7) from rfl] at HSM
          clear hT q6 q7 q8 g6 g7 g8 k6 k7 k8 hne hne2
          go_wp2_with (first
            | (refine wpList_load_want (o := ⟨some 129, _, _, _, _, _⟩) rfl _ _ rfl pb rfl _ _ _ K11.out Try.underlying33 rfl SZP.out ?_)
            | (refine wpList_load_want (o := ⟨some 130, _, _, _, _, _⟩) rfl _ _ rfl qb rfl _ _ _ Q11.out Try.underlying33 rfl Try.sizePq ?_)
            | (go_at_call 51; refine HSM.out.mono ?_; rintro e w12 ⟨rfl, ho12⟩; have O12 := Lib.hid ho12; clear ho12)
            | (go_at_call 43; refine (HWK.out _).mono ?_; rintro e w13 ⟨rfl, ho13⟩; have O13 := Lib.hid ho13; clear ho13))
          go_ret
          exact ⟨rfl, only_more T11.out (only_more O12.out O13.out)⟩
          
      · have ez : ((k : Int) != 0) = true := by simp; omega
        obtain ⟨hk40, hwhy⟩ := HKB.out h0
        have hqp := HQP.out h0
        have e40 : ((k : Int) == 40) = true := by simp; omega
        have HSM := Lib.hid (fun w' (ho : Only (fun _ => False) w8 w') => show Calls Try.prog 51 #[.agg pa, .agg (q.cls vc7 ve7 vp7)] w' (fun e w'' => e = .returned (.bool true) ∧ Pure w' w'') from by
          have hO := OW8.out.only ho
          rw [hqp] at hO
          have h := HSAME2.out vc7 ve7 vp7 w' (only_more T8.out ho) (rd_own32 hO.1) (Src.of_own hO.2.1) (Src.of_own hO.2.2)
          rw [show p.val (.slice Ac p.csrc.length cc) (.slice Ae p.ext.length ce) (.slice Ap p.pay.length cp) = .agg pa from by rw [← HPA.out]; rfl] at h
          rw [hqp]
          exact h)
        clear hqp HQP HKB h0 HSAME HSAME2 HWI HOF HQ0 HQB hk40
        by_cases hi : ix = 0
        · have ei : ((ix : Int) == 0) = true := by simp [hi]
          clear hi hwhy
          go_upto_region 17 with (fail)
          refine wp_region_text [[], [0], [1, 0], [2, 1, 0], [3, 2, 1, 0], [4, 2, 3, 1, 0], [5, 4, 2, 3, 1, 0], [6, 5, 4, 2, 3, 1, 0], [7, 5, 6, 4, 2, 3, 1, 0], [5, 8, 2, 4, 3, 1, 0, 7, 6], [2, 9, 1, 0, 5, 8, 4, 3, 7, 6], [10, 7, 2, 9, 1, 0, 5, 8, 4, 3, 6], [11, 10, 7, 2, 9, 1, 0, 5, 8, 4, 3, 6], [11, 10, 7, 2, 9, 1, 0, 5, 8, 4, 3, 6], [12, 13, 11, 10, 7, 2, 9, 1, 0, 5, 8, 4, 3, 6], [11, 14, 10, 7, 2, 9, 1, 0, 5, 8, 4, 3, 6, 12, 13], [15, 14, 11, 10, 7, 2, 9, 1, 0, 5, 8, 4, 3, 6, 12, 13], [16, 15, 14, 11, 10, 7, 2, 9, 1, 0, 5, 8, 4, 3, 6, 12, 13], [16, 17, 15, 14, 11, 10, 7, 2, 9, 1, 0, 5, 8, 4, 3, 6, 12, 13], [18, 17, 0, 1, 2, 3, 4, 5, 6, 7, 8, 9, 10, 11, 12, 13, 14, 15, 16]] [14, 17] [] [[], [], [], [], [], [], [], [], [], [], [], [], [], [], [], [], [], [], [], []] [[], [], [], [], [], [], [], [], [], [], [], [], [], [], [], [], [], [], [], []] [] [] [] []
              [some ?va0, some ?va1, some ?va2, some ?va3, some ?va4, some ?va5, some undef, some undef, some undef, some ?va9, some ?va10, some ?va11, some (.agg pa), some (.agg (q.cls vc7 ve7 vp7)), some (.bool true), some ?va15, some ?va16, some (.bool true), some ?va18, some ?va19]
              ?Ta (fun wx => Is wx mb 69 m.cells ∧ Is wx pb 33 pa ∧ Is wx qb 33 (q.cls vc7 ve7 vp7) ∧ Only (fun _ => False) w8 wx) ?Wa ?Ea (by kernel_rfl) (by kernel_rfl) (by kernel_rfl) (fun x => ?hTa) ?hFa ?hinia (Reg.all_ops ?runsa) ?presa ?fina
          case Wa => exact fun j x w' => True
          case Ea => exact fun _ w' w'' => True
          case hTa =>
            simp only [Reg.fillV, Act.put, List.setIfInBounds_toArray, List.set_cons_zero, List.set_cons_succ]
            rfl
          case runsa =>
            refine And.intro ?_ ?_
            · refine Reg.ob_pure (fun _ => rfl) rfl rfl rfl rfl (fun x w1 hF => ?_)
              go_simp
              with_reducible rfl
            refine And.intro ?_ ?_
            · refine Reg.ob_pure (fun _ => rfl) rfl rfl rfl rfl (fun x w1 hF => ?_)
              go_simp
              with_reducible rfl
            refine And.intro ?_ ?_
            · refine Reg.ob_pure (fun _ => rfl) rfl rfl rfl rfl (fun x w1 hF => ?_)
              go_simp
              with_reducible rfl
            refine And.intro ?_ ?_
            · refine Reg.ob_pure (fun _ => rfl) rfl rfl rfl rfl (fun x w1 hF => ?_)
              go_simp
              with_reducible rfl
            refine And.intro ?_ ?_
            · refine Reg.ob_pure (fun _ => rfl) rfl rfl rfl rfl (fun x w1 hF => ?_)
              go_simp
              with_reducible rfl
            refine And.intro ?_ ?_
            · refine Reg.ob_pure (fun _ => rfl) rfl rfl rfl rfl (fun x w1 hF => ?_)
              go_simp
              with_reducible rfl
            refine And.intro ?_ ?_
            · exact Reg.ob_skip (fun _ => rfl) rfl rfl rfl
            refine And.intro ?_ ?_
            · exact Reg.ob_skip (fun _ => rfl) rfl rfl rfl
            refine And.intro ?_ ?_
            · exact Reg.ob_skip (fun _ => rfl) rfl rfl rfl
            refine And.intro ?_ ?_
            · refine Reg.ob_pure (fun _ => rfl) rfl rfl rfl rfl (fun x w1 hF => ?_)
              go_simp
              with_reducible rfl
            refine And.intro ?_ ?_
            · refine Reg.ob_pure (fun _ => rfl) rfl rfl rfl rfl (fun x w1 hF => ?_)
              go_simp
              with_reducible rfl
            refine And.intro ?_ ?_
            · refine Reg.ob_pure (fun _ => rfl) rfl rfl rfl rfl (fun x w1 hF => ?_)
              go_simp
              with_reducible rfl
            refine And.intro ?_ ?_
            · refine Reg.ob_pure (fun _ => rfl) rfl rfl rfl rfl (fun x w1 hF => ?_)
              exact run_load_at 33 _ (by rfl) pb (by rfl) 33 _ _ hF.2.1 Try.underlying33 rfl SZP.out
            refine And.intro ?_ ?_
            · refine Reg.ob_pure (fun _ => rfl) rfl rfl rfl rfl (fun x w1 hF => ?_)
              exact run_load_at 33 _ (by rfl) qb (by rfl) 33 _ _ hF.2.2.1 Try.underlying33 rfl Try.sizePq
            refine And.intro ?_ ?_
            · refine Reg.ob_known (fun _ => rfl) rfl rfl (fun x w1 hF hU K hK => ?_)
              replace hF := hF rfl
              go_simp
              refine (HSM.out _ hF.2.2.2).mono ?_
              rintro e w3 ⟨rfl, ho⟩
              exact hK w3 (fun _ _ _ => ⟨hF.1.only ho (by simp), hF.2.1.only ho (by simp), hF.2.2.1.only ho (by simp), only_more hF.2.2.2 ho⟩) trivial
            refine And.intro ?_ ?_
            · refine Reg.ob_pure (fun _ => rfl) rfl rfl rfl rfl (fun x w1 hF => ?_)
              go_simp
              with_reducible rfl
            refine And.intro ?_ ?_
            · refine Reg.ob_pure (fun _ => rfl) rfl rfl rfl rfl (fun x w1 hF => ?_)
              go_simp
              with_reducible rfl
            refine And.intro ?_ ?_
            · refine Reg.ob_known (fun _ => rfl) rfl rfl (fun x w1 hF hU K hK => ?_)
              replace hF := hF rfl
              go_simp
              refine (HWK.out _).mono ?_
              rintro e w3 ⟨rfl, ho⟩
              exact hK w3 (fun _ _ _ => ⟨hF.1.only ho (by simp), hF.2.1.only ho (by simp), hF.2.2.1.only ho (by simp), only_more hF.2.2.2 ho⟩) trivial
            refine And.intro ?_ ?_
            · refine Reg.ob_pure (fun _ => rfl) rfl rfl rfl rfl (fun x w1 hF => ?_)
              go_simp
              with_reducible rfl
            refine And.intro ?_ ?_
            · refine Reg.ob_pure (fun _ => rfl) rfl rfl rfl rfl (fun x w1 hF => ?_)
              go_simp
              with_reducible rfl
            exact trivial
          case hFa =>
            exact ⟨M8.out, K8.out, I8.out, Only.refl _ _⟩
          case hinia =>
            exact trivial
          case presa =>
            intro i hi j hj hc x w1 w2 hF hE hW
            trivial
          case fina =>
            rintro x w9 hF -
            have O9 := Lib.hid (hF rfl).2.2.2
            clear hF
            go_wp2
            go_ret
            exact ⟨rfl, only_more T8.out O9.out⟩
        · have ei : ((ix : Int) == 0) = false := by simp; omega
          obtain rfl : rt = false := hwhy.resolve_left hi
          clear hi hwhy
          go_upto_region 17 with (fail)
          refine wp_region_text [[], [0], [1, 0], [2, 1, 0], [3, 2, 1, 0], [4, 2, 3, 1, 0], [5, 4, 2, 3, 1, 0], [6, 5, 4, 2, 3, 1, 0], [7, 5, 6, 4, 2, 3, 1, 0], [5, 8, 2, 4, 3, 1, 0, 7, 6], [2, 9, 1, 0, 5, 8, 4, 3, 7, 6], [10, 7, 2, 9, 1, 0, 5, 8, 4, 3, 6], [11, 10, 7, 2, 9, 1, 0, 5, 8, 4, 3, 6], [11, 10, 7, 2, 9, 1, 0, 5, 8, 4, 3, 6], [12, 13, 11, 10, 7, 2, 9, 1, 0, 5, 8, 4, 3, 6], [11, 14, 10, 7, 2, 9, 1, 0, 5, 8, 4, 3, 6, 12, 13], [15, 14, 11, 10, 7, 2, 9, 1, 0, 5, 8, 4, 3, 6, 12, 13], [16, 15, 14, 11, 10, 7, 2, 9, 1, 0, 5, 8, 4, 3, 6, 12, 13], [16, 17, 15, 14, 11, 10, 7, 2, 9, 1, 0, 5, 8, 4, 3, 6, 12, 13], [18, 17, 0, 1, 2, 3, 4, 5, 6, 7, 8, 9, 10, 11, 12, 13, 14, 15, 16]] [7, 14, 17] [] [[], [], [], [], [], [], [], [], [], [], [], [], [], [], [], [], [], [], [], []] [[], [], [], [], [], [], [], [], [], [], [], [], [], [], [], [], [], [], [], []] [] [] [] []
              [some ?vb0, some ?vb1, some ?vb2, some ?vb3, some ?vb4, some ?vb5, some (.agg m.cells), some (.bool false), some ?vb8, some ?vb9, some ?vb10, some ?vb11, some (.agg pa), some (.agg (q.cls vc7 ve7 vp7)), some (.bool true), some ?vb15, some ?vb16, some (.bool true), some ?vb18, some ?vb19]
              ?Tb (fun wx => Is wx mb 69 m.cells ∧ Is wx pb 33 pa ∧ Is wx qb 33 (q.cls vc7 ve7 vp7) ∧ Only (fun _ => False) w8 wx) ?Wb ?Eb (by kernel_rfl) (by kernel_rfl) (by kernel_rfl) (fun x => ?hTb) ?hFb ?hinib (Reg.all_ops ?runsb) ?presb ?finb
          case Wb => exact fun j x w' => True
          case Eb => exact fun _ w' w'' => True
          case hTb =>
            simp only [Reg.fillV, Act.put, List.setIfInBounds_toArray, List.set_cons_zero, List.set_cons_succ]
            rfl
          case runsb =>
            refine And.intro ?_ ?_
            · refine Reg.ob_pure (fun _ => rfl) rfl rfl rfl rfl (fun x w1 hF => ?_)
              go_simp
              with_reducible rfl
            refine And.intro ?_ ?_
            · refine Reg.ob_pure (fun _ => rfl) rfl rfl rfl rfl (fun x w1 hF => ?_)
              go_simp
              with_reducible rfl
            refine And.intro ?_ ?_
            · refine Reg.ob_pure (fun _ => rfl) rfl rfl rfl rfl (fun x w1 hF => ?_)
              go_simp
              with_reducible rfl
            refine And.intro ?_ ?_
            · refine Reg.ob_pure (fun _ => rfl) rfl rfl rfl rfl (fun x w1 hF => ?_)
              go_simp
              with_reducible rfl
            refine And.intro ?_ ?_
            · refine Reg.ob_pure (fun _ => rfl) rfl rfl rfl rfl (fun x w1 hF => ?_)
              go_simp
              with_reducible rfl
            refine And.intro ?_ ?_
            · refine Reg.ob_pure (fun _ => rfl) rfl rfl rfl rfl (fun x w1 hF => ?_)
              go_simp
              with_reducible rfl
            refine And.intro ?_ ?_
            · refine Reg.ob_pure (fun _ => rfl) rfl rfl rfl rfl (fun x w1 hF => ?_)
              exact run_load_at 69 _ (by rfl) mb (by rfl) 69 _ _ hF.1 Try.underlying69 rfl Try.sizeMk
            refine And.intro ?_ ?_
            · refine Reg.ob_known (fun _ => rfl) rfl rfl (fun x w1 hF hU K hK => ?_)
              replace hF := hF rfl
              go_simp
              refine (HRM.out _).mono ?_
              rintro e w3 ⟨rfl, ho⟩
              exact hK w3 (fun _ _ _ => ⟨hF.1.only ho (by simp), hF.2.1.only ho (by simp), hF.2.2.1.only ho (by simp), only_more hF.2.2.2 ho⟩) trivial
            refine And.intro ?_ ?_
            · refine Reg.ob_pure (fun _ => rfl) rfl rfl rfl rfl (fun x w1 hF => ?_)
              go_simp
              with_reducible rfl
            refine And.intro ?_ ?_
            · refine Reg.ob_pure (fun _ => rfl) rfl rfl rfl rfl (fun x w1 hF => ?_)
              go_simp
              with_reducible rfl
            refine And.intro ?_ ?_
            · refine Reg.ob_pure (fun _ => rfl) rfl rfl rfl rfl (fun x w1 hF => ?_)
              go_simp
              with_reducible rfl
            refine And.intro ?_ ?_
            · refine Reg.ob_pure (fun _ => rfl) rfl rfl rfl rfl (fun x w1 hF => ?_)
              go_simp
              with_reducible rfl
            refine And.intro ?_ ?_
            · refine Reg.ob_pure (fun _ => rfl) rfl rfl rfl rfl (fun x w1 hF => ?_)
              exact run_load_at 33 _ (by rfl) pb (by rfl) 33 _ _ hF.2.1 Try.underlying33 rfl SZP.out
            refine And.intro ?_ ?_
            · refine Reg.ob_pure (fun _ => rfl) rfl rfl rfl rfl (fun x w1 hF => ?_)
              exact run_load_at 33 _ (by rfl) qb (by rfl) 33 _ _ hF.2.2.1 Try.underlying33 rfl Try.sizePq
            refine And.intro ?_ ?_
            · refine Reg.ob_known (fun _ => rfl) rfl rfl (fun x w1 hF hU K hK => ?_)
              replace hF := hF rfl
              go_simp
              refine (HSM.out _ hF.2.2.2).mono ?_
              rintro e w3 ⟨rfl, ho⟩
              exact hK w3 (fun _ _ _ => ⟨hF.1.only ho (by simp), hF.2.1.only ho (by simp), hF.2.2.1.only ho (by simp), only_more hF.2.2.2 ho⟩) trivial
            refine And.intro ?_ ?_
            · refine Reg.ob_pure (fun _ => rfl) rfl rfl rfl rfl (fun x w1 hF => ?_)
              go_simp
              with_reducible rfl
            refine And.intro ?_ ?_
            · refine Reg.ob_pure (fun _ => rfl) rfl rfl rfl rfl (fun x w1 hF => ?_)
              go_simp
              with_reducible rfl
            refine And.intro ?_ ?_
            · refine Reg.ob_known (fun _ => rfl) rfl rfl (fun x w1 hF hU K hK => ?_)
              replace hF := hF rfl
              go_simp
              refine (HWK.out _).mono ?_
              rintro e w3 ⟨rfl, ho⟩
              exact hK w3 (fun _ _ _ => ⟨hF.1.only ho (by simp), hF.2.1.only ho (by simp), hF.2.2.1.only ho (by simp), only_more hF.2.2.2 ho⟩) trivial
            refine And.intro ?_ ?_
            · refine Reg.ob_pure (fun _ => rfl) rfl rfl rfl rfl (fun x w1 hF => ?_)
              go_simp
              with_reducible rfl
            refine And.intro ?_ ?_
            · refine Reg.ob_pure (fun _ => rfl) rfl rfl rfl rfl (fun x w1 hF => ?_)
              go_simp
              with_reducible rfl
            exact trivial
          case hFb =>
            exact ⟨M8.out, K8.out, I8.out, Only.refl _ _⟩
          case hinib =>
            exact trivial
          case presb =>
            intro i hi j hj hc x w1 w2 hF hE hW
            trivial
          case finb =>
            rintro x w9 hF -
            have O9 := Lib.hid (hF rfl).2.2.2
            clear hF
            go_wp2
            go_ret
            exact ⟨rfl, only_more T8.out O9.out⟩
theorem mback_args {W : World} {m : Mk} {vb : Value} {bs : List Nat} {p : Pk} {vc ve vp : Value} {ix : Nat} (hm : m.Fit) (hs : Src W vb bs) (hb : ∀ x ∈ bs, x < 256) (hf : p.Fit) (hix : ix < 256)
    (hc : Rd .u32 W vc (nats p.csrc)) (hn0 : vc = .slice none 0 0 ∨ ∃ ad n c, vc = .slice (some ad) n c) (he : Src W ve p.ext) (hp : Src W vp p.pay) :
    Calls Try.prog 11 #[.agg m.cells, vb, .agg (p.cls vc ve vp), .int .u8 ix] W fun e w' => e = .returned (.bool true) ∧ Below W.heap.size W w' := by
  refine (mback_any m vb bs p vc ve vp ix W hm hs hb hf hix hc hn0 he hp).mono ?_
  rintro e w' ⟨rfl, ho⟩
  exact ⟨rfl, Only.below ho (fun i hi => hi.elim) (Nat.le_refl _)⟩
end Go.Proofs.Ytcgfmjdlningpaa
