/- RtpBack's walk. Conditions: as it says. -/
import Derived.Test.YtfnbndbchndlhaaRtpO
import Derived.Test.YtfnbndbchndlhaaRtpQ
import Derived.Test.YtfnbndbchndlhaaStep
set_option linter.unusedVariables false
namespace Go.Proofs.Ytfnbndbchndlhaa
open Go.RowKit

theorem enc_size (p : Pk) : p.enc.length = p.size := by
  unfold Pk.enc Pk.size Pk.tail
  cases p.hasExt <;> simp only [List.length_append, flat4, padOf_length, Pk.head, b2, b4, List.length_cons, List.length_nil, if_true, Bool.false_eq_true, if_false] <;> omega

theorem enc_lt (p : Pk) (hf : p.Fit) (hr : p.right = true) : ∀ x ∈ p.enc, x < 256 := by
  have hrr : p.ty ≤ 127 ∧ p.csrc.length ≤ 15 ∧ p.ext.length % 4 = 0 ∧ p.ext.length ≤ 262140 ∧ (p.hasExt = true ∨ (p.profile = 0 ∧ p.ext.length = 0)) := by simpa [Pk.right] using hr
  obtain ⟨hty, hcl, hem, hel, hxe⟩ := hrr
  have h2 : ∀ n, ∀ x ∈ b2 n, x < 256 := fun n x hx => by simp only [b2, List.mem_cons, List.mem_nil_iff, or_false] at hx; rcases hx with rfl | rfl <;> omega
  have h4 : ∀ n, ∀ x ∈ b4 n, x < 256 := fun n x hx => by simp only [b4, List.mem_cons, List.mem_nil_iff, or_false] at hx; rcases hx with rfl | rfl | rfl | rfl <;> omega
  intro x hx
  unfold Pk.enc Pk.head at hx
  simp only [List.mem_append, List.mem_cons, List.mem_nil_iff, or_false] at hx
  rcases hx with ((((((h | h) | h) | h) | h) | h) | h) | h
  · rcases h with rfl | rfl
    · exact (first_many p hcl).2.2.2.2
    · unfold Pk.second; split <;> omega
  · exact h2 _ _ h
  · exact h4 _ _ h
  · exact h4 _ _ h
  · obtain ⟨y, _, hy⟩ := List.mem_flatMap.1 h
    exact h4 _ _ hy
  · unfold Pk.tail at h
    split at h
    · simp only [List.mem_append] at h
      rcases h with (h | h) | h
      · exact h2 _ _ h
      · exact h2 _ _ h
      · exact hf.ext _ h
    · cases h
  · exact hf.pay _ h
  · unfold padOf at h
    have := hf.pad
    split at h
    · cases h
    · simp only [List.mem_append, List.mem_replicate, List.mem_cons, List.mem_nil_iff, or_false] at h
      omega
theorem rd_of_own {w : World} {B : Nat} {v : Value} {xs : List Nat} (h : w.ownsRow B 26 1 v xs.length (cells32 xs)) : Rd .u32 w v (nats xs) := by
  rcases h.2 with ⟨rfl, h0⟩ | ⟨g, cap, cur, rfl, hb, hg, hc, _⟩
  · have : xs = [] := List.eq_nil_of_length_eq_zero h0
    subst this
    exact Rd.nil _ _
  · refine ⟨_, cap, by rw [nats_length], by rw [nats_length]; exact hc, fun _ => ⟨g, 0, rfl, fun j hj => ?_⟩⟩
    rw [nats_length] at hj
    have := h.cells (g := g) rfl j (.int .u32 (xs[j] : Int)) (by simp [cells32, hj])
    rw [add_plain] at this
    rw [this]
    simp [nats]

theorem enc_at (bs E : List Nat) (pd k : Nat) (hE : E = bs.take (bs.length - pd) ++ padOf pd) (hpl : pd ≤ bs.length) (hlast : 0 < pd → lastOf bs = pd) (hk : k < bs.length) (hkE : k < E.length) :
    (bs.length - pd ≤ k → k + 1 < bs.length → E[k] = 0) ∧ (¬ (bs.length - pd ≤ k ∧ k + 1 < bs.length) → E[k] = bs[k]) := by
  subst hE
  have hl : (bs.take (bs.length - pd)).length = bs.length - pd := by rw [List.length_take]; omega
  by_cases h : k < bs.length - pd
  · refine ⟨fun h' => by omega, fun _ => ?_⟩
    rw [List.getElem_append_left (by omega)]
    simp
  · have hp : 0 < pd := by omega
    have hpad : padOf pd = List.replicate (pd - 1) 0 ++ [pd] := by unfold padOf; rw [if_neg (by omega)]
    have e : ∀ (j : Nat) (hj : j < (padOf pd).length), (padOf pd)[j] = if j < pd - 1 then 0 else pd := by
      intro j hj
      simp only [hpad]
      by_cases hj1 : j < pd - 1
      · rw [List.getElem_append_left (by simpa using hj1)]; simp [hj1]
      · rw [List.getElem_append_right (by simp; omega)]; simp [hj1]
    rw [List.getElem_append_right (by omega), e]
    constructor
    · intro _ h2
      rw [if_pos (by omega)]
    · intro h2
      rw [if_neg (by omega)]
      have hk1 : k = bs.length - 1 := by omega
      have hg := lastOf_get bs (by omega)
      subst hk1
      rw [List.getElem?_eq_getElem (by omega)] at hg
      injection hg with hg
      rw [hg, hlast hp]

theorem err_len (bs : List Nat) (he : parseErr bs = 0) : 12 ≤ bs.length := by
  apply Classical.byContradiction
  intro h
  unfold parseErr at he
  rw [if_pos (by omega)] at he
  cases he

/-- What Put answers. -/
def DidPut (p : Pk) (w : World) (e : Ending) (w' : World) : Prop :=
  ∃ A n c k, e = .returned (.tuple #[.slice A n c, .int .i64 k]) ∧ (k == 0) = p.right ∧ Pure w w' ∧ (p.right = true → n = p.enc.length ∧ w'.ownsRow w.heap.size 5 1 (.slice A n c) p.enc.length (cellsOf p.enc))
theorem put_any (p : Pk) (vc ve vp : Value) (w : World) (hf : p.Fit) (hc : Rd .u32 w vc (nats p.csrc)) (he : Src w ve p.ext) (hp : Src w vp p.pay) (hcl : p.csrc.length ≤ 140737488355328) (hel : p.ext.length ≤ 140737488355328) (hpl : p.pay.length ≤ 100000) :
    Calls Try.prog 16 #[p.val vc ve vp] w (DidPut p w) := by
  cases hr : p.right
  · refine (put_wrong p vc ve vp w hr hc he hp hcl hel).mono ?_
    rintro e w' ⟨rfl, ho⟩
    exact ⟨none, 0, 0, 2, rfl, hr.symm, ho, fun h => by rw [hr] at h; cases h⟩
  · refine (put_right p vc ve vp w hf hr hc he hp hpl).mono ?_
    rintro e w' ⟨v, rfl, hv, ho⟩
    obtain ⟨A, c, rfl, _⟩ := own_slice hv
    exact ⟨A, _, c, 0, rfl, hr.symm, ho, fun _ => ⟨rfl, hv⟩⟩

set_option maxRecDepth 100000 in
set_option maxHeartbeats 4000000 in
theorem back_any (p : Pk) (vc ve vp vb : Value) (bs : List Nat) (w : World) (hf : p.Fit) (hc : Rd .u32 w vc (nats p.csrc)) (he : Src w ve p.ext) (hp : Src w vp p.pay) (hs : Src w vb bs) (hb : ∀ x ∈ bs, x < 256) (hbl : bs.length ≤ 9223372036854775807) :
    Calls Try.prog 4 #[p.val vc ve vp, vb] w fun e w' => e = .returned (.bool true) ∧ Pure w w' := by
  obtain ⟨Ac, cc, rfl⟩ := hc.slice
  obtain ⟨Ae, ce, rfl⟩ := he.slice
  obtain ⟨Ap, cp, rfl⟩ := hp.slice
  obtain ⟨Ab, cb, rfl⟩ := hs.slice
  rw [nats_length] at hc ⊢
  have HC := Lib.hid hc
  have HE := Lib.hid he
  have HP := Lib.hid hp
  have HS := Lib.hid hs
  have HB := Lib.hid hb
  have HF := Lib.hid hf
  clear hc he hp hs hb hf
  have HFEW := Lib.hid (fun w' => few_is p Ac Ae Ap cc ce cp w')
  cases hfew : p.few
  · rw [hfew] at HFEW
    simp only [Pk.val]
    go_enter Try.func4, Try.ntmps4
    go_upto_region 1 with (fail)
    generalize hw0 : World.alloc _ _ = w0
    have HI := Lib.hid (show Is w0 w.heap.size 33 (p.cells (.slice Ac p.csrc.length cc) (.slice Ae p.ext.length ce) (.slice Ap p.pay.length cp)) from by rw [← hw0]; exact Is.made _ _ _)
    have P0 := Lib.hid (show Pure w w0 from by rw [← hw0]; exact (Only.refl _ w).alloc _)
    clear hw0 hfew
    go_wp2_with (first | (refine wpList_load_row (o := ⟨some 16, _, _, _, _, _⟩) rfl _ _ rfl w.heap.size rfl _ _ _ _ HI.out Try.underlying33 rfl Try.sizePacket ?_) | (go_at_call 15; refine (HFEW.out _).mono ?_; rintro e w1 ⟨rfl, ho1⟩; have O1 := Lib.hid ho1; clear ho1) | (go_at_call 5; refine (works_any _).mono ?_; rintro e w2 ⟨rfl, ho2⟩; have O2 := Lib.hid ho2; clear ho2))
    go_ret
    exact ⟨rfl, P0.out.trans' (Pure.trans' O1.out O2.out)⟩
  · rw [hfew] at HFEW
    by_cases hl : 2000 < bs.length
    · simp only [Pk.val]
      go_enter Try.func4, Try.ntmps4
      go_upto_region 1 with (fail)
      generalize hw0 : World.alloc _ _ = w0
      have HI := Lib.hid (show Is w0 w.heap.size 33 (p.cells (.slice Ac p.csrc.length cc) (.slice Ae p.ext.length ce) (.slice Ap p.pay.length cp)) from by rw [← hw0]; exact Is.made _ _ _)
      have P0 := Lib.hid (show Pure w w0 from by rw [← hw0]; exact (Only.refl _ w).alloc _)
      clear hw0 hfew
      go_wp2_with (first | (refine wpList_load_row (o := ⟨some 16, _, _, _, _, _⟩) rfl _ _ rfl w.heap.size rfl _ _ _ _ HI.out Try.underlying33 rfl Try.sizePacket ?_) | (go_at_call 15; refine (HFEW.out _).mono ?_; rintro e w1 ⟨rfl, ho1⟩; have O1 := Lib.hid ho1; clear ho1) | (go_at_call 5; refine (works_any _).mono ?_; rintro e w2 ⟨rfl, ho2⟩; have O2 := Lib.hid ho2; clear ho2))
      go_ret
      exact ⟨rfl, P0.out.trans' (Pure.trans' O1.out O2.out)⟩
    · have hl' : bs.length ≤ 2000 := by omega
      obtain ⟨hcl, hel, hpl⟩ : p.csrc.length ≤ 20 ∧ p.ext.length ≤ 400 ∧ p.pay.length ≤ 400 := by simpa [Pk.few] using hfew
      have zl : decide ((2000 : Int) < (bs.length : Int)) = false := decide_eq_false (by omega)
      clear hl hbl hfew
      have HPUT := Lib.hid (fun w' (ho : Pure w w') => put_any p _ _ _ w' HF.out (HC.out.pure ho) (HE.out.pure ho) (HP.out.pure ho) (by omega) (by omega) (by omega))
      have HRIGHT := Lib.hid (fun w' => right_is p Ac Ae Ap cc ce cp w' (by omega) (by omega))
      have HSIZE := Lib.hid (fun w' => size_is p Ac Ae Ap cc ce cp w' (by omega) (by omega) (by omega) HF.out.pad)
      simp only [Pk.val]
      go_enter Try.func4, Try.ntmps4
      go_upto_region 1 with (fail)
      generalize hw0 : World.alloc _ _ = w0
      have HI := Lib.hid (show Is w0 w.heap.size 33 (p.cells (.slice Ac p.csrc.length cc) (.slice Ae p.ext.length ce) (.slice Ap p.pay.length cp)) from by rw [← hw0]; exact Is.made _ _ _)
      have P0 := Lib.hid (show Pure w w0 from by rw [← hw0]; exact (Only.refl _ w).alloc _)
      clear hw0
      go_upto_if 36 with (first | (refine wpList_load_row (o := ⟨some 16, _, _, _, _, _⟩) rfl _ _ rfl w.heap.size rfl _ _ _ _ HI.out Try.underlying33 rfl Try.sizePacket ?_) | (go_at_call 15; refine (HFEW.out _).mono ?_; rintro e w1 ⟨rfl, ho1⟩; have O1 := Lib.hid ho1; clear ho1) | (refine wpList_load_row (o := ⟨some 26, _, _, _, _, _⟩) rfl _ _ rfl w.heap.size rfl _ _ _ _ (HI.out.only O1.out (by simp)) Try.underlying33 rfl Try.sizePacket ?_) | (go_at_call 16; refine (HPUT.out _ (P0.out.trans' O1.out)).mono ?_; rintro e w2 ⟨A, n, c, k, rfl, hk, ho2, hown⟩; have O2 := Lib.hid ho2; have OWN := Lib.hid hown; clear ho2 hown) | (refine wpList_load_row (o := ⟨some 32, _, _, _, _, _⟩) rfl _ _ rfl w.heap.size rfl _ _ _ _ (HI.out.only (O1.out.trans' O2.out) (by simp)) Try.underlying33 rfl Try.sizePacket ?_) | (go_at_call 17; refine (HRIGHT.out _).mono ?_; rintro e w3 ⟨rfl, ho3⟩; have O3 := Lib.hid ho3; clear ho3))
      go_cut [] (fun wx => Pure w3 wx)
      case first =>
        have HI3 := Lib.hid (HI.out.only (O1.out.trans' (Pure.trans' O2.out O3.out)) (by simp))
        have P3 := Lib.hid (P0.out.trans' (Pure.trans' O1.out (Pure.trans' O2.out O3.out)))
        cases hr : p.right
        · rw [hr] at hk
          go_wp2_with fail
          go_meet
          exact Only.refl _ _
        · rw [hr] at hk
          obtain ⟨rfl, hown⟩ := OWN.out hr
          have HPE := Lib.hid (parse_any (.slice A p.enc.length c) p.enc w3 ((Src.of_own hown).pure O3.out) (enc_lt p HF.out hr) (by rw [enc_size]; unfold Pk.size; have := HF.out.pad; split <;> omega))
          obtain ⟨he0, hpe⟩ := parse_enc p HF.out hr
          have hne : ((p.enc.length : Int) != (p.size : Int)) = false := by rw [enc_size]; simp
          have HGOT := Lib.hid (show ∀ e w', GotPk w3 p.enc e w' → ∃ vc ve vp, e = .returned (.tuple #[p.val vc ve vp, .int .i64 0]) ∧ Pure w3 w' ∧ Rd .u32 w' vc (nats p.csrc) ∧ Src w' ve p.ext ∧ Src w' vp p.pay from by
            rintro e w' ⟨ho, ⟨h, _⟩ | ⟨_, vc, ve, vp, rfl, h1, h2, h3⟩⟩
            · exact absurd he0 h
            · rw [hpe] at h1 h2 h3 ⊢
              exact ⟨vc, ve, vp, rfl, ho, rd_of_own h1, Src.of_own h2, Src.of_own h3⟩)
          clear OWN hown he0 hpe hr
          go_wp2_with fail
          refine HPE.out.mono ?_
          intro e w4 hgot
          obtain ⟨vc', ve', vp', rfl, ho4, hc4, he4, hp4⟩ := HGOT.out e w4 hgot
          have O4 := Lib.hid ho4
          obtain ⟨Bc, dc, rfl⟩ := hc4.slice
          obtain ⟨Be, de, rfl⟩ := he4.slice
          obtain ⟨Bp, dp, rfl⟩ := hp4.slice
          have HSAME := Lib.hid (fun w' (ho : Pure w4 w') => same_true p _ _ _ _ _ _ w' HF.out (HC.out.pure (P3.out.trans' (O4.out.trans' ho))) (hc4.pure ho) (HE.out.pure (P3.out.trans' (O4.out.trans' ho))) (he4.pure ho) (HP.out.pure (P3.out.trans' (O4.out.trans' ho))) (hp4.pure ho) (by omega))
          clear hgot ho4 hc4 he4 hp4
          rw [show p.val (.slice Bc (nats p.csrc).length dc) (.slice Be p.ext.length de) (.slice Bp p.pay.length dp) = .agg (p.cells (.slice Bc (nats p.csrc).length dc) (.slice Be p.ext.length de) (.slice Bp p.pay.length dp)) from rfl]
          have H1 := Lib.hid (show (p.cells (.slice Bc (nats p.csrc).length dc) (.slice Be p.ext.length de) (.slice Bp p.pay.length dp)).all (·.oneCell') = true from by simp [Pk.cells, Value.oneCell'])
          have HV := Lib.hid (show ∀ vc ve vp, p.val vc ve vp = .agg (p.cells vc ve vp) from fun _ _ _ => rfl)
          go_wp2_with (first | (refine wpList_store_is rfl 33 _ _ rfl w4.heap.size _ rfl rfl 33 _ (Is.made w4 _ zeros) Try.sizePk rfl H1.out ?_; intro w5 hi5 hp5; have HI5 := Lib.hid hi5; have O5 := Lib.hid (stored_made hp5); clear hi5 hp5) | (refine wpList_load_want (o := ⟨some 45, _, _, _, _, _⟩) rfl _ _ rfl w.heap.size rfl _ _ _ (HI3.out.only (O4.out.trans' O5.out) (by simp)) Try.underlying33 rfl Try.sizePacket ?_) | (refine wpList_load_want (o := ⟨some 46, _, _, _, _, _⟩) rfl _ _ rfl w4.heap.size rfl _ _ _ HI5.out Try.underlying33 rfl Try.sizePacket ?_) | (go_at_call 18; refine (HSAME.out _ O5.out).mono ?_; rintro e w6 ⟨rfl, ho6⟩; have O6 := Lib.hid ho6; clear ho6) | (refine wpList_load_want (o := ⟨some 53, _, _, _, _, _⟩) rfl _ _ rfl w.heap.size rfl _ _ _ (HI3.out.only (O4.out.trans' (O5.out.trans' O6.out)) (by simp)) Try.underlying33 rfl Try.sizePacket ?_) | (go_at_call 19; refine (HSIZE.out _).mono ?_; rintro e w7 ⟨rfl, ho7⟩; have O7 := Lib.hid ho7; clear ho7))
          go_meet
          exact O4.out.trans' (Pure.trans' O5.out (Pure.trans' O6.out O7.out))
      case rest =>
        have PC := Lib.hid (P0.out.trans' (Pure.trans' O1.out (Pure.trans' O2.out (Pure.trans' O3.out hcut))))
        have HPB := Lib.hid (parse_any (.slice Ab bs.length cb) bs wc (HS.out.pure PC.out) HB.out (by omega))
        clear hcut O1 O2 O3 OWN HPUT HRIGHT HSIZE HFEW HI hk
        by_cases he : parseErr bs = 0
        · have h12 := err_len bs he
          obtain ⟨hqf, hqr, hqp, hqd, hqe, hql⟩ := enc_parse bs HB.out hl' he
          have HGOT := Lib.hid (show ∀ e w', GotPk wc bs e w' → ∃ Bc dc Be de Bp dp, e = .returned (.tuple #[.agg ((parsed bs).cells (.slice Bc (parsed bs).csrc.length dc) (.slice Be (parsed bs).ext.length de) (.slice Bp (parsed bs).pay.length dp)), .int .i64 0]) ∧ Pure wc w' ∧ Rd .u32 w' (.slice Bc (parsed bs).csrc.length dc) (nats (parsed bs).csrc) ∧ Src w' (.slice Be (parsed bs).ext.length de) (parsed bs).ext ∧ Src w' (.slice Bp (parsed bs).pay.length dp) (parsed bs).pay from by
            rintro e w' ⟨ho, ⟨h, _⟩ | ⟨_, vc, ve, vp, rfl, h1, h2, h3⟩⟩
            · exact absurd he h
            · have k1 := rd_of_own h1
              have k2 := Src.of_own h2
              have k3 := Src.of_own h3
              obtain ⟨Bc, dc, rfl⟩ := k1.slice
              obtain ⟨Be, de, rfl⟩ := k2.slice
              obtain ⟨Bp, dp, rfl⟩ := k3.slice
              rw [nats_length] at k1
              exact ⟨Bc, dc, Be, de, Bp, dp, by rw [nats_length]; rfl, ho, k1, k2, k3⟩)
          have hqp' : (parsed bs).pad = padN bs := rfl
          rw [← hqp'] at hqp hqd hqe hql
          have hqs := enc_size (parsed bs)
          generalize parsed bs = q at *
          clear hqp' he
          have HQA := Lib.hid (enc_at bs q.enc q.pad)
          have hql2 : q.enc.length = bs.length := by rw [hqe, List.length_append, List.length_take, padOf_length]; omega
          have HQ1 := Lib.hid hql2
          have HQE := Lib.hid hqe
          have HQL := Lib.hid hql
          have HQF := Lib.hid hqf
          have HQR := Lib.hid hqr
          have hsz : q.csrc.length ≤ 2000 ∧ q.ext.length ≤ 2000 + q.ext.length ∧ q.pay.length ≤ 2000 := by
            rw [hql2] at hqs
            unfold Pk.size at hqs
            omega
          have hqx : q.ext.length ≤ 262140 := by
            have hrr : q.ty ≤ 127 ∧ q.csrc.length ≤ 15 ∧ q.ext.length % 4 = 0 ∧ q.ext.length ≤ 262140 ∧ (q.hasExt = true ∨ (q.profile = 0 ∧ q.ext.length = 0)) := by simpa [Pk.right] using hqr
            exact hrr.2.2.2.1
          have z1 := hsz.1
          have z3 := hsz.2.2
          have hne : ((q.enc.length : Int) != (bs.length : Int)) = false := by rw [hql2]; simp
          clear hqe hql hqf hqr hql2 hqs hsz
          go_wp2_with fail
          refine HPB.out.mono ?_
          intro e w4 hgot
          obtain ⟨Bc, dc, Be, de, Bp, dp, rfl, ho4, hc4, he4, hp4⟩ := HGOT.out e w4 hgot
          have O4 := Lib.hid ho4
          have H1 := Lib.hid (show (q.cells (.slice Bc q.csrc.length dc) (.slice Be q.ext.length de) (.slice Bp q.pay.length dp)).all (·.oneCell') = true from by simp [Pk.cells, Value.oneCell'])
          have HPUT := Lib.hid (fun w' (ho : Pure w4 w') => put_right q _ _ _ w' HQF.out HQR.out (hc4.pure ho) (he4.pure ho) (hp4.pure ho) (by omega))
          have HRIGHT := Lib.hid (fun w' => right_is q Bc Be Bp dc de dp w' (by omega) (by omega))
          rw [HQR.out] at HRIGHT
          clear hgot ho4 hc4 he4 hp4
          go_upto_region 16 with (first | (refine wpList_store_is rfl 33 _ _ rfl w4.heap.size _ rfl rfl 33 _ (Is.made w4 _ zeros) Try.sizePk rfl H1.out ?_; intro w5 hi5 hp5; have HI5 := Lib.hid hi5; have O5 := Lib.hid (stored_made hp5); clear hi5 hp5) | (refine wpList_load_row (o := ⟨some 71, _, _, _, _, _⟩) rfl _ _ rfl w4.heap.size rfl _ _ _ _ HI5.out Try.underlying33 rfl Try.sizePacket ?_) | (go_at_call 16; refine (HPUT.out _ O5.out).mono ?_; rintro e w6 ⟨v6, rfl, hown, ho6⟩; obtain ⟨Ad, cd, rfl, _⟩ := own_slice hown; have O6 := Lib.hid ho6; have OWN := Lib.hid hown; clear ho6 hown) | (refine wpList_load_want (o := ⟨some 78, _, _, _, _, _⟩) rfl _ _ rfl w4.heap.size rfl _ _ _ (HI5.out.only O6.out (by simp)) Try.underlying33 rfl Try.sizePacket ?_) | (go_at_call 17; refine (HRIGHT.out _).mono ?_; rintro e w7 ⟨rfl, ho7⟩; have O7 := Lib.hid ho7; clear ho7))
          obtain ⟨gd, od, cd', ed, _, hcd⟩ := (Src.of_own (bs := q.enc) OWN.out).cap (by rw [HQ1.out]; omega)
          injection ed with ed1 ed2 ed3
          subst ed1 ed3
          obtain ⟨gb, ob, cb', eb, _, hcb⟩ := HS.out.cap (by omega)
          injection eb with eb1 eb2 eb3
          subst eb1 eb3
          have HCD := Lib.hid (cells_pure hcd O7.out)
          have P7 := Lib.hid (PC.out.trans' (Pure.trans' O4.out (Pure.trans' O5.out (Pure.trans' O6.out O7.out))))
          have HCB := Lib.hid (cells_pure hcb P7.out)
          clear hcd hcb ed2 eb2
          have hi7 := HI5.out.only (O6.out.trans' O7.out) (by simp)
          have c10 := hi7.cell 10
          simp [Pk.cells] at c10
          clear hi7
          generalize hpd : q.pad = pd at *
          obtain ⟨L, hLL⟩ : ∃ L, bs.length = L := ⟨_, rfl⟩
          rw [hLL] at hl' hqp zl hne h12 ⊢
          have HPD := Lib.hid hpd
          have HLL := Lib.hid hLL
          clear hpd hLL
          go_wp2
          go_loopw [14] (fun i wr => ∃ k : Nat, k ≤ L ∧ i = .int .i64 k ∧ Pure w7 wr) (fun i _ => L - (intOf i).toNat)
          case atStart => exact ⟨0, by omega, rfl, Only.refl _ _⟩
          case round =>
            obtain ⟨k, hk, rfl, hpw⟩ := hrel
            have HPW := Lib.hid hpw
            clear hpw c10
            by_cases hlt : k < L
            · have hlb : k < bs.length := by rw [HLL.out]; exact hlt
              have hkE : k < q.enc.length := by rw [HQ1.out, HLL.out]; exact hlt
              obtain ⟨ha1, ha2⟩ := HQA.out k HQE.out (by rw [HLL.out]; omega) HQL.out hlb hkE
              have qa := cells_pure HCD.out HPW.out k hkE
              have qb := cells_pure HCB.out HPW.out k hlb
              rw [HLL.out] at ha1 ha2
              have zk : (k : Int) < (L : Int) := by omega
              have zE : (k : Int) < (q.enc.length : Int) := by omega
              by_cases hA : L - pd ≤ k
              · have dA : decide ((L : Int) - (pd : Int) ≤ (k : Int)) = true := decide_eq_true (by omega)
                by_cases hB : k + 1 < L
                · have dB : decide ((k : Int) < (L : Int) - 1) = true := decide_eq_true (by omega)
                  rw [ha1 hA hB] at qa
                  clear ha1 ha2
                  go_wp2
                  go_quiet (fail)
                  go_wp2
                  exact ⟨⟨k + 1, by omega, by go_num, HPW.out.drewN _⟩, by simp [intOf]; omega⟩
                · have dB : decide ((k : Int) < (L : Int) - 1) = false := decide_eq_false (by omega)
                  rw [ha2 (fun h => hB h.2)] at qa
                  generalize bs[k] = x at *
                  clear ha1 ha2
                  go_wp2
                  go_quiet (fail)
                  go_wp2
                  exact ⟨⟨k + 1, by omega, by go_num, HPW.out.drewN _⟩, by simp [intOf]; omega⟩
              · have dA : decide ((L : Int) - (pd : Int) ≤ (k : Int)) = false := decide_eq_false (by omega)
                rw [ha2 (fun h => hA h.1)] at qa
                generalize bs[k] = x at *
                clear ha1 ha2
                go_wp2
                go_quiet (fail)
                go_wp2
                exact ⟨⟨k + 1, by omega, by go_num, HPW.out.drewN _⟩, by simp [intOf]; omega⟩
            · have hkL : k = L := by omega
              subst hkL
              go_wp2_with fail
              refine (works_any _).mono ?_
              rintro e w8 ⟨rfl, ho8⟩
              have O8 := Lib.hid ho8
              clear ho8
              go_wp2
              go_ret
              exact ⟨rfl, P7.out.trans' (Pure.trans' HPW.out O8.out)⟩
        · have hne : (((parseErr bs : Nat) : Int) != 0) = true := by simp; omega
          have HGOT := Lib.hid (show ∀ e w', GotPk wc bs e w' → e = .returned (.tuple #[.agg zeros, .int .i64 (parseErr bs : Nat)]) ∧ Pure wc w' from by
            rintro e w' ⟨ho, ⟨_, rfl⟩ | ⟨h, _⟩⟩
            · exact ⟨rfl, ho⟩
            · exact absurd h he)
          have HSAME := Lib.hid (fun w' => same_true Pk.zero (.slice none 0 0) (.slice none 0 0) (.slice none 0 0) (.slice none 0 0) (.slice none 0 0) (.slice none 0 0) w' ⟨by decide, by decide, by decide, by decide, by decide, by decide, by decide, by decide, by decide⟩ (Rd.nil _ _) (Rd.nil _ _) (.inl ⟨rfl, rfl⟩) (.inl ⟨rfl, rfl⟩) (.inl ⟨rfl, rfl⟩) (.inl ⟨rfl, rfl⟩) (by decide))
          generalize parseErr bs = ek at *
          clear he
          go_wp2_with fail
          refine HPB.out.mono ?_
          intro e w4 hgot
          obtain ⟨rfl, ho4⟩ := HGOT.out e w4 hgot
          have O4 := Lib.hid ho4
          clear hgot ho4
          go_wp2_with (first | (refine wpList_store_is rfl 33 _ _ rfl w4.heap.size zeros rfl rfl 33 _ (Is.made w4 _ zeros) Try.sizePk rfl zeros_one ?_; intro w5 hi5 hp5; have HI5 := Lib.hid hi5; have O5 := Lib.hid (stored_made hp5); clear hi5 hp5) | (refine wpList_load_row (o := ⟨some 64, _, _, _, _, _⟩) rfl _ _ rfl w4.heap.size rfl _ _ _ _ HI5.out Try.underlying33 rfl Try.sizePacket ?_) | (go_at_call 18; refine (HSAME.out _).mono ?_; rintro e w6 ⟨rfl, ho6⟩; have O6 := Lib.hid ho6; clear ho6) | (go_at_call 5; refine (works_any _).mono ?_; rintro e w7 ⟨rfl, ho7⟩; have O7 := Lib.hid ho7; clear ho7))
          go_ret
          exact ⟨rfl, PC.out.trans' (Pure.trans' O4.out (Pure.trans' O5.out (Pure.trans' O6.out O7.out)))⟩
end Go.Proofs.Ytfnbndbchndlhaa
