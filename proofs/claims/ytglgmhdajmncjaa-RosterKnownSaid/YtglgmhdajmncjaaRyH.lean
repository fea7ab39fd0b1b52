/- roster: Join. Conditions: as each says. -/
import Derived.Test.YtglgmhdajmncjaaRyG
set_option linter.unusedVariables false
set_option linter.unusedSimpArgs false
namespace Go.Proofs.Ytglgmhdajmncjaa
open Go Go.RowKit

/-- Behind a call. -/
abbrev DoneR (v : Value) (w : World) (B b mb : Nat) (vl : Value) (r' : Ro) (e : Ending) (w' : World) : Prop := e = .returned v ∧ RTurned w w' B b mb vl r'
theorem doneR_pure {w w1 : World} {B b mb : Nat} {r : Ro} {vl v : Value} (h : Ror w B b mb r vl) (ho : Only (fun _ => False) w w1) : DoneR v w B b mb vl r (.returned v) w1 := ⟨rfl, (h.pure ho).turned ho⟩
set_option maxRecDepth 100000 in
set_option maxHeartbeats 8000000 in
theorem mjoin_is (B b mb : Nat) (r : Ro) (m : Mb) (vl : Value) (w : World) (h : Ror w B b mb r vl) (hf : r.Fit) (hm : m.Fits) :
    Calls Try.prog 23 #[ptr b, mbV m] w (DoneR (.int .i64 ((r.join m).2 : Int)) w B b mb vl (r.join m).1) := by
  have hl1000 : r.l.length ≤ 1000 := by have := hf.few; have := hf.most; omega
  obtain ⟨Ao, c, rfl, hc⟩ := h.row.slice
  rw [mbRows_length] at hc h ⊢
  obtain ⟨k, hk⟩ : ∃ k, r.l.length = k := ⟨_, rfl⟩
  have HK := Lib.hid hk
  rw [hk] at hc h ⊢
  have HF := Lib.hid h
  have HI := Lib.hid hf
  have HM := Lib.hid hm
  clear hk
  have hr : r.join m = if m.right = false then (r, 2) else if (getM r.l m.id).isSome then (r, 132) else if (ownM r.l m.co).isSome || (ownM r.l m.ca).isSome then (r, 140) else if r.most ≤ r.l.length then (r, 131) else ({ r with l := r.l ++ [m] }, 0) := rfl
  generalize r.join m = q at *
  have HR := Lib.hid hr
  clear hr h hf hm
  go_enter Try.func23, Try.ntmps23
  go_wp2_with fail
  have H1 := Lib.hid (HF.out.pure ((Only.refl _ w).alloc (.cells #[.int .i64 m.id, .int .u32 (m.co : Int), .int .u32 (m.ca : Int), .bool m.mo] 58)))
  have HG := Lib.hid (Is.made w 58 #[.int .i64 m.id, .int .u32 (m.co : Int), .int .u32 (m.ca : Int), .bool m.mo])
  have HO := Lib.hid ((Only.refl (fun _ => False) w).alloc (.cells #[.int .i64 m.id, .int .u32 (m.co : Int), .int .u32 (m.ca : Int), .bool m.mo] 58))
  obtain ⟨gb, hgb⟩ : ∃ gb, w.heap.size = gb := ⟨_, rfl⟩
  have HGB := Lib.hid hgb
  show Calls _ _ _ (w.alloc (.cells #[.int .i64 m.id, .int .u32 (m.co : Int), .int .u32 (m.ca : Int), .bool m.mo] 58)) _
  rw [hgb] at HG ⊢
  generalize w.alloc (.cells #[.int .i64 m.id, .int .u32 (m.co : Int), .int .u32 (m.ca : Int), .bool m.mo] 58) = w2 at *
  clear hgb
  refine (rthere_is B b mb r _ w2 H1.out).mono ?_
  rintro e w1 ⟨rfl, rfl⟩
  go_wp2_with (refine wpList_load_row (o := ⟨some 10, _, _, _, _, _⟩) rfl _ _ rfl gb rfl _ _ _ _ HG.out Try.underlying58 rfl Try.sizeMb ?_)
  refine (mright_is m w2).mono ?_
  rintro e w3 ⟨rfl, ho⟩
  have H3 := Lib.hid (H1.out.pure ho)
  have HG3 := Lib.hid (HG.out.only ho (by simp))
  have HO3 := Lib.hid (HO.out.trans ho (fun _ _ e => e))
  have c0 : w3.cell? ⟨gb, 0, none⟩ = some (.int .i64 m.id) := HG3.out.cell 0
  clear ho H1 HG HO
  cases hr1 : m.right with
  | false =>
    have HE := Lib.hid (show q = (r, 2) from by rw [HR.out, hr1]; rfl)
    clear hr1
    go_wp2
    go_ret
    rw [HE.out]
    exact doneR_pure HF.out HO3.out
  | true =>
    replace HR := Lib.hid (show q = if (getM r.l m.id).isSome then (r, 132) else if (ownM r.l m.co).isSome || (ownM r.l m.ca).isSome then (r, 140) else if r.most ≤ r.l.length then (r, 131) else ({ r with l := r.l ++ [m] }, 0) from by rw [HR.out, if_neg (by rw [hr1]; decide)])
    have HRT := Lib.hid hr1
    clear hr1
    go_wp2_with fail
    refine (rhas_is B b mb m.id r _ w3 H3.out hl1000).mono ?_
    rintro e w4 ⟨rfl, ho⟩
    have H4 := Lib.hid (H3.out.pure ho)
    have HG4 := Lib.hid (HG3.out.only ho (by simp))
    have HO4 := Lib.hid (HO3.out.trans ho (fun _ _ e => e))
    have c1 : w4.cell? ⟨gb, 1, none⟩ = some (.int .u32 (m.co : Int)) := HG4.out.cell 1
    have c2 : w4.cell? ⟨gb, 2, none⟩ = some (.int .u32 (m.ca : Int)) := HG4.out.cell 2
    clear ho H3 HG3 HO3 c0
    cases hr2 : (getM r.l m.id).isSome with
    | true =>
      have HE := Lib.hid (show q = (r, 132) from by rw [HR.out, if_pos hr2])
      clear hr2
      go_wp2
      go_ret
      rw [HE.out]
      exact doneR_pure HF.out HO4.out
    | false =>
      replace HR := Lib.hid (show q = if (ownM r.l m.co).isSome || (ownM r.l m.ca).isSome then (r, 140) else if r.most ≤ r.l.length then (r, 131) else ({ r with l := r.l ++ [m] }, 0) from by rw [HR.out, if_neg (by rw [hr2]; decide)])
      have HN := Lib.hid (show getM r.l m.id = none from by simpa using hr2)
      clear hr2
      go_wp2_with fail
      refine (owned_is B b mb m.co r _ w4 H4.out HM.out.co).mono ?_
      rintro e w5 ⟨rfl, rfl⟩
      cases hr3 : (ownM r.l m.co).isSome with
      | true =>
        have HE := Lib.hid (show q = (r, 140) from by rw [HR.out, hr3]; rfl)
        clear hr3
        go_wp2
        go_ret
        rw [HE.out]
        exact doneR_pure HF.out HO4.out
      | false =>
        have HN1 := Lib.hid (show ownM r.l m.co = none from by simpa using hr3)
        replace HR := Lib.hid (show q = if (ownM r.l m.ca).isSome then (r, 140) else if r.most ≤ r.l.length then (r, 131) else ({ r with l := r.l ++ [m] }, 0) from by rw [HR.out, hr3, Bool.false_or])
        clear hr3
        go_wp2_with fail
        refine (owned_is B b mb m.ca r _ w4 H4.out HM.out.ca).mono ?_
        rintro e w5 ⟨rfl, rfl⟩
        cases hr4 : (ownM r.l m.ca).isSome with
        | true =>
          have HE := Lib.hid (show q = (r, 140) from by rw [HR.out, if_pos hr4])
          clear hr4
          go_wp2
          go_ret
          rw [HE.out]
          exact doneR_pure HF.out HO4.out
        | false =>
          have HN2 := Lib.hid (show ownM r.l m.ca = none from by simpa using hr4)
          replace HR := Lib.hid (show q = if r.most ≤ r.l.length then (r, 131) else ({ r with l := r.l ++ [m] }, 0) from by rw [HR.out, if_neg (by rw [hr4]; decide)])
          clear hr4
          have d1 : w4.cell? ⟨b, 1, none⟩ = some (.slice Ao k c) := H4.out.cell 1
          have d0 : w4.cell? ⟨b, 0, none⟩ = some (.int .i64 (r.most : Int)) := H4.out.cell 0
          by_cases hfull : r.most ≤ k
          · have HE := Lib.hid (show q = (r, 131) from by rw [HR.out, HK.out, if_pos hfull])
            have hfI : (k : Int) ≥ (r.most : Int) := by omega
            go_upto_region 9 with (fail)
            go_quiet (fail)
            go_wp2
            go_ret
            rw [HE.out]
            exact doneR_pure HF.out (HO4.out.drewN _)
          · have HE := Lib.hid (show q = ({ r with l := r.l ++ [m] }, 0) from by rw [HR.out, HK.out, if_neg hfull])
            have hfI : ¬ (k : Int) ≥ (r.most : Int) := by omega
            go_upto_region 9 with (fail)
            go_quiet (fail)
            go_upto_region 11 with (fail)
            have hw4 := (Only.refl (fun _ => False) w4).drewN nq
            have H5 := Lib.hid (H4.out.pure hw4)
            have HG5 := Lib.hid (HG4.out.only hw4 (by simp))
            have HO5 := Lib.hid (HO4.out.trans hw4 (fun _ _ e => e))
            generalize w4.drewN nq = w5 at *
            clear hw4 H4 HG4 HO4 d1 d0 c1 c2 hfI
            obtain ⟨hm1, hm2⟩ := HF.out.mb_ne
            have hgv : Value.ownBlock (.slice Ao k c) ≠ some gb := fun e => by
              have := (HF.out.row.lt _ e).2
              have := HGB.out
              omega
            have hmg : gb ≠ mb := by
              have := HF.out.mp.lt
              have := HGB.out
              omega
            have hbg : b ≠ gb := by
              have := HF.out.lt
              have := HGB.out
              omega
            refine rj11 (roCells r mb (.slice Ao k c)) m b gb k c B Ao (mbRows r.l) w5 rfl (by rw [mbRows_length, HK.out]) (by have := hl1000; have := HK.out; omega) (Nat.le_trans H5.out.lo.1 (Nat.le_of_lt H5.out.lt)) hgv _ _ _ _ _ _ _ _ _ _ _ _ _ _ _ _ _ _ _ _ _ _ _ _ _ _ _ _ _ _ _ _ _ _ _ _ _ _ _ _ _ _ _ _ _ _ _ _ _ _ _ _ _ _ _ _ _ _ _ _ _ _ _ _ _ _ _ _ _ w5 ⟨H5.out.is, HG5.out, Nat.le_refl _, Only.refl _ _⟩ H5.out.row ?_
            rintro y40 y41 y42 y43 y44 y45 y46 y47 y48 y49 w6 ⟨A', c', w2', rfl, hown, hGj, hn⟩
            have hS : Only (fun k => k = b) w2' (w2'.setCell ⟨b, 1, none⟩ (.slice A' (k + 1) c')) := Only.set (S := fun k => k = b) (p := ⟨b, 1, none⟩) (Only.refl _ w2') (fun _ => rfl) _
            have hne : Value.ownBlock (.slice A' (k + 1) c') ≠ some b := owned_off hown.1 hGj.io (by decide)
            have HI6 := Lib.hid (show Is (w2'.setCell ⟨b, 1, none⟩ (.slice A' (k + 1) c')) b 109 (roCells ⟨r.most, r.l ++ [m]⟩ mb (.slice A' (k + 1) c')) from hGj.io.put 1 (.slice A' (k + 1) c'))
            have HG6 := Lib.hid (show Is (w2'.setCell ⟨b, 1, none⟩ (.slice A' (k + 1) c')) gb 58 #[.int .i64 m.id, .int .u32 (m.co : Int), .int .u32 (m.ca : Int), .bool m.mo] from hGj.ig.only hS (fun e => hbg e.symm))
            have HR6 := Lib.hid (OwnS.only hown hS (fun j hj e => hne (by rw [hj, e])))
            have HM6 := Lib.hid ((H5.out.mp.only hGj.only (fun e => (hm2 mb e).1 rfl)).only hS hm1)
            have HO6 := Lib.hid (show Only (fun j => j = b ∨ Value.ownBlock (.slice Ao k c) = some j) w (w2'.setCell ⟨b, 1, none⟩ (.slice A' (k + 1) c')) from
              ((HO5.out.mono (fun _ _ e => e.elim)).trans hGj.only (fun _ _ e => .inr e)).trans hS (fun _ _ e => .inl e))
            have HN6 := Lib.hid (show ∀ k1, Value.ownBlock (.slice A' (k + 1) c') = some k1 → Value.ownBlock (.slice Ao k c) = some k1 ∨ w.heap.size ≤ k1 from fun k1 h1 => (hn k1 h1).imp id (fun h => Nat.le_trans HO5.out.size h))
            generalize w2'.setCell ⟨b, 1, none⟩ (.slice A' (k + 1) c') = w7 at *
            clear hS hne hGj hown hn H5 HG5 HO5
            go_upto_region 12 with (fail)
            refine rj12 (roCells ⟨r.most, r.l ++ [m]⟩ mb (.slice A' (k + 1) c')) m b gb mb (owV r.l) w7 rfl (fun e => hm1 e.symm) hmg HM.out.co HM.out.ca (by rw [mget_own, HN1.out]; rfl) ?_ _ _ _ _ _ _ _ _ _ _ _ _ _ _ _ _ _ _ _ _ _ _ _ _ _ _ _ _ _ _ _ _ _ _ _ _ _ _ _ _ _ _ _ _ _ _ _ _ _ _ _ _ _ _ _ _ _ _ _ _ _ _ _ _ _ _ _ _ _ w7 ⟨HI6.out, HG6.out, Only.refl _ _⟩ HM6.out ?_
            · rw [mget_iff]
              intro x hx
              rcases List.mem_append.1 hx with hx | hx
              · exact mget_iff.1 (show mget (owV r.l) m.ca = none by rw [mget_own, HN2.out]; rfl) x hx
              · rw [List.mem_singleton.1 hx]
                have := HRT.out
                unfold Mb.right at this
                simp at this
                exact this.2
            rintro y50 y51 y52 y53 y54 y55 y56 y57 y58 y59 y60 y61 y62 y63 y64 y65 y66 y67 y68 y69 w8 ⟨hM8, hJ8⟩
            have HM8 := Lib.hid hM8
            have HJ8 := Lib.hid hJ8
            clear hM8 hJ8
            go_wp2
            go_ret
            rw [HE.out]
            have hv8 : ∀ j, Value.ownBlock (.slice A' (k + 1) c') = some j → ¬ j = mb := fun j hj e => by
              rcases HN6.out j hj with h | h
              · exact (hm2 j h).1 e
              · have := HF.out.mp.lt
                omega
            refine ⟨rfl, .slice A' (k + 1) c', ⟨HJ8.out.io, ?_, ?_, HF.out.lo⟩, ?_, fun j hj => ?_⟩
            · have := HM8.out
              rw [← owV_snoc] at this
              exact this
            · have := OwnS.only HR6.out HJ8.out.only hv8
              rw [show mbRows r.l ++ [[Value.int .i64 m.id, Value.int .u32 (m.co : Int), Value.int .u32 (m.ca : Int), Value.bool m.mo]] = mbRows (r.l ++ [m]) from (mbRows_snoc r.l m).symm] at this
              exact this
            · refine (HO6.out.mono (T := RFoot b mb (.slice Ao k c)) (fun j _ e => ?_)).trans HJ8.out.only (fun j _ e => .inr (.inl e))
              rcases e with e | e
              · exact .inl e
              · exact .inr (.inr e)
            · rcases hj with rfl | rfl | hj
              · exact .inl (.inl rfl)
              · exact .inl (.inr (.inl rfl))
              · exact (HN6.out j hj).imp (fun h => .inr (.inr h)) id
end Go.Proofs.Ytglgmhdajmncjaa
