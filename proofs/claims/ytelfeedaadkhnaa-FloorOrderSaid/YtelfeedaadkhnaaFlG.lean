/- floor: Release, Revoke, Heard, Pending. Conditions: as each says. -/
import Derived.Test.YtelfeedaadkhnaaFlF
set_option linter.unusedVariables false
set_option linter.unusedSimpArgs false
namespace Go.Proofs.Ytelfeedaadkhnaa
open Go Go.RowKit

theorem mis_is (m : Fl) (n : Nat) (w : World) : Calls Try.prog 43 #[hV m.no m.who m.at_ m.heard m.pend, .int .u32 (n : Int)] w (SaysF (.bool (m.is n)) w) := his_is m.no m.who m.at_ m.heard n m.pend w
theorem fld_mod (x : Bool) (w : World) : (Instr.field 83 (.agg #[.bool x]) 0).run Try.prog w = .ok (.bool x) w := by kernel_rfl
/-- Done, behind a pure way. -/
theorem done_after {w w1 w2 : World} {B b mb : Nat} {m' : Fl} {vw vg v : Value} (ho : Only (fun _ => False) w w1) (h : Turned w1 w2 B b mb vw vg m') : DoneT v w B b mb vw vg m' (.returned v) w2 :=
  ⟨rfl, Turned.trans (ho.mono (fun _ _ e => e.elim)) (fun _ hk => .inl hk) h⟩
set_option maxRecDepth 100000 in
set_option maxHeartbeats 2000000 in
theorem release_is (B b mb n now : Nat) (m : Fl) (vw vg : Value) (w : World) (h : Flr w B b mb m vw vg) (hn : n < 4294967296) (hg : m.gs.length ≤ 10000) (hwl : m.wt.length ≤ 1000) :
    Calls Try.prog 36 #[ptr b, .int .u32 (n : Int), .int .u64 (now : Int)] w (DoneT (.int .i64 ((m.release n now).2 : Int)) w B b mb vw vg (m.release n now).1) := by
  have HF := Lib.hid h
  have hr : m.release n now = if !m.has n then (m, 130) else if !m.is n then (m, 133) else (m.end_ now, 0) := rfl
  generalize m.release n now = r at *
  have HR := Lib.hid hr
  clear h hr
  go_enter Try.func36, Try.ntmps36
  go_wp2_with fail
  refine (there_is B b mb m vw vg w HF.out).mono ?_
  rintro e w1 ⟨rfl, rfl⟩
  go_wp2_with fail
  refine (fhas_is B b mb n m vw vg _ HF.out hn).mono ?_
  rintro e w1 ⟨rfl, ho⟩
  have HO := Lib.hid ho
  have HF1 := Lib.hid (HF.out.pure ho)
  clear ho
  cases hh : m.has n with
  | false =>
    have HE := Lib.hid (show r = (m, 130) from by rw [HR.out, hh]; rfl)
    clear hh
    go_wp2
    go_ret
    rw [HE.out]
    exact done_pure HF.out HO.out
  | true =>
    rw [hh] at HR
    clear hh
    go_wp2_with (refine wpList_load_mid rfl 64 _ rfl b 3 rfl _ _ HF1.out.rangeH Try.underlying64 rfl Try.sizeHl ?_)
    refine (mis_is m n _).mono ?_
    rintro e w2 ⟨rfl, ho⟩
    have HO2 := Lib.hid (HO.out.trans ho (fun _ _ e => e))
    have HF2 := Lib.hid (HF1.out.pure ho)
    clear ho
    cases hi : m.is n with
    | false =>
      have HE := Lib.hid (show r = (m, 133) from by rw [HR.out, hi]; rfl)
      clear hi
      go_wp2
      go_ret
      rw [HE.out]
      exact done_pure HF.out HO2.out
    | true =>
      have HE := Lib.hid (show r = (m.end_ now, 0) from by rw [HR.out, hi]; rfl)
      clear hi
      go_wp2_with fail
      refine (end_is B b mb now m vw vg _ HF2.out hg hwl).mono ?_
      rintro e w3 ⟨rfl, hT⟩
      have HT := Lib.hid hT
      clear hT
      go_wp2
      go_ret
      rw [HE.out]
      exact done_after HO2.out HT.out
set_option maxRecDepth 100000 in
set_option maxHeartbeats 4000000 in
theorem revoke_is (B b mb by_ n now : Nat) (m : Fl) (vw vg : Value) (w : World) (h : Flr w B b mb m vw vg) (hb : by_ < 4294967296) (hn : n < 4294967296) (hg : m.gs.length ≤ 10000) (hwl : m.wt.length ≤ 1000) :
    Calls Try.prog 26 #[ptr b, .int .u32 (by_ : Int), .int .u32 (n : Int), .int .u64 (now : Int)] w (DoneT (.int .i64 ((m.revoke by_ n now).2 : Int)) w B b mb vw vg (m.revoke by_ n now).1) := by
  have HF := Lib.hid h
  have hr : m.revoke by_ n now = if !m.has by_ || !m.has n then (m, 130) else if !m.mod by_ then (m, 134) else if !m.is n then (m, 133) else (m.end_ now, 0) := rfl
  generalize m.revoke by_ n now = r at *
  have HR := Lib.hid hr
  clear h hr
  go_enter Try.func26, Try.ntmps26
  go_wp2_with fail
  refine (there_is B b mb m vw vg w HF.out).mono ?_
  rintro e w1 ⟨rfl, rfl⟩
  go_wp2_with fail
  refine (fhas_is B b mb by_ m vw vg _ HF.out hb).mono ?_
  rintro e w1 ⟨rfl, ho⟩
  have HO := Lib.hid ho
  have HF1 := Lib.hid (HF.out.pure ho)
  clear ho
  cases hh : m.has by_ with
  | false =>
    have HE := Lib.hid (show r = (m, 130) from by rw [HR.out, hh]; rfl)
    clear hh
    go_wp2
    go_ret
    rw [HE.out]
    exact done_pure HF.out HO.out
  | true =>
    rw [hh] at HR
    clear hh
    go_wp2_with fail
    refine (fhas_is B b mb n m vw vg _ HF1.out hn).mono ?_
    rintro e w2 ⟨rfl, ho⟩
    have HO1 := Lib.hid (HO.out.trans ho (fun _ _ e => e))
    have HF2 := Lib.hid (HF1.out.pure ho)
    clear ho
    cases hh : m.has n with
    | false =>
      have HE := Lib.hid (show r = (m, 130) from by rw [HR.out, hh]; rfl)
      clear hh
      go_wp2
      go_ret
      rw [HE.out]
      exact done_pure HF.out HO1.out
    | true =>
      rw [hh] at HR
      clear hh
      have c2 : w2.cell? ⟨b, 2, none⟩ = some (.map (some mb)) := HF2.out.cell 2
      have HM := Lib.hid (mget_mod m by_)
      have hfd := fun x => fld_mod x w2
      cases hd : m.mod by_ with
      | false =>
        have HE := Lib.hid (show r = (m, 134) from by rw [HR.out, hd]; rfl)
        rw [hd] at HM
        clear hd
        go_wp2_with (at_lookup; refine wpList_mlookF rfl _ _ 62 rfl 30 83 Try.underlying62 Try.underlying30 (zero_mem _) rfl HF2.out.mp rfl (wf32 hb) HM.out ?_)
        go_ret
        rw [HE.out]
        exact done_pure HF.out HO1.out
      | true =>
        rw [hd] at HM HR
        clear hd
        go_wp2_with (first
          | (at_lookup; refine wpList_mlookF rfl _ _ 62 rfl 30 83 Try.underlying62 Try.underlying30 (zero_mem _) rfl HF2.out.mp rfl (wf32 hb) HM.out ?_)
          | (refine wpList_load_mid rfl 64 _ rfl b 3 rfl _ _ HF2.out.rangeH Try.underlying64 rfl Try.sizeHl ?_))
        refine (mis_is m n _).mono ?_
        rintro e w3 ⟨rfl, ho⟩
        have HO2 := Lib.hid (HO1.out.trans ho (fun _ _ e => e))
        have HF3 := Lib.hid (HF2.out.pure ho)
        clear ho
        cases hi : m.is n with
        | false =>
          have HE := Lib.hid (show r = (m, 133) from by rw [HR.out, hi]; rfl)
          clear hi
          go_wp2
          go_ret
          rw [HE.out]
          exact done_pure HF.out HO2.out
        | true =>
          have HE := Lib.hid (show r = (m.end_ now, 0) from by rw [HR.out, hi]; rfl)
          clear hi
          go_wp2_with fail
          refine (end_is B b mb now m vw vg _ HF3.out hg hwl).mono ?_
          rintro e w4 ⟨rfl, hT⟩
          have HT := Lib.hid hT
          clear hT
          go_wp2
          go_ret
          rw [HE.out]
          exact done_after HO2.out HT.out
end Go.Proofs.Ytelfeedaadkhnaa
