/- The reference's IsRtcp; a packet's rows are written over. Conditions: as each says. -/
import Derived.Test.YtdcclighccejhaaRtpN
import Derived.Test.YtdcclighccejhaaBase
set_option linter.unusedVariables false
namespace Go.Proofs.Ytdcclighccejhaa
open Go.RowKit

/-- Rows of two kinds lie apart. -/
theorem rows_apart {w : World} {B B' n m : Nat} {t u : TypeId} {v v' : Value} {xs ys : List Value} (hv : w.ownsRow B t 1 v n xs) (hu : w.ownsRow B' u 1 v' m ys) (hne : t ≠ u) : ∀ k, v.ownBlock = some k → ¬ v'.ownBlock = some k := by
  intro k hk hk'
  rcases hv.2 with ⟨rfl, _⟩ | ⟨g, cap, cur, rfl, _, q2, _⟩
  · simp [Value.ownBlock] at hk
  · rcases hu.2 with ⟨rfl, _⟩ | ⟨g', cap', cur', rfl, _, q2', _⟩
    · simp [Value.ownBlock] at hk'
    · have e1 : g = k := by simpa [Value.ownBlock] using hk
      have e2 : g' = k := by simpa [Value.ownBlock] using hk'
      subst e1
      subst e2
      rw [q2] at q2'
      simp at q2'
      exact hne q2'.2
set_option maxRecDepth 100000 in
set_option maxHeartbeats 1000000 in
theorem spoil_packet (p : Pk) (vc ve vp : Value) (w : World) (BC BE BP nc ne np : Nat) (xc xe xp : List Value) (hc : w.ownsRow BC 38 1 vc nc xc) (he : w.ownsRow BE 5 1 ve ne xe) (hp : w.ownsRow BP 5 1 vp np xp) (hl : nc ≤ 1000 ∧ ne ≤ 1000000 ∧ np ≤ 1000000) :
    Calls Try.prog 24 #[.agg #[.bool p.marker, .int .u8 p.ty, .int .u16 p.seq, .int .u32 p.time, .int .u32 p.ssrc, vc, .bool p.hasExt, .int .u16 p.profile, ve, vp, .int .u8 p.pad]] w fun e w' => e = .returned (.tuple #[]) ∧ Only (fun k => vc.ownBlock = some k ∨ ve.ownBlock = some k ∨ vp.ownBlock = some k) w w' := by
  obtain ⟨hl1, hl2, hl3⟩ := hl
  obtain ⟨ae, ce, rfl, _⟩ := own_slice he
  obtain ⟨ap, cp, rfl, _⟩ := own_slice hp
  have fin : ∀ w1 w2 w3, Only (fun k => vc.ownBlock = some k) (w.alloc (.cells #[.bool p.marker, .int .u8 p.ty, .int .u16 p.seq, .int .u32 p.time, .int .u32 p.ssrc, vc, .bool p.hasExt, .int .u16 p.profile, (.slice ae ne ce), (.slice ap np cp), .int .u8 p.pad] 42)) w1 → Only (fun k => (Value.slice ae ne ce).ownBlock = some k) w1 w2 → Only (fun k => (Value.slice ap np cp).ownBlock = some k) w2 w3 → Only (fun k => vc.ownBlock = some k ∨ (Value.slice ae ne ce).ownBlock = some k ∨ (Value.slice ap np cp).ownBlock = some k) w w3 := by
    intro w1 w2 w3 h1 h2 h3
    have h0 : Only (fun k => vc.ownBlock = some k ∨ (Value.slice ae ne ce).ownBlock = some k ∨ (Value.slice ap np cp).ownBlock = some k) w (w.alloc (.cells #[.bool p.marker, .int .u8 p.ty, .int .u16 p.seq, .int .u32 p.time, .int .u32 p.ssrc, vc, .bool p.hasExt, .int .u16 p.profile, (.slice ae ne ce), (.slice ap np cp), .int .u8 p.pad] 42)) := Only.mono (S := fun _ => False) ((Only.refl _ w).alloc _) (fun _ _ (h : False) => h.elim)
    exact ((h0.trans h1 (fun _ _ e => .inl e)).trans h2 (fun _ _ e => .inr (.inl e))).trans h3 (fun _ _ e => .inr (.inr e))
  obtain ⟨w0, hw0⟩ : ∃ w0, w.alloc (.cells #[.bool p.marker, .int .u8 p.ty, .int .u16 p.seq, .int .u32 p.time, .int .u32 p.ssrc, vc, .bool p.hasExt, .int .u16 p.profile, (.slice ae ne ce), (.slice ap np cp), .int .u8 p.pad] 42) = w0 := ⟨_, rfl⟩
  rw [hw0] at fin
  have O0 : Only (fun _ => False) w w0 := by rw [← hw0]; exact (Only.refl _ w).alloc _
  have I0 : Is w0 w.heap.size 42 #[.bool p.marker, .int .u8 p.ty, .int .u16 p.seq, .int .u32 p.time, .int .u32 p.ssrc, vc, .bool p.hasExt, .int .u16 p.profile, (.slice ae ne ce), (.slice ap np cp), .int .u8 p.pad] := by rw [← hw0]; exact Is.made _ _ _
  have hc0 := own_only hc O0 (by simp)
  have he0 := own_only he O0 (by simp)
  have hp0 := own_only hp O0 (by simp)
  obtain ⟨bx, hbx⟩ : ∃ b, w.heap.size = b := ⟨_, rfl⟩
  rw [hbx] at I0
  have HI0 := Lib.hid I0
  have HC0 := Lib.hid hc0
  have HE0 := Lib.hid he0
  have HP0 := Lib.hid hp0
  clear I0 hc0 he0 hp0 O0 he hp hc
  rcases Nat.eq_zero_or_pos nc with rfl | hpos
  · obtain ⟨A, c, rfl, _⟩ := own_slice HC0.out
    go_enter Try.func24, Try.ntmps24
    go_wp2
    try rw [hw0]
    clear hw0
    try rw [hbx]
    go_loopw [2] (fun i wr => i = .int .i64 0 ∧ w0 = wr) (fun _ _ => 0)
    case atStart => exact ⟨rfl, rfl⟩
    case round =>
      obtain ⟨rfl, rfl⟩ := hrel
      have HI := HI0
      have HEE := HE0
      have HPP := HP0
      have HO := Lib.hid (Only.refl (fun k => (Value.slice A 0 c).ownBlock = some k) w0)
      have g5 := HI.out.cell 5
      simp at g5
      have hI := HI.out
      have g8 := hI.cell 8
      simp at g8
      clear hI
      go_wp2_with fail
      refine (spoil_own (.slice ae ne ce) ne BE _ _ HEE.out (by omega)).mono ?_
      rintro e w2 ⟨rfl, o2, y2, hv2⟩
      obtain ⟨y3, hv3⟩ := spoil_other HEE.out HPP.out o2 hv2
      have HV3 := Lib.hid hv3
      have O2 := Lib.hid o2
      have HI2 := Lib.hid (HI.out.only o2 (row_apart HI.out HEE.out (by decide)))
      have g9 := HI2.out.cell 9
      simp at g9
      clear o2 hv2 hv3 g8
      go_wp2_with fail
      refine (spoil_own (.slice ap np cp) np BP _ _ HV3.out (by omega)).mono ?_
      rintro e w3 ⟨rfl, o3, y4, hv4⟩
      have O3 := Lib.hid o3
      clear o3 hv4 g9
      go_wp2
      go_end0
      exact ⟨rfl, fin _ _ _ HO.out O2.out O3.out⟩
  · obtain ⟨g, cap, rfl, hb, hlt⟩ := HC0.out.form hpos
    go_enter Try.func24, Try.ntmps24
    go_wp2
    try rw [hw0]
    clear hw0
    try rw [hbx]
    go_loopw [2] (fun i wr => ∃ (k : Nat) (ys : List Value), k ≤ nc ∧ i = .int .i64 k ∧ wr.ownsRow BC 38 1 (.slice (some ⟨g, 0, none⟩) nc cap) nc ys ∧ Only (fun k => k = g) w0 wr) (fun i _ => nc - (intOf i).toNat)
    case atStart => exact ⟨0, _, by omega, rfl, HC0.out, Only.refl _ _⟩
    case round =>
      obtain ⟨k, ys, hk, rfl, hown, ho⟩ := hrel
      have HW := Lib.hid hown
      have HOO := Lib.hid ho
      have HI := Lib.hid (HI0.out.only ho (fun e => row_apart HI0.out HC0.out (by decide) (by rw [← e]; rfl)))
      have g5 := HI.out.cell 5
      simp at g5
      by_cases hkn : k < nc
      · have hl := hown.1
        have qc : wr.cell? ⟨g, k, none⟩ = some ys[k] := by
          rw [hown.cellAt k (by omega)]
          exact List.getElem?_eq_getElem (by omega)
        have qf := hown.frozenAt k
        generalize ys[k] = y at *
        clear hown ho hl
        go_wp2
        go_roundw
        case rel =>
          refine ⟨k + 1, _, by omega, by go_num, (HW.out.stored k _).1, HOO.out.set (fun _ => rfl) _⟩
        case measure => simp [intOf]; omega
      · clear hown
        have HEE := Lib.hid (own_only HE0.out ho (fun q hq e => rows_apart HC0.out HE0.out (by decide) q (by rw [e]; rfl) hq))
        have HPP := Lib.hid (own_only HP0.out ho (fun q hq e => rows_apart HC0.out HP0.out (by decide) q (by rw [e]; rfl) hq))
        have HO := Lib.hid (show Only (fun k => (Value.slice (some ⟨g, 0, none⟩) nc cap).ownBlock = some k) w0 wr from ho.mono (fun i _ e => by subst e; rfl))
        clear ho
        have hI := HI.out
        have g8 := hI.cell 8
        simp at g8
        clear hI
        go_wp2_with fail
        refine (spoil_own (.slice ae ne ce) ne BE _ _ HEE.out (by omega)).mono ?_
        rintro e w2 ⟨rfl, o2, y2, hv2⟩
        obtain ⟨y3, hv3⟩ := spoil_other HEE.out HPP.out o2 hv2
        have HV3 := Lib.hid hv3
        have O2 := Lib.hid o2
        have HI2 := Lib.hid (HI.out.only o2 (row_apart HI.out HEE.out (by decide)))
        have g9 := HI2.out.cell 9
        simp at g9
        clear o2 hv2 hv3 g8
        go_wp2_with fail
        refine (spoil_own (.slice ap np cp) np BP _ _ HV3.out (by omega)).mono ?_
        rintro e w3 ⟨rfl, o3, y4, hv4⟩
        have O3 := Lib.hid o3
        clear o3 hv4 g9
        go_wp2
        go_end0
        exact ⟨rfl, fin _ _ _ HO.out O2.out O3.out⟩
end Go.Proofs.Ytdcclighccejhaa
