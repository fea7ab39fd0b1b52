/- rtp's Same, of two packets that are the same. Conditions: as it says. -/
import Derived.Test.YtcgfmjdlningpaaRtpL
set_option linter.unusedVariables false
namespace Go.Proofs.Ytcgfmjdlningpaa
open Go.RowKit


set_option maxRecDepth 100000 in
set_option maxHeartbeats 1000000 in
theorem same_true (p : Pk) (vc ve vp uc ue up : Value) (w : World) (hf : p.Fit) (hc : Rd .u32 w vc (nats p.csrc)) (hd : Rd .u32 w uc (nats p.csrc)) (he : Src w ve p.ext) (hg : Src w ue p.ext) (hp : Src w vp p.pay) (hq : Src w up p.pay) (hl : p.csrc.length ≤ 140737488355328) :
    Calls Try.prog 51 #[p.val vc ve vp, p.val uc ue up] w fun e w' => e = .returned (.bool true) ∧ Pure w w' := by
  obtain ⟨Ac, cc, rfl⟩ := hc.slice
  obtain ⟨Bc, dc, rfl⟩ := hd.slice
  obtain ⟨Ae, ce, rfl⟩ := he.slice
  obtain ⟨Be, de, rfl⟩ := hg.slice
  obtain ⟨Ap, cp, rfl⟩ := hp.slice
  obtain ⟨Bp, dp, rfl⟩ := hq.slice
  have H1 := Lib.hid (fun w' (ho : Pure w w') => ints_equal _ _ p.csrc p.csrc w' (hc.pure ho) (hd.pure ho) hl)
  have H2 := Lib.hid (fun w' (ho : Pure w w') => bytes_equal _ _ p.ext p.ext w' (he.pure ho) (hg.pure ho) hf.ext hf.ext)
  have H3 := Lib.hid (fun w' (ho : Pure w w') => bytes_equal _ _ p.pay p.pay w' (hp.pure ho) (hq.pure ho) hf.pay hf.pay)
  simp only [decide_true] at H1 H2 H3
  clear hc hd he hg hp hq hf hl
  obtain ⟨m, ty, sq, tm, ss, cs, hx, pr, ex, py, pd⟩ := p
  simp only [Pk.val] at *
  go_enter Try.func51, Try.ntmps51
  go_wp2_with fail
  refine (H1.out _ (((Only.refl _ w).alloc _).alloc _)).mono ?_
  rintro e w1 ⟨rfl, n, rfl⟩
  go_wp2_with fail
  refine (H2.out _ ((((Only.refl _ w).alloc _).alloc _).drewN _)).mono ?_
  rintro e w2 ⟨rfl, rfl⟩
  go_wp2_with fail
  refine (H3.out _ ((((Only.refl _ w).alloc _).alloc _).drewN _)).mono ?_
  rintro e w3 ⟨rfl, rfl⟩
  go_wp2
  go_ret
  exact ⟨rfl, (((Only.refl _ w).alloc _).alloc _).drewN _⟩
end Go.Proofs.Ytcgfmjdlningpaa
