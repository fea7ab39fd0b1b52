/- FewPacket, and rtp's Same. Conditions: as each says. -/
import Derived.Test.YtdcclighccejhaaRtpK
set_option linter.unusedVariables false
namespace Go.Proofs.Ytdcclighccejhaa
open Go.RowKit

def Pk.few (p : Pk) : Bool := decide (p.csrc.length ≤ 20 ∧ p.ext.length ≤ 400 ∧ p.pay.length ≤ 400)

set_option maxRecDepth 100000 in
set_option maxHeartbeats 400000 in
theorem few_is (p : Pk) (Ac Ae Ap : Option Addr) (cc ce cp : Nat) (w : World) :
    Calls Try.prog 20 #[p.val (.slice Ac p.csrc.length cc) (.slice Ae p.ext.length ce) (.slice Ap p.pay.length cp)] w fun e w' => e = .returned (.bool p.few) ∧ Pure w w' := by
  obtain ⟨m, ty, sq, tm, ss, cs, hx, pr, ex, py, pd⟩ := p
  simp only [Pk.val, Pk.few]
  generalize cs.length = lc at *
  generalize ex.length = le at *
  generalize py.length = lp at *
  by_cases h1 : lc ≤ 20
  · by_cases h2 : le ≤ 400
    · by_cases h3 : lp ≤ 400
      · go_enter Try.func20, Try.ntmps20
        go_wp2
        go_ret
        exact ⟨by simp [h1, h2, h3] <;> omega, (Only.refl _ _).alloc _⟩
      · have h3' : 400 < lp := by omega
        go_enter Try.func20, Try.ntmps20
        go_wp2
        go_ret
        exact ⟨by simp [h1, h2, h3] <;> omega, (Only.refl _ _).alloc _⟩
    · have h2' : 400 < le := by omega
      go_enter Try.func20, Try.ntmps20
      go_wp2
      go_ret
      exact ⟨by simp <;> omega, (Only.refl _ _).alloc _⟩
  · have h1' : 20 < lc := by omega
    go_enter Try.func20, Try.ntmps20
    go_wp2
    go_ret
    exact ⟨by simp <;> omega, (Only.refl _ _).alloc _⟩
end Go.Proofs.Ytdcclighccejhaa
