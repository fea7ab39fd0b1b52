/- Two rows are compared: bytes.Equal, slices.Equal. Conditions: as each says. -/
import Derived.Test.YtdcclighccejhaaBase
import Derived.Test.YtdcclighccejhaaRtpF
import Derived.Test.YtdcclighccejhaaRtpD
import Derived.Laws.BytesArg
import Derived.Laws.BytesString
set_option linter.unusedVariables false
namespace Go.Proofs.Ytdcclighccejhaa
open Go.RowKit

set_option maxRecDepth 100000 in
set_option maxHeartbeats 400000 in
theorem bytes_equal (va vb : Value) (xs bs : List Nat) (w : World) (h1 : Src w va xs) (h2 : Src w vb bs) (ha : ∀ x ∈ xs, x < 256) (hb : ∀ x ∈ bs, x < 256) :
    Calls Try.prog 49 #[va, vb] w fun e w' => e = .returned (.bool (decide (xs = bs))) ∧ w = w' := by
  obtain ⟨A, c, rfl⟩ := h1.slice
  obtain ⟨B, d, rfl⟩ := h2.slice
  have q1 := conv_src h1 rfl
  have q2 := conv_src h2 rfl
  have HS := Lib.hid (str_eq xs bs ha hb)
  clear h1 h2 ha hb
  generalize strOfNums (nats xs) = sa at *
  generalize strOfNums (nats bs) = sb at *
  go_enter Try.func49, Try.ntmps49
  go_wp2
  go_ret
  exact ⟨by rw [← HS.out]; rfl, rfl⟩
end Go.Proofs.Ytdcclighccejhaa
