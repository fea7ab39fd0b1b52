/- Anew. Conditions: as it says. -/
import Derived.Test.YtneogagainllnaaVpF
set_option linter.unusedVariables false
namespace Go.Proofs.Ytneogagainllnaa
open Go.RowKit

def Dv.anew (d : Dv) (pic tl0 tid : Nat) (sync : Bool) : Dv := { d with hasPic := true, long := true, pic := pic % 32768, hasTl0 := true, tl0 := tl0, hasTid := true, tid := tid % 4, sync := sync }
set_option maxRecDepth 100000 in
set_option maxHeartbeats 1000000 in
theorem anew_is (d : Dv) (pic tl0 tid : Nat) (sync : Bool) (w : World) (hp : pic < 65536) (ht : tid < 256) :
    Calls Try.prog 18 #[d.val, .int .u16 pic, .int .u8 tl0, .int .u8 tid, .bool sync] w fun e w' => e = .returned (d.anew pic tl0 tid sync).val ∧ Only (fun _ => False) w w' := by
  have e1 := u16_and15 pic hp
  have e2 := u8_and3 tid ht
  simp only [Dv.val, Dv.cells]
  go_enter Try.func18, Try.ntmps18
  go_wp2
  exact bodyPost_ret (v := (d.anew pic tl0 tid sync).val) (by simp [results, Try.results18, go_sem, Dv.val, Dv.cells, Dv.anew]) rfl ⟨rfl, ((Only.refl _ w).alloc _).alloc _⟩
end Go.Proofs.Ytneogagainllnaa
