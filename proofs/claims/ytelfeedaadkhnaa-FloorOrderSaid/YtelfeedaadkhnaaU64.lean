/- Rows of numbers of 64 digits; worlds that keep what lies below. Conditions: as each says. -/
import Derived.RangeFuncBox
import Derived.Test.YtelfeedaadkhnaaFlBase
set_option linter.unusedVariables false
namespace Go.Proofs.Ytelfeedaadkhnaa
open Go Go.RowKit

theorem Try.infoU64 : (Try.prog.info? 22).map (fun i => (i.zero, i.size, i.bytes)) = some (some (.int .u64 0), 1, 8) := by kernel_rfl
/-- Cells of 64 digits. -/
def cells64 (l : List Nat) : List Value := l.map fun (x : Nat) => Value.int .u64 (x : Int)
theorem onlyN (w : World) (n : Nat) : Only (fun _ => False) w (w.drewN n) := (Only.refl _ w).drewN n
theorem Only.grownNone {w w1 : World} (h : Only (fun _ => False) w w1) : w.grownBy w1 none := ⟨h.os, h.tape, h.output, h.size, fun k hk _ => h.same k hk (by simp)⟩
theorem Only.of_below {w w1 : World} (h : Below w.heap.size w w1) : Only (fun _ => False) w w1 := ⟨h.os, h.tape, h.output, h.size, fun k hk _ => h.block k hk⟩
theorem own_rd64 {B : Nat} {v : Value} {l : List Nat} {w : World} (h : w.ownsRow B 22 1 v l.length (cells64 l)) : Rd .u64 w v (nats l) := by
  have hn := nats_length l
  rcases h.2 with ⟨rfl, h0⟩ | ⟨g, cap, cur, rfl, hb, hg, hc, hlc, hcl, h7⟩
  · have : l = [] := List.eq_nil_of_length_eq_zero h0
    subst this
    exact Rd.nil _ _
  · refine ⟨_, cap, by rw [hn], by rw [hn]; exact hc, fun hp => ⟨g, 0, rfl, fun j hj => ?_⟩⟩
    rw [hn] at hj
    rw [Nat.zero_add, cell_of_row w g j cur _ (0, 0) hg]
    have h8 : (cur.toList.take (l.length * 1))[j]? = (cells64 l)[j]? := by rw [h7]
    rw [List.getElem?_take, if_pos (by omega)] at h8
    rw [← Array.getElem?_toList, h8]
    simp [cells64, nats, hj]
end Go.Proofs.Ytelfeedaadkhnaa
