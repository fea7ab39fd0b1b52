/- Literals: ranges of numbers cut to a kind, a row of bytes that a literal laid. (RvK holds these, too: do not import both.) Conditions: as each says. -/
import Derived.Test.YtcgfmjdlningpaaBase
set_option linter.unusedVariables false
namespace Go.Proofs.Ytcgfmjdlningpaa
open Go.RowKit

theorem u8_range (z : Int) : 0 ≤ IntKind.u8.wrap z ∧ IntKind.u8.wrap z < 256 := by rw [IntKind.wrap_u8]; omega
theorem u16_range (z : Int) : 0 ≤ IntKind.u16.wrap z ∧ IntKind.u16.wrap z < 65536 := by rw [IntKind.wrap_u16]; omega
theorem src_bytes (w : World) (es : List Int) (h : ∀ e ∈ es, 0 ≤ e ∧ e < 256) : ∃ bs : List Nat, bs.length = es.length ∧ (∀ x ∈ bs, x < 256) ∧ Src (w.alloc (.cells (es.map (Value.int .u8)).toArray 5)) (.slice (some ⟨w.heap.size, 0, none⟩) es.length es.length) bs := by
  refine ⟨es.map Int.toNat, by simp, ?_, ?_⟩
  · intro x hx
    obtain ⟨e, he, rfl⟩ := List.mem_map.1 hx
    have := h e he
    omega
  · have e : es.map (Value.int .u8) = cellsOf (es.map Int.toNat) := by
      simp only [cellsOf, List.map_map]
      refine List.map_congr_left fun e he => ?_
      show Value.int .u8 e = Value.int .u8 ((e.toNat : Nat) : Int)
      rw [Int.toNat_of_nonneg (h e he).1]
    rw [e]
    have := src_lit w (es.map Int.toNat)
    simpa using this
/-- A row's end, of a row that is cut off at a number below its capacity. -/
theorem src_from {w : World} {g o n c : Nat} {bs : List Nat} (h : Src w (.slice (some ⟨g, o, none⟩) n c) bs) (k : Nat) (hk : k ≤ bs.length) : Src w (.slice (some ⟨g, o + k, none⟩) (n - k) (c - k)) (bs.drop k) := by
  rcases h with ⟨e, _⟩ | ⟨a, c', e, h2, hcell⟩
  · simp at e
  · injection e with e1 e2 e3
    injection e1 with e1
    subst e1 e2 e3
    refine src_drop k (fun j hj => ?_) hk rfl (by omega)
    have := hcell j _ (cellsOf_get bs j hj)
    rw [add_plain] at this
    exact this
end Go.Proofs.Ytcgfmjdlningpaa
