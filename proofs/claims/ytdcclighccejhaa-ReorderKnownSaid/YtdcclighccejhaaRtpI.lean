/- Parse, as a walk: the whole. Conditions: as it says. -/
import Derived.Test.YtdcclighccejhaaRtpH
import Derived.Test.YtdcclighccejhaaBase
set_option linter.unusedVariables false
namespace Go.Proofs.Ytdcclighccejhaa
open Go.RowKit

/-- Two bytes that are read, and nothing written. -/
theorem hold_step {wc W wx : World} {a b : Addr} {x y : Value} (h : Pure W wx) (k : W.cell? a = some x ∧ W.cell? b = some y ∧ Pure wc W) : wx.cell? a = some x ∧ wx.cell? b = some y ∧ Pure wc wx :=
  ⟨(h.cell (World.block_lt_of_cell? W a k.1) (by simp)).trans k.1, (h.cell (World.block_lt_of_cell? W b k.2.1) (by simp)).trans k.2.1, k.2.2.trans' h⟩
theorem hold_pure {wc W : World} {a b : Addr} {x y : Value} (k : W.cell? a = some x ∧ W.cell? b = some y ∧ Pure wc W) : Pure wc W := k.2.2
theorem hold_alloc {wc W : World} {a b : Addr} {x y : Value} (k : W.cell? a = some x ∧ W.cell? b = some y ∧ Pure wc W) (o : Obj) : (W.alloc o).cell? a = some x ∧ (W.alloc o).cell? b = some y ∧ Pure wc (W.alloc o) :=
  hold_step ((Only.refl _ W).alloc o) k

theorem hold_put {wc W w2 : World} {a b : Addr} {x y : Value} {pb : Nat} (h : Only (fun k => k = pb) W w2) (hpb : wc.heap.size ≤ pb) (la : a.block < wc.heap.size) (lb : b.block < wc.heap.size) (k : W.cell? a = some x ∧ W.cell? b = some y ∧ Pure wc W) : w2.cell? a = some x ∧ w2.cell? b = some y ∧ Pure wc w2 :=
  ⟨(h.cell (World.block_lt_of_cell? W a k.1) (by omega)).trans k.1, (h.cell (World.block_lt_of_cell? W b k.2.1) (by omega)).trans k.2.1, k.2.2.trans h (fun i hi e => by omega)⟩
/-- A whole struct is stored, in a region that draws its order. -/
theorem step_store_is {P : Program} {ops : Array Oper} {o : Oper} {a : Act} {K : Act → World → Prop} {Q : Exit → Act → World → Prop} {E : Prop} (w : World) (hgd : o.guard = none) (ty : TypeId) (x y : Operand) (ho : o.op = .store ty x y)
    (g : Nat) (cells : Array Value) (hx : a.eval x = .pointer (some ⟨g, 0, none⟩)) (hy : a.eval y = .agg cells)
    (t : TypeId) (old : Array Value) (hg : Is w g t old) (hi : (P.info? ty).map (·.size) = some cells.size)
    (hold : old.size = cells.size) (h1 : cells.all (·.oneCell') = true)
    (h : ∀ w', Is w' g t cells → Only (fun k => k = g) w w' → K (a.put o.dst undef) w') :
    if Region.wanted o (yielded ops a.tmps) = true then Oper.wp P o a w K Q else E := by
  have hw : Region.wanted o (yielded ops a.tmps) = true := by simp [Region.wanted, hgd]
  rw [if_pos hw]
  exact wp_store_row ty x y ho g cells hx hy t old hg hi hold h1 (h _ (hg.setRow cells) (Only.setRow (S := fun k => k = g) (Only.refl _ w) (fun _ => rfl) cells))

end Go.Proofs.Ytdcclighccejhaa
