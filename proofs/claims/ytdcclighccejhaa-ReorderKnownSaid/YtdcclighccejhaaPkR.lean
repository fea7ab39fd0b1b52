/- Packets that can be read. Conditions: as each says. -/
import Derived.Test.YtdcclighccejhaaMkE
import Derived.Test.YtdcclighccejhaaRpC
import Derived.Test.YtdcclighccejhaaRpD
import Derived.Test.YtdcclighccejhaaRtpL
set_option linter.unusedVariables false
namespace Go.Proofs.Ytdcclighccejhaa
open Go.RowKit

/-- A packet that can be read. -/
structure RdPk (p : Pk) (vc ve vp : Value) (w : World) : Prop where
  c : Rd .u32 w vc (nats p.csrc)
  e : Src w ve p.ext
  p : Src w vp p.pay
  s : isSl vc
theorem RdPk.only {p : Pk} {vc ve vp : Value} {w w' : World} (h : RdPk p vc ve vp w) (ho : Only (fun _ => False) w w') : RdPk p vc ve vp w' := ⟨h.c.only ho (by simp), h.e.of_only ho, h.p.of_only ho, h.s⟩
theorem src_isSl {w : World} {v : Value} {bs : List Nat} (h : Src w v bs) : isSl v := by
  obtain ⟨A, c, rfl⟩ := h.slice
  exact ⟨_, _, _, rfl⟩
theorem RdPk.far {p : Pk} {vc ve vp : Value} {w w' : World} {g : Nat} (h : RdPk p vc ve vp w) (ho : Only (fun k => k = g) w w') (h1 : vc.ownBlock ≠ some g) (h2 : ve.ownBlock ≠ some g) (h3 : vp.ownBlock ≠ some g) : RdPk p vc ve vp w' :=
  ⟨h.c.only ho (fun k hk e => h1 (by rw [hk, e])), h.e.only ho (fun k hk e => h2 (by rw [hk, e])), h.p.only ho (fun k hk e => h3 (by rw [hk, e])), h.s⟩
theorem OwnPk.rd {B : Nat} {p : Pk} {vc ve vp : Value} {w : World} (h : OwnPk B p vc ve vp w) : RdPk p vc ve vp w := ⟨own32_rd h.1, Src.of_own h.2.1, Src.of_own h.2.2, own_isSl h.1⟩
theorem own_nil {w : World} {B n : Nat} {t : TypeId} {v : Value} {xs : List Value} (h : w.ownsRow B t 1 v n xs) : v = .slice none 0 0 ∨ ∃ ad n c, v = .slice (some ad) n c := by
  rcases h.2 with ⟨rfl, rfl⟩ | ⟨g, cap, cur, rfl, _⟩
  · exact .inl rfl
  · exact .inr ⟨_, _, _, rfl⟩
/-- A packet told anew. -/
def GotRd (p : Pk) (w : World) (e : Ending) (w' : World) : Prop := ∃ vc ve vp, e = .returned (.agg (p.cls vc ve vp)) ∧ RdPk p vc ve vp w' ∧ Only (fun _ => False) w w'
theorem docs_rd (p : Pk) (vc ve vp : Value) (w : World) (hn0 : vc = .slice none 0 0 ∨ ∃ ad n c, vc = .slice (some ad) n c) (h : RdPk p vc ve vp w) (hl : p.csrc.length ≤ 1000 ∧ p.ext.length ≤ 1000000 ∧ p.pay.length ≤ 1000000) :
    Calls Try.prog 26 #[.agg (p.cls vc ve vp)] w (GotRd p w) := by
  refine (docs_packet p vc ve vp w hn0 h.c h.e h.p hl).mono ?_
  rintro e w' ⟨a, b, c, rfl, h1, h2, h3, ho⟩
  exact ⟨a, b, c, rfl, OwnPk.rd (B := w.heap.size) ⟨h1, h2, h3⟩, ho⟩
theorem same_rd (p : Pk) (c1 e1 p1 c2 e2 p2 : Value) (w : World) (h1 : RdPk p c1 e1 p1 w) (h2 : RdPk p c2 e2 p2 w) (hl : p.csrc.length ≤ 1000 ∧ p.ext.length ≤ 1000000 ∧ p.pay.length ≤ 1000000) :
    Calls Try.prog 39 #[.agg (p.cls c1 e1 p1), .agg (p.cls c2 e2 p2)] w fun e w' => e = .returned (.bool true) ∧ Only (fun _ => False) w w' :=
  rsame_pk p c1 e1 p1 c2 e2 p2 w h1.c h2.c h1.e h2.e h1.p h2.p hl
end Go.Proofs.Ytdcclighccejhaa
