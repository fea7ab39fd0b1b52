/- easellaw07.ref: a message told anew. Conditions: as it says. -/
import Derived.Test.YtefcimkopgcagaaFcB
set_option linter.unusedVariables false
namespace Go.Proofs.Ytefcimkopgcagaa
open Go.RowKit

theorem Try.infoRo : (Try.prog.info? 86).map (fun i => (i.zero, i.size, i.bytes)) = some (some (.agg #[.int .u32 0, .int .u8 0]), 2, 8) := by kernel_rfl
theorem sty_ro : Sty 31 86 2 8 := by
  obtain ⟨i0, hi, hz0, hz1, hz2⟩ := info_parts Try.infoRo
  exact ⟨Try.underlying31, ⟨i0, _, hi, hz0, hz1, hz2, rfl⟩, by decide⟩
def OwnO (B : Nat) (v : Value) (l : List Od) (w : World) : Prop := OwnS w B 86 2 v (l.map Od.lst)
theorem OwnO.only {B : Nat} {v : Value} {l : List Od} {w w1 : World} {S : Nat → Prop} (h : OwnO B v l w) (ho : Only S w w1) (hs : ∀ k, v.ownBlock = some k → ¬ S k) : OwnO B v l w1 := OwnS.only h ho hs
theorem OwnO.nil (w : World) (B : Nat) : OwnO B (.slice none 0 0) [] w := OwnS.nil w B 86 2
theorem OwnO.slice {B : Nat} {v : Value} {l : List Od} {w : World} (h : OwnO B v l w) : ∃ A c, v = .slice A l.length c ∧ l.length ≤ c := by
  obtain ⟨A, c, rfl, hc⟩ := OwnS.slice h
  rw [List.length_map] at hc ⊢
  exact ⟨A, c, rfl, hc⟩
theorem OwnO.rd {B : Nat} {v : Value} {l : List Od} {w : World} (h : OwnO B v l w) : RdO w v l := by
  obtain ⟨A, c, rfl, hc⟩ := OwnS.slice h
  rw [List.length_map] at hc ⊢
  refine ⟨A, c, rfl, hc, fun hp => ?_⟩
  obtain ⟨g, c', e, -, -, -, hcell⟩ := OwnS.at_ h (by simpa using hp)
  injection e with e1
  subst e1
  refine ⟨g, 0, rfl, fun i p hi => ?_⟩
  have h0 := hcell i 0 p.lst (by simp [hi]) (by omega)
  have h1 := hcell i 1 p.lst (by simp [hi]) (by omega)
  rw [Nat.add_zero] at h0
  exact ⟨by rw [Nat.zero_add]; exact h0, by rw [Nat.zero_add]; exact h1⟩
theorem Ms.one (m : Ms) {vp vo vs : Value} (h1 : ∃ A n c, vp = .slice A n c) (h2 : ∃ A n c, vo = .slice A n c) (h3 : ∃ A n c, vs = .slice A n c) : (m.cls vp vo vs).all (·.oneCell') = true := by
  obtain ⟨_, _, _, rfl⟩ := h1
  obtain ⟨_, _, _, rfl⟩ := h2
  obtain ⟨_, _, _, rfl⟩ := h3
  simp [Ms.cls, Value.oneCell']
theorem Try.sizeRme : (Try.prog.info? 33).map (·.size) = some 8 := by kernel_rfl
end Go.Proofs.Ytefcimkopgcagaa
