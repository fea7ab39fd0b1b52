/- Put: what is written. Conditions: as each says. -/
import Derived.Test.YtdcclighccejhaaRtpC
import Derived.Test.YtdcclighccejhaaBase
import Derived.Deep.RegionHeld3
import Derived.Deep.DrawnRows
set_option linter.unusedVariables false
namespace Go.Proofs.Ytdcclighccejhaa
open Go.RowKit

/-- Two bytes of a number; one. -/
def b2 (n : Nat) : List Nat := [n / 256 % 256, n % 256]
/-- What is written ahead of contributors. -/
def Pk.head (p : Pk) : List Nat := [p.first, p.second] ++ b2 p.seq ++ b4 p.time ++ b4 p.ssrc
def Pk.tail (p : Pk) : List Nat := if p.hasExt then b2 p.profile ++ b2 (p.ext.length / 4) ++ p.ext else []
/-- What is written. -/
def Pk.enc (p : Pk) : List Nat := p.head ++ p.csrc.flatMap b4 ++ p.tail ++ p.pay ++ padOf p.pad
def Pk.cells (p : Pk) (vc ve vp : Value) : Array Value := #[.bool p.marker, .int .u8 p.ty, .int .u16 p.seq, .int .u32 p.time, .int .u32 p.ssrc, vc, .bool p.hasExt, .int .u16 p.profile, ve, vp, .int .u8 p.pad]
theorem Try.sizePacket : (Try.prog.info? 42).map (·.size) = some 11 := by kernel_rfl

theorem Rd.slice {k : IntKind} {w : World} {v : Value} {zs : List Int} (h : Rd k w v zs) : ∃ A c, v = .slice A zs.length c := by
  obtain ⟨A, c, rfl, _⟩ := h
  exact ⟨A, c, rfl⟩

theorem Out.size {w0 w : World} {ob : Nat} {bs : List Nat} (h : Out w0 w ob bs) : w0.heap.size ≤ w.heap.size := by
  obtain ⟨_, _, _, ho, _⟩ := h
  exact ho.size
theorem Out.is {w0 w : World} {ob b : Nat} {bs : List Nat} {t : TypeId} {cs : Array Value} (h : Out w0 w ob bs) (hi : Is w0 b t cs) : Is w b t cs := by
  obtain ⟨_, _, _, ho, _⟩ := h
  exact hi.only ho (by simp)
theorem Out.pure {w0 w w1 : World} {ob : Nat} {bs : List Nat} (h : Out w0 w ob bs) (ho : Pure w w1) : Out w0 w1 ob bs := by
  obtain ⟨v, hi, hw, hp, hob⟩ := h
  exact ⟨v, hi.only ho (by simp), hw.pure ho (by simp), hp.trans ho (fun _ _ e => e), hob⟩
theorem Out.same {w0 w : World} {ob : Nat} {bs cs : List Nat} (h : Out w0 w ob bs) (e : bs = cs) : Out w0 w ob cs := e ▸ h
theorem out_new {w0 w2 w3 : World} {n : Nat} (ho : Pure w0 w2) (hown : w3.ownsRow w0.heap.size 5 1 (.slice (some ⟨w2.heap.size, 0, none⟩) 0 n) 0 []) (hg : w2.grownBy w3 none) :
    Out w0 (w3.alloc (.cells #[.slice (some ⟨w2.heap.size, 0, none⟩) 0 n] 40)) w3.heap.size [] := by
  have h3 : Pure w0 w3 := ho.grown hg (by simp)
  exact ⟨_, Is.made _ _ _, hown.alloc _, h3.alloc _, h3.size⟩

theorem flat4 (xs : List Nat) : (xs.flatMap b4).length = 4 * xs.length := by
  induction xs with
  | nil => rfl
  | cons x xs ih => rw [List.flatMap_cons, List.length_append, ih, List.length_cons]; simp [b4]; omega
theorem flat4_snoc (k : Nat) (xs : List Nat) (h : k < xs.length) : (xs.take (k + 1)).flatMap b4 = (xs.take k).flatMap b4 ++ b4 xs[k] := by
  rw [List.take_succ_eq_append_getElem h, List.flatMap_append]
  simp
theorem Rd.at_ {k : IntKind} {w : World} {A : Option Addr} {n c : Nat} {zs : List Int} (h : Rd k w (.slice A n c) zs) (hp : 0 < zs.length) : ∃ g o, A = some ⟨g, o, none⟩ ∧ ∀ j (h : j < zs.length), w.cell? ⟨g, o + j, none⟩ = some (.int k zs[j]) := by
  obtain ⟨A', c', e, _, hc⟩ := h
  injection e with e1 e2 e3
  subst e1
  exact hc hp

theorem put_fin {w w0 wx wp wz : World} {vb vz : Value} {bs enc : List Nat} {pd : Nat} (P0 : Pure w w0) (WB : wx.ownsRow w0.heap.size 5 1 vb bs.length (cellsOf bs)) (PB : Pure w0 wx) (hop : Pure wx.drew wp)
    (hoz : wz.ownsRow w0.heap.size 5 1 vz (bs.length + (padOf pd).length) (cellsOf bs ++ cellsOf (padOf pd))) (hgb : wp.grownBy wz vb.ownBlock) (he : enc = bs ++ padOf pd) :
    wz.ownsRow w.heap.size 5 1 vz enc.length (cellsOf enc) ∧ Pure w wz := by
  subst he
  refine ⟨?_, P0.trans (T := fun _ => False) ((PB.drew.trans hop (fun _ _ e => e)).trans (T := fun k => vb.ownBlock = some k) ((Only.refl _ wp).grown hgb (fun i e _ => e)) ?_) (fun _ _ e => e)⟩
  · rw [List.length_append, cellsOf_append]
    exact hoz.low P0.size
  · intro i hi e
    have := (WB.lt i e).1
    omega

theorem Rd.pure {k : IntKind} {w w1 : World} {v : Value} {zs : List Int} (h : Rd k w v zs) (ho : Pure w w1) : Rd k w1 v zs := h.only ho (by simp)
theorem Src.pure {w w1 : World} {v : Value} {bs : List Nat} (h : Src w v bs) (ho : Pure w w1) : Src w1 v bs := h.later ho (by simp)
end Go.Proofs.Ytdcclighccejhaa
