/- feedback.Put of any message that is right. Conditions: as it says. -/
import Derived.Test.YtoibllmijkggnaaFcK
set_option linter.unusedVariables false
namespace Go.Proofs.Ytoibllmijkggnaa
open Go.RowKit

def kdOf (s : Nat) : Nat := if s = 1 then 205 else 206
def ctOf (s : Nat) : Nat := if s = 3 then 4 else if s = 4 then 15 else 1
def nmOf (s : Nat) : ByteArray := if s = 4 then ⟨#[82, 69, 77, 66]⟩ else ⟨#[]⟩
def partD (m : Ms) : List Nat := if m.sort = 1 then m.pairs.flatMap pairD else if m.sort = 3 then m.orders.flatMap orderD else if m.sort = 4 then rateD m else []
/-- The digits of a message's body. -/
def putD (m : Ms) : List Nat := headD m.sender m.media (nmOf m.sort) ++ partD m
/-- What a message may hold. -/
structure MFit (m : Ms) : Prop where
  sort : m.sort < 256
  snd : m.sender < 4294967296
  med : m.media < 4294967296
  exp : m.exp < 256
  mant : m.mant < 4294967296
  pairs : ∀ p ∈ m.pairs, p.Fit
  orders : ∀ p ∈ m.orders, p.Fit
  srcs : ∀ x ∈ m.srcs, x < 4294967296
theorem fput_yes (m : Ms) (p1 o1 s1 : Value) (w : World) (h1 : RdM m p1 o1 s1 w) (hl : m.pairs.length ≤ 1000 ∧ m.orders.length ≤ 1000 ∧ m.srcs.length ≤ 1000) (hf : MFit m) (hok : rightMs m = true) :
    Calls Try.prog 12 #[.agg (m.cls p1 o1 s1)] w (Putted m (ctOf m.sort) (kdOf m.sort) (putD m) w) := by
  have hs : m.sort = 1 ∨ m.sort = 2 ∨ m.sort = 3 ∨ m.sort = 4 := by
    unfold rightMs okMs at hok
    have := of_decide_eq_true hok
    omega
  unfold putD partD
  rcases hs with h | h | h | h
  · have := fput_sort m p1 o1 s1 w 69 1 205 ⟨#[]⟩ (m.pairs.flatMap pairD) h1 hl hf.mant hf.exp ⟨hf.snd, hf.med⟩ hok (by omega) (by omega) (by rw [h]; rfl) (by rw [h]; rfl) (by rw [h]; rfl) (by rw [h]; rfl) (by decide)
      (fun b B d wB w hP hr hB hd => putpairs_is m p1 o1 s1 b B d wB w hP hr.p hB hf.pairs (by omega) hd) (by rw [pairsD_len]; omega) fput_1
    rw [h]
    exact this
  · have := fput_sort m p1 o1 s1 w 71 1 206 ⟨#[]⟩ [] h1 hl hf.mant hf.exp ⟨hf.snd, hf.med⟩ hok (by omega) (by omega) (by rw [h]; rfl) (by rw [h]; rfl) (by rw [h]; rfl) (by rw [h]; rfl) (by decide)
      (fun b B d wB w hP hr hB hd => (putnothing_is _ _ _).mono fun e w' q => ⟨q.1, by rw [List.append_nil]; exact hP.go q.2⟩) (by simp) fput_2
    rw [h]
    exact this
  · have := fput_sort m p1 o1 s1 w 73 4 206 ⟨#[]⟩ (m.orders.flatMap orderD) h1 hl hf.mant hf.exp ⟨hf.snd, hf.med⟩ hok (by omega) (by omega) (by rw [h]; rfl) (by rw [h]; rfl) (by rw [h]; rfl) (by rw [h]; rfl) (by decide)
      (fun b B d wB w hP hr hB hd => putorders_is m p1 o1 s1 b B d wB w hP hr.o hB hf.orders (by omega) hd) (by rw [ordersD_len]; omega) fput_3
    rw [h]
    exact this
  · have := fput_sort m p1 o1 s1 w 75 15 206 ⟨#[82, 69, 77, 66]⟩ (rateD m) h1 hl hf.mant hf.exp ⟨hf.snd, hf.med⟩ hok (by omega) (by omega) (by rw [h]; rfl) (by rw [h]; rfl) (by rw [h]; rfl) (by rw [h]; rfl) (by decide)
      (fun b B d wB w hP hr hB hd => putrate_is m p1 o1 s1 b B d wB w hP hr.s hB hf.srcs ⟨hf.exp, hf.mant⟩ (by omega) hd) (by unfold rateD; simp only [List.length_append, digs_length, srcsD_len]; omega) fput_4
    rw [h]
    exact this
end Go.Proofs.Ytoibllmijkggnaa
