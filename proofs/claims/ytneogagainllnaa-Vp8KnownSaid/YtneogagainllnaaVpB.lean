/- The visitor that puts. Conditions: as each says. -/
import Derived.Test.YtneogagainllnaaVpA
set_option linter.unusedVariables false
namespace Go.Proofs.Ytneogagainllnaa
open Go.RowKit

/-- The visitor that puts: what it is are the digits that were put. -/
def Vp : Vis (List Nat) where
  fl _ x := x
  fs d x := d ++ [bit x]
  nm _ n _ := n
  ns d n k := d ++ digs k n
  rs d k := d ++ digs k 0
def roomP (d : List Nat) (m : Nat) : Prop := d.length + 64 * m ≤ 1000000
def StP (b B : Nat) (w : World) (d : List Nat) : Prop := B ≤ w.heap.size ∧ ∃ bs v, Wr w b d bs v B

theorem own_only {w w1 : World} {B n : Nat} {t : TypeId} {v : Value} {xs : List Value} (h : w.ownsRow B t 1 v n xs) {S : Nat → Prop} (ho : Only S w w1) (hs : ∀ k, v.ownBlock = some k → ¬ S k) : w1.ownsRow B t 1 v n xs := by
  refine ⟨h.1, ?_⟩
  rcases h.2 with q | ⟨g, cap, cur, r1, r2, r3, r4⟩
  · exact .inl q
  · exact .inr ⟨g, cap, cur, r1, r2, (ho.same g (lt_of_heap r3) (hs g (by rw [r1]; rfl))).trans r3, r4⟩
section
variable {b B : Nat}
theorem gone_wr {w w' : World} {d bs : List Nat} {v : Value} (h : Wr w b d bs v B) (ho : Only (Mine b v) w w') : Gone B w w' := by
  have hm : ∀ i, Mine b v i → B ≤ i := fun i hi => by
    rcases hi with rfl | hi
    · exact h.base
    · exact (h.row.lt i hi).1
  exact ⟨ho.mono (fun i _ e => hm i e), fun c cs hc => hc.only ho (fun e => by
    rcases e with rfl | e
    · exact Is.apart (t := 75) (u := 31) h.is hc (by decide) rfl
    · exact row_apart hc h.row (by decide) e)⟩
theorem did_stp {w w' : World} {d d' bs : List Nat} {v : Value} {e : Ending} (h : Wr w b d bs v B) (hB : B ≤ w.heap.size) (k : DidPut w b d' v B e w') : e = .returned (ptr b) ∧ StP b B w' d' ∧ Gone B w w' := by
  obtain ⟨he, bs', v', hw, _, ho⟩ := k
  exact ⟨he, ⟨Nat.le_trans hB ho.size, bs', v', hw⟩, gone_wr h ho⟩
theorem StP.alloc {w : World} {d : List Nat} (h : StP b B w d) (o : Obj) : StP b B (w.alloc o) d := by
  obtain ⟨hB, bs, v, hw⟩ := h
  exact ⟨by simp; omega, bs, v, ⟨hw.is.alloc o, hw.row.alloc o, hw.wrote, hw.base⟩⟩
theorem Gone.alloc (B : Nat) (w : World) (o : Obj) : Gone B w (w.alloc o) := ⟨(Only.refl _ w).alloc o, fun c cs hc => hc.alloc o⟩

theorem put_stp (w : World) (d : List Nat) (x : Nat) (dg : Int) (h : StP b B w d) (hr : roomP d 1) (hx : x < 18446744073709551616) :
    Calls Try.prog 38 #[ptr b, .int .u64 x, .int .i64 dg] w fun e w' => e = .returned (ptr b) ∧ StP b B w' (d ++ digs (clamp dg) x) ∧ Gone B w w' := by
  obtain ⟨hB, bs, v, hw⟩ := h
  exact (put_is b B x dg d bs v w hw hB hx (by unfold roomP at hr; omega)).mono fun e w' k => did_stp hw hB k
theorem flag_stp (w : World) (d : List Nat) (x : Bool) (h : StP b B w d) (hr : roomP d 1) :
    Calls Try.prog 69 #[ptr b, .bool x] w fun e w' => e = .returned (ptr b) ∧ StP b B w' (d ++ [bit x]) ∧ Gone B w w' := by
  obtain ⟨hB, bs, v, hw⟩ := h
  exact (wflag_is b B x d bs v w hw hB (by unfold roomP at hr; omega)).mono fun e w' k => did_stp hw hB k
theorem clamp_of (k : Nat) (h : k ≤ 64) : clamp (k : Int) = k := by unfold clamp; omega

set_option maxHeartbeats 400000 in
theorem putter_flag (w : World) (d : List Nat) (x : Bool) (h : StP b B w d) (hr : roomP d 1) :
    Calls Try.prog 66 #[.agg #[ptr b], .bool x] w fun e w' => e = .returned (.bool x) ∧ StP b B w' (d ++ [bit x]) ∧ Gone B w w' := by
  have H := Lib.hid (flag_stp _ d x (h.alloc (.cells #[ptr b] 63)) hr)
  clear h hr
  go_enter Try.func66, Try.ntmps66
  go_wp2_with fail
  refine H.out.mono ?_
  rintro e w1 ⟨rfl, h1, ho⟩
  have H1 := Lib.hid h1
  have HO := Lib.hid ho
  clear h1 ho
  go_wp2
  go_ret
  exact ⟨rfl, H1.out, (Gone.alloc B w _).trans HO.out⟩
set_option maxHeartbeats 400000 in
theorem putter_number (w : World) (d : List Nat) (n k : Nat) (h : StP b B w d) (hr : roomP d 1) (hn : n < 65536) (hk : k ≤ 16) :
    Calls Try.prog 67 #[.agg #[ptr b], .int .u16 n, .int .i64 k] w fun e w' => e = .returned (.int .u16 n) ∧ StP b B w' (d ++ digs k n) ∧ Gone B w w' := by
  have H := Lib.hid (put_stp _ d n k (h.alloc (.cells #[ptr b] 63)) hr (by omega))
  rw [clamp_of k (by omega)] at H
  clear h hr
  go_enter Try.func67, Try.ntmps67
  go_wp2_with fail
  refine H.out.mono ?_
  rintro e w1 ⟨rfl, h1, ho⟩
  have H1 := Lib.hid h1
  have HO := Lib.hid ho
  clear h1 ho
  go_wp2
  go_ret
  exact ⟨rfl, H1.out, (Gone.alloc B w _).trans HO.out⟩
set_option maxHeartbeats 400000 in
theorem putter_reserved (w : World) (d : List Nat) (k : Nat) (h : StP b B w d) (hr : roomP d 1) (hk : k ≤ 16) :
    Calls Try.prog 68 #[.agg #[ptr b], .int .i64 k] w fun e w' => e = .returned (.tuple #[]) ∧ StP b B w' (d ++ digs k 0) ∧ Gone B w w' := by
  have H := Lib.hid (put_stp _ d 0 k (h.alloc (.cells #[ptr b] 63)) hr (by omega))
  rw [clamp_of k (by omega)] at H
  clear h hr
  go_enter Try.func68, Try.ntmps68
  go_wp2_with fail
  refine H.out.mono ?_
  rintro e w1 ⟨rfl, h1, ho⟩
  have H1 := Lib.hid h1
  have HO := Lib.hid ho
  clear h1 ho
  go_wp2
  go_end0
  exact ⟨rfl, H1.out, (Gone.alloc B w _).trans HO.out⟩

theorem StP.far {w w' : World} {d : List Nat} {c : Nat} {cs : Array Value} (h : StP b B w d) (hc : Is w c 31 cs) (ho : Only (fun k => k = c) w w') : StP b B w' d := by
  obtain ⟨hB, bs, v, hw⟩ := h
  have hn : ∀ k, v.ownBlock = some k → ¬ k = c := fun k hk e => row_apart hc hw.row (by decide) (by rw [hk, e])
  refine ⟨Nat.le_trans hB ho.size, bs, v, hw.is.only ho (fun e => Is.apart (t := 75) (u := 31) hw.is hc (by decide) e), ?_, hw.wrote, hw.base⟩
  exact own_only hw.row ho hn
theorem visitor_putter : Visitor 66 67 68 (.agg #[ptr b]) B Vp roomP (StP b B) where
  flag w s x h hr := putter_flag w s x h hr
  number w s n k h hr hn hk := putter_number w s n k h hr hn hk
  reserved w s k h hr hk := putter_reserved w s k h hr hk
  alloc w s o h := h.alloc o
  drew w s h := ⟨h.1, h.2.elim fun bs ⟨v, hw⟩ => ⟨bs, v, hw.drew⟩⟩
  far w w' s c cs h hc ho := h.far hc ho
  fits s n k hn _ := hn
  room1 s m h := by unfold roomP at *; omega
  roomd s m h := by unfold roomP at *; omega
  roomf s x m h := by unfold roomP at *; simp [Vp]; omega
  roomn s n k m hk h := by unfold roomP at *; simp only [Vp, List.length_append, digs_length]; omega
  roomr s k m hk h := by unfold roomP at *; simp only [Vp, List.length_append, digs_length]; omega
end
end Go.Proofs.Ytneogagainllnaa
