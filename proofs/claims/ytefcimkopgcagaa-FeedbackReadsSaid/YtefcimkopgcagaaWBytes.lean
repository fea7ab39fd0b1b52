/- A writer's Bytes of one row, where it stands at a whole byte. Conditions: as it says. -/
import Derived.Test.YtefcimkopgcagaaBitsG
set_option linter.unusedVariables false
namespace Go.Proofs.Ytefcimkopgcagaa
open Go.RowKit

/-- Whole bytes are put behind whole bytes. -/
theorem wrote_bytes {bs d xs : List Nat} (h : Wrote bs d) (h8 : d.length % 8 = 0) (hx : ∀ x ∈ xs, x < 256) : Wrote (bs ++ xs) (d ++ D xs) := by
  have hr := h.rows
  have hd := h.digits
  have e : 8 * bs.length - d.length = 0 := by omega
  rw [e, List.replicate_zero, List.append_nil] at hd
  refine ⟨?_, ?_, fun x hx' => ?_⟩
  · have e2 : 8 * (bs ++ xs).length - (d ++ D xs).length = 0 := by
      rw [List.length_append, List.length_append, D_length]
      omega
    rw [e2, List.replicate_zero, List.append_nil, D_append, hd]
  · rw [List.length_append, List.length_append, D_length, hr]
    omega
  · rcases List.mem_append.1 hx' with h' | h'
    · exact h.bytes x h'
    · exact hx x h'

/-- What is done when the row has grown. -/
theorem wr_grown {w w2 : World} {b B : Nat} {d bs xs : List Nat} {v v' : Value} (h : Wr w b d bs v B) (h8 : d.length % 8 = 0) (hx : ∀ x ∈ xs, x < 256)
    (hown : w2.ownsRow B 5 1 v' (bs.length + xs.length) (cellsOf bs ++ cellsOf xs)) (hg : w.grownBy w2 v.ownBlock) (n : Int) (hn : n = ((d ++ D xs).length : Nat)) :
    Wr ((w2.setCell ⟨b, 0, none⟩ v').setCell ⟨b, 1, none⟩ (.int .i64 n)) b (d ++ D xs) (bs ++ xs) v' B ∧ Only (Mine b v) w ((w2.setCell ⟨b, 0, none⟩ v').setCell ⟨b, 1, none⟩ (.int .i64 n)) := by
  subst hn
  have ho : Only (Mine b v) w w2 := (Only.refl _ w).grown hg (fun i hi _ => .inr hi)
  have his2 : Is w2 b 123 #[v, .int .i64 (d.length : Nat)] := (hg.block b h.is.lt h.apart.symm).trans h.is
  have hvb : v'.ownBlock ≠ some b := by
    intro hk
    rcases hown.2 with ⟨rfl, _⟩ | ⟨g, cap, cur, rfl, _, q2, _⟩
    · simp [Value.ownBlock] at hk
    · have : g = b := by simpa [Value.ownBlock] using hk
      subst this
      exact Is.apart (t := 5) (u := 123) q2 his2 (by decide) rfl
  have hset : Only (fun k => k = b) w2 ((w2.setCell ⟨b, 0, none⟩ v').setCell ⟨b, 1, none⟩ (.int .i64 ((d ++ D xs).length : Nat))) :=
    Only.set (S := fun k => k = b) (p := ⟨b, 1, none⟩) (Only.set (S := fun k => k = b) (p := ⟨b, 0, none⟩) (Only.refl _ w2) (fun _ => rfl) v') (fun _ => rfl) _
  refine ⟨⟨(his2.put 0 v').put 1 _, ?_, wrote_bytes h.wrote h8 hx, h.base⟩, ho.trans hset (fun i _ e => .inl e)⟩
  have := hown
  rw [← cellsOf_append, ← List.length_append] at this
  obtain ⟨q1, q2⟩ := this
  refine ⟨q1, ?_⟩
  rcases q2 with q | ⟨g, cap, cur, r1, r2, r3, r4⟩
  · exact .inl q
  · exact .inr ⟨g, cap, cur, r1, r2, (hset.same g (lt_of_heap r3) (fun e => hvb (by rw [r1, ← e]; rfl))).trans r3, r4⟩

/-- What is answered. -/
def DidBytes (w : World) (b : Nat) (d : List Nat) (v : Value) (B : Nat) (e : Ending) (w' : World) : Prop :=
  e = .returned (ptr b) ∧ ∃ bs' v', Wr w' b d bs' v' B ∧ Only (Mine b v) w w'

set_option maxRecDepth 100000 in
set_option maxHeartbeats 1000000 in
theorem wbytes_one (b B lb cl : Nat) (d bs xs : List Nat) (v vx : Value) (w : World) (h : Wr w b d bs v B) (h8 : d.length % 8 = 0) (hB : B ≤ w.heap.size) (hl : w.cell? ⟨lb, 0, none⟩ = some vx) (hs : Src w vx xs) (hx : ∀ x ∈ xs, x < 256) (hd : d.length ≤ 1000000) (hxl : xs.length ≤ 1000000) :
    Calls Try.prog 46 #[ptr b, .slice (some ⟨lb, 0, none⟩) 1 cl] w (DidBytes w b (d ++ D xs) v B) := by
  obtain ⟨Ax, cx, rfl⟩ := hs.slice
  obtain ⟨Av, cv, rfl, _⟩ := own_slice h.row
  have hrow := h.wrote.rows
  have H := Lib.hid h
  have H8 := Lib.hid h8
  have HS := Lib.hid hs
  have HX := Lib.hid hx
  have c0 := h.is.cell 0
  simp at c0
  have c1 := h.is.cell 1
  simp at c1
  have hb8 : (((d.length : Nat) : Int) % 8 == 0) = true := by simp; omega
  have hbl : bs.length ≤ 1000000 := by omega
  clear h h8 hs hx hrow
  go_enter Try.func46, Try.ntmps46
  go_wp2
  go_loopw [13] (fun i wr => (i = .int .i64 0 ∧ wr = w) ∨ (i = .int .i64 1 ∧ DidBytes w b (d ++ D xs) (.slice Av bs.length cv) B (.returned (ptr b)) wr)) (fun i _ => 1 - (intOf i).toNat)
  case atStart => exact .inl ⟨rfl, rfl⟩
  case round =>
    rcases hrel with ⟨rfl, rfl⟩ | ⟨rfl, hdone⟩
    · go_wp2_with (refine wpList_append_src _ rfl (.tmp 27) (.tmp 28) rfl B _ bs rfl H.out.row _ xs rfl HS.out (by omega) hB ?_)
      intro v' w2 hown hg
      obtain ⟨Av', cv', rfl, _⟩ := own_slice hown
      have his2 : Is w2 b 123 #[.slice Av bs.length cv, .int .i64 (d.length : Nat)] := (hg.block b H.out.is.lt H.out.apart.symm).trans H.out.is
      have e0 := his2.cell 0
      simp at e0
      have e1 := his2.cell 1
      simp at e1
      have f0 := his2.free 0
      have f1 := his2.free 1
      have HO := Lib.hid hown
      have HG := Lib.hid hg
      clear his2 hown hg c0 c1
      go_wp2
      exact ⟨.inr ⟨rfl, rfl, bs ++ xs, _, wr_grown H.out H8.out HX.out HO.out HG.out _ (by rw [List.length_append, D_length]; omega)⟩, by simp [intOf]⟩
    · have HD := Lib.hid hdone
      clear hdone c0 c1
      go_wp2
      go_ret
      exact HD.out
end Go.Proofs.Ytefcimkopgcagaa
