/- A descriptor, plainly; a visitor, as the walks over vp8 know it: what takes, and what puts. Conditions: as each says. -/
import Derived.Test.YtneogagainllnaaBitsG
import Derived.Test.YtneogagainllnaaStep
import Derived.Test.YtneogagainllnaaReg
set_option linter.unusedVariables false
namespace Go.Proofs.Ytneogagainllnaa
open Go.RowKit

/-- A descriptor, plainly. -/
structure Dv where
  n : Bool
  start : Bool
  part : Nat
  hasPic : Bool
  long : Bool
  pic : Nat
  hasTl0 : Bool
  tl0 : Nat
  hasTid : Bool
  tid : Nat
  sync : Bool
  hasKey : Bool
  key : Nat
def Dv.cells (d : Dv) : Array Value := #[.bool d.n, .bool d.start, .int .u8 d.part, .bool d.hasPic, .bool d.long, .int .u16 d.pic, .bool d.hasTl0, .int .u8 d.tl0, .bool d.hasTid, .int .u8 d.tid, .bool d.sync, .bool d.hasKey, .int .u8 d.key]
def Dv.val (d : Dv) : Value := .agg d.cells
def Dv.zero : Dv := ⟨false, false, 0, false, false, 0, false, 0, false, 0, false, false, 0⟩
structure Dv.Fit (d : Dv) : Prop where
  part : d.part < 256
  pic : d.pic < 65536
  tl0 : d.tl0 < 256
  tid : d.tid < 256
  key : d.key < 256

/-- A visitor, plainly: what it answers, and what it is then. -/
structure Vis (σ : Type) where
  fl : σ → Bool → Bool
  fs : σ → Bool → σ
  nm : σ → Nat → Nat → Nat
  ns : σ → Nat → Nat → σ
  rs : σ → Nat → σ

/-- What a visitor's call does to memory: blocks of B on; no descriptor. -/
def Gone (B : Nat) (w w' : World) : Prop := Only (fun k => B ≤ k) w w' ∧ ∀ c cs, Is w c 31 cs → Is w' c 31 cs
theorem Gone.refl (B : Nat) (w : World) : Gone B w w := ⟨Only.refl _ _, fun _ _ h => h⟩
theorem Gone.drew {B : Nat} {w w1 : World} (h : Gone B w w1) : Gone B w w1.drew := ⟨h.1.drew, h.2⟩
theorem Gone.trans {B : Nat} {w w1 w2 : World} (h : Gone B w w1) (k : Gone B w1 w2) : Gone B w w2 := ⟨h.1.trans k.1 (fun _ _ e => e), fun c cs hc => k.2 c cs (h.2 c cs hc)⟩

/-- A visitor: its three calls are those of V. -/
structure Visitor (ff fn fr : FuncId) (rx : Value) (B : Nat) {σ : Type} (V : Vis σ) (room : σ → Nat → Prop) (St : World → σ → Prop) : Prop where
  flag : ∀ w s x, St w s → room s 1 → Calls Try.prog ff #[rx, .bool x] w fun e w' => e = .returned (.bool (V.fl s x)) ∧ St w' (V.fs s x) ∧ Gone B w w'
  number : ∀ w s (n k : Nat), St w s → room s 1 → n < 65536 → k ≤ 16 → Calls Try.prog fn #[rx, .int .u16 n, .int .i64 k] w fun e w' => e = .returned (.int .u16 (V.nm s n k : Nat)) ∧ St w' (V.ns s n k) ∧ Gone B w w'
  reserved : ∀ w s (k : Nat), St w s → room s 1 → k ≤ 16 → Calls Try.prog fr #[rx, .int .i64 k] w fun e w' => e = .returned (.tuple #[]) ∧ St w' (V.rs s k) ∧ Gone B w w'
  alloc : ∀ w s o, St w s → St (w.alloc o) s
  drew : ∀ w s, St w s → St w.drew s
  far : ∀ w w' s c cs, St w s → Is w c 31 cs → Only (fun k => k = c) w w' → St w' s
  fits : ∀ s (n k : Nat), n < 65536 → k ≤ 16 → V.nm s n k < 65536
  room1 : ∀ s m, room s (m + 1) → room s 1
  roomd : ∀ s m, room s (m + 1) → room s m
  roomf : ∀ s x m, room s (m + 1) → room (V.fs s x) m
  roomn : ∀ s n k m, k ≤ 16 → room s (m + 1) → room (V.ns s n k) m
  roomr : ∀ s k m, k ≤ 16 → room s (m + 1) → room (V.rs s k) m

/-! ### What takes -/
/-- A number, or 0 if the reader fails; what the reader is then. -/
def tkNum (bs : List Nat) (s : Nat × Int) (n : Nat) : Nat := if s.2 = 0 ∧ s.1 + n ≤ 8 * bs.length then num bs s.1 n else 0
def tkSt (bs : List Nat) (s : Nat × Int) (n : Nat) : Nat × Int := if s.2 ≠ 0 then s else if s.1 + n ≤ 8 * bs.length then (s.1 + n, 0) else (s.1, 10)

theorem take_any (b p n : Nat) (bs : List Nat) (f : Int) (v : Value) (w : World) (h : Rdr w b bs p f v) (hn : n ≤ 64) :
    Calls Try.prog 63 #[ptr b, .int .i64 n] w (Took w b bs (tkSt bs (p, f) n).1 (tkSt bs (p, f) n).2 v (tkNum bs (p, f) n : Nat)) := by
  have hpl := h.place
  by_cases hf : f = 0
  · subst hf
    by_cases hp : p + n ≤ 8 * bs.length
    · simp only [tkSt, tkNum, hp, if_true, ne_eq, not_true_eq_false, if_false, and_self]
      exact take_ok b p n bs v w h hn hp
    · simp only [tkSt, tkNum, hp, if_false, ne_eq, not_true_eq_false, and_false]
      refine take_fail b p bs 0 n 10 v w h ?_ (by decide)
      unfold asked
      rw [if_neg (by simp), if_neg (by omega), Nat.div_one, if_pos (by omega)]
  · simp only [tkSt, tkNum, hf, ne_eq, not_false_eq_true, if_true, false_and, if_false]
    refine take_fail b p bs f n f v w h ?_ hf
    unfold asked
    rw [if_pos hf]
theorem flag_any (b p : Nat) (bs : List Nat) (f : Int) (v : Value) (w : World) (h : Rdr w b bs p f v) :
    Calls Try.prog 59 #[ptr b] w fun e w' => e = .returned (.bool (tkNum bs (p, f) 1 == 1)) ∧ Rdr w' b bs (tkSt bs (p, f) 1).1 (tkSt bs (p, f) 1).2 v ∧ Only (fun k => k = b) w w' := by
  have hpl := h.place
  by_cases hf : f = 0
  · subst hf
    by_cases hp : p + 1 ≤ 8 * bs.length
    · simp only [tkSt, tkNum, hp, if_true, ne_eq, not_true_eq_false, if_false, and_self]
      exact flag_ok b p bs v w h hp
    · simp only [tkSt, tkNum, hp, if_false, ne_eq, not_true_eq_false, and_false]
      refine flag_fail b p bs 0 10 v w h ?_ (by decide)
      unfold asked
      rw [if_neg (by simp), if_neg (by omega), Nat.div_one, if_pos (by omega)]
  · simp only [tkSt, tkNum, hf, ne_eq, not_false_eq_true, if_true, false_and, if_false]
    refine flag_fail b p bs f f v w h ?_ hf
    unfold asked
    rw [if_pos hf]
theorem skip_any (b p n : Nat) (bs : List Nat) (f : Int) (v : Value) (w : World) (h : Rdr w b bs p f v) (hn : n ≤ 64) :
    Calls Try.prog 64 #[ptr b, .int .i64 n] w fun e w' => e = .returned (.tuple #[]) ∧ Rdr w' b bs (tkSt bs (p, f) n).1 (tkSt bs (p, f) n).2 v ∧ Only (fun k => k = b) w w' := by
  have hpl := h.place
  by_cases hf : f = 0
  · subst hf
    by_cases hp : p + n ≤ 8 * bs.length
    · simp only [tkSt, hp, if_true, ne_eq, not_true_eq_false, if_false]
      exact skip_ok b p n bs v w h hp
    · simp only [tkSt, hp, if_false, ne_eq, not_true_eq_false]
      refine skip_fail b p bs 0 n 10 v w h ?_ (by decide)
      unfold asked
      rw [if_neg (by simp), if_neg (by omega), Nat.div_one, if_pos (by omega)]
  · simp only [tkSt, hf, ne_eq, not_false_eq_true, if_true]
    refine skip_fail b p bs f n f v w h ?_ hf
    unfold asked
    rw [if_pos hf]

/-- The visitor that takes. -/
def Vt (bs : List Nat) : Vis (Nat × Int) where
  fl s _ := tkNum bs s 1 == 1
  fs s _ := tkSt bs s 1
  nm s _ k := tkNum bs s k
  ns s _ k := tkSt bs s k
  rs s k := tkSt bs s k
theorem tkNum_lt (bs : List Nat) (s : Nat × Int) (k : Nat) : tkNum bs s k < 2 ^ k := by
  unfold tkNum
  split
  · exact num_lt bs _ _
  · exact Nat.two_pow_pos k
theorem tk_u16 (bs : List Nat) (s : Nat × Int) (k : Nat) (hk : k ≤ 16) : tkNum bs s k < 65536 :=
  Nat.lt_of_lt_of_le (tkNum_lt bs s k) (Nat.le_trans (Nat.pow_le_pow_right (by omega) hk) (by decide))
theorem row_apart {w : World} {ob B n : Nat} {t u : TypeId} {cs : Array Value} {v : Value} {xs : List Value} (hI : Is w ob u cs) (hW : w.ownsRow B t 1 v n xs) (hne : t ≠ u) : v.ownBlock ≠ some ob := by
  intro hk
  rcases hW.2 with ⟨rfl, _⟩ | ⟨g, cap, cur, rfl, _, q2, _⟩
  · simp [Value.ownBlock] at hk
  · have : g = ob := by simpa [Value.ownBlock] using hk
    subst this
    exact Is.apart (t := t) (u := u) q2 hI hne rfl

section
variable {b B : Nat} {bs : List Nat} {v : Value}
theorem Rdr.pure {w w' : World} {p : Nat} {f : Int} (h : Rdr w b bs p f v) (ho : Only (fun _ => False) w w') : Rdr w' b bs p f v := h.only ho (by simp) (by simp)
theorem gone_rdr {w w' : World} {p : Nat} {f : Int} (hB : B ≤ b) (h : Rdr w b bs p f v) (ho : Only (fun k => k = b) w w') : Gone B w w' :=
  ⟨ho.mono (fun i _ e => by rw [e]; exact hB), fun c cs hc => hc.only ho (fun e => Is.apart (t := 67) (u := 31) h.is hc (by decide) e.symm)⟩

set_option maxHeartbeats 400000 in
theorem taker_flag (w : World) (s : Nat × Int) (x : Bool) (h : Rdr w b bs s.1 s.2 v) :
    Calls Try.prog 60 #[.agg #[ptr b], .bool x] w fun e w' => e = .returned (.bool ((Vt bs).fl s x)) ∧ Rdr w' b bs ((Vt bs).fs s x).1 ((Vt bs).fs s x).2 v ∧ Only (fun k => k = b) w w' := by
  have H := Lib.hid h
  clear h
  go_enter Try.func60, Try.ntmps60
  go_wp2_with fail
  refine (flag_any b s.1 bs s.2 v _ (H.out.pure ((Only.refl _ w).alloc _))).mono ?_
  rintro e w1 ⟨rfl, h1, ho⟩
  have H1 := Lib.hid h1
  have HO := Lib.hid ho
  clear h1 ho
  go_wp2
  go_ret
  exact ⟨rfl, H1.out, ((Only.refl _ w).alloc _).trans HO.out (fun _ _ e => e)⟩
set_option maxHeartbeats 400000 in
theorem taker_number (w : World) (s : Nat × Int) (n k : Nat) (h : Rdr w b bs s.1 s.2 v) (hk : k ≤ 16) :
    Calls Try.prog 61 #[.agg #[ptr b], .int .u16 n, .int .i64 k] w fun e w' => e = .returned (.int .u16 ((Vt bs).nm s n k : Nat)) ∧ Rdr w' b bs ((Vt bs).ns s n k).1 ((Vt bs).ns s n k).2 v ∧ Only (fun k => k = b) w w' := by
  have HT := Lib.hid (take_any b s.1 k bs s.2 v _ (h.pure ((Only.refl _ w).alloc (.cells #[ptr b] 56))) (by omega))
  have hlt := tk_u16 bs s k hk
  simp only [Vt]
  have e1 : tkNum bs (s.1, s.2) k = tkNum bs s k := rfl
  rw [e1] at HT
  clear h hk e1
  generalize tkNum bs s k = x at *
  go_enter Try.func61, Try.ntmps61
  go_wp2_with fail
  refine HT.out.mono ?_
  rintro e w1 ⟨rfl, h1, ho⟩
  have H1 := Lib.hid h1
  have HO := Lib.hid ho
  clear h1 ho
  go_wp2
  go_ret
  exact ⟨rfl, H1.out, ((Only.refl _ w).alloc _).trans HO.out (fun _ _ e => e)⟩
set_option maxHeartbeats 400000 in
theorem taker_reserved (w : World) (s : Nat × Int) (k : Nat) (h : Rdr w b bs s.1 s.2 v) (hk : k ≤ 16) :
    Calls Try.prog 62 #[.agg #[ptr b], .int .i64 k] w fun e w' => e = .returned (.tuple #[]) ∧ Rdr w' b bs ((Vt bs).rs s k).1 ((Vt bs).rs s k).2 v ∧ Only (fun k => k = b) w w' := by
  have HT := Lib.hid (skip_any b s.1 k bs s.2 v _ (h.pure ((Only.refl _ w).alloc (.cells #[ptr b] 56))) (by omega))
  clear h hk
  go_enter Try.func62, Try.ntmps62
  go_wp2_with fail
  refine HT.out.mono ?_
  rintro e w1 ⟨rfl, h1, ho⟩
  have H1 := Lib.hid h1
  have HO := Lib.hid ho
  clear h1 ho
  go_wp2
  go_end0
  exact ⟨rfl, H1.out, ((Only.refl _ w).alloc _).trans HO.out (fun _ _ e => e)⟩

theorem visitor_taker (hB : B ≤ b) : Visitor 60 61 62 (.agg #[ptr b]) B (Vt bs) (fun _ _ => True) (fun w s => Rdr w b bs s.1 s.2 v) where
  flag w s x h _ := (taker_flag w s x h).mono fun e w' ⟨h1, h2, h3⟩ => ⟨h1, h2, gone_rdr hB h h3⟩
  number w s n k h _ _ hk := (taker_number w s n k h hk).mono fun e w' ⟨h1, h2, h3⟩ => ⟨h1, h2, gone_rdr hB h h3⟩
  reserved w s k h _ hk := (taker_reserved w s k h hk).mono fun e w' ⟨h1, h2, h3⟩ => ⟨h1, h2, gone_rdr hB h h3⟩
  alloc w s o h := h.pure ((Only.refl _ w).alloc o)
  drew w s h := h.drewN 1
  far w w' s c cs h hc ho := h.only ho (fun e => Is.apart (t := 67) (u := 31) h.is hc (by decide) e) (fun k hk e => row_apart hc h.row (by decide) (by rw [hk, e]))
  fits s n k hn hk := tk_u16 bs s k hk
  room1 _ _ _ := trivial
  roomd _ _ _ := trivial
  roomf _ _ _ _ := trivial
  roomn _ _ _ _ _ _ := trivial
  roomr _ _ _ _ _ := trivial
end
end Go.Proofs.Ytneogagainllnaa
