/- Parse, as a walk. Conditions: as each says. -/
import Derived.Test.YtdcclighccejhaaRtpG
import Derived.Test.YtdcclighccejhaaBase
set_option linter.unusedVariables false
namespace Go.Proofs.Ytdcclighccejhaa
open Go.RowKit

theorem Pure.drew {w w1 : World} (h : Pure w w1) : Pure w w1.drew := Only.drew h
theorem Pure.trans' {w w1 w2 : World} (h : Pure w w1) (k : Pure w1 w2) : Pure w w2 := Only.trans h k (fun _ _ e => e)
theorem src_12 (bs : List Nat) (g o c L : Nat) (w : World) (hc : ∀ j (hj : j < bs.length), w.cell? ⟨g, o + j, none⟩ = some (.int .u8 (bs[j] : Int))) (hL : bs.length = L) (h : 12 ≤ L) (hlc : L ≤ c) (A : Addr) (hA : (c = 12 ∧ A = ⟨g, o, none⟩) ∨ A = ⟨g, o + 12, none⟩) : Src w (.slice (some A) (L - 12) (c - 12)) (bs.drop 12) := by
  rcases hA with ⟨rfl, rfl⟩ | rfl
  · exact src_nil rfl (by omega) (List.drop_eq_nil_of_le (by omega))
  · exact src_drop 12 hc (by omega) (by omega) (by omega)

/-- What is answered of a struct and a number. -/
theorem results_is {P : Program} {fn : Func} {p q : Tmp} {ty : TypeId} (h : fn.results = #[.cell p ty, .tmp q]) (tmps : Array Value) (w : World) (g : Nat) (t : TypeId) (cs : Array Value) (d : TypeDesc) (x : Value)
    (hp : tmps.getD p undef = .pointer (some ⟨g, 0, none⟩)) (hq : tmps.getD q undef = x) (hg : Is w g t cs)
    (hu : P.underlying ty = some d) (hd : (match d with | .struct _ | .array _ _ => true | _ => false) = true) (hi : (P.info? ty).map (·.size) = some cs.size) :
    (results fn tmps).run P w = .ok (.tuple #[.agg cs, x]) w := by
  have hp' : tmps[p]?.getD undef = .pointer (some ⟨g, 0, none⟩) := by simpa using hp
  have hq' : tmps[q]?.getD undef = x := by simpa using hq
  simp [results, h, hp', hq', asAddr, run_loadVar_row w g t ty cs (0, 0) d hg hu hd hi]
theorem Try.sizePk : (Try.prog.info? 42).map (·.size) = some 11 := by kernel_rfl
/-- The cells of a packet that is not there. -/
def zeros : Array Value := #[.bool false, .int .u8 0, .int .u16 0, .int .u32 0, .int .u32 0, .slice none 0 0, .bool false, .int .u16 0, .slice none 0 0, .slice none 0 0, .int .u8 0]
theorem zeros_one : zeros.all (·.oneCell') = true := by simp [zeros, Value.oneCell']
theorem zero_val : Pk.zero.val (.slice none 0 0) (.slice none 0 0) (.slice none 0 0) = .agg zeros := rfl

theorem src_take_any {w : World} {A : Option Addr} {n c : Nat} {bs : List Nat} (h : Src w (.slice A n c) bs) (k : Nat) (hk : k ≤ bs.length) : Src w (.slice A k c) (bs.take k) := by
  rcases h with ⟨e, rfl⟩ | ⟨a, c', e, hl, hc⟩
  · injection e with e1 e2 e3
    subst e1 e2 e3
    obtain rfl : k = 0 := by simpa using hk
    exact .inl ⟨rfl, rfl⟩
  · injection e with e1 e2 e3
    subst e1 e2 e3
    have hlen : (bs.take k).length = k := by rw [List.length_take]; omega
    refine .inr ⟨a, c, by rw [hlen], by omega, fun j u hu => hc j u ?_⟩
    have hj : j < (bs.take k).length := by
      have := (List.getElem?_eq_some_iff.1 hu).1
      rwa [length_cellsOf] at this
    rw [← hu, cellsOf_get bs j (by omega), cellsOf_get _ j hj]
    simp
/-- The extension that bytes tell, and its profile. -/
def exts (bs : List Nat) : List Nat := if hasX bs then ((rest1 bs).drop 4).take (extEnd (rest1 bs) - 4) else []
def profs (bs : List Nat) : Nat := if hasX bs then be ((rest1 bs).take 2) else 0
theorem rest2_true (bs : List Nat) (h : hasX bs = true) : rest2 bs = (rest1 bs).drop (extEnd (rest1 bs)) := by simp [rest2, h]
theorem exts_true (bs : List Nat) (h : hasX bs = true) : exts bs = ((rest1 bs).drop 4).take (extEnd (rest1 bs) - 4) := by simp [exts, h]
theorem profs_true (bs : List Nat) (h : hasX bs = true) : profs bs = be ((rest1 bs).take 2) := by simp [profs, h]
theorem rest2_false (bs : List Nat) (h : hasX bs = false) : rest2 bs = rest1 bs := by simp [rest2, h]
theorem exts_false (bs : List Nat) (h : hasX bs = false) : exts bs = [] := by simp [exts, h]
/-- Two fields of a packet are written: what stays. -/
theorem two_put {wz w5 T : World} {pb B : Nat} {cs : Array Value} {ve : Value} {n : Nat} {xs : List Value} (i j : Nat) (x y : Value) (hT : (w5.setCell ⟨pb, i, none⟩ x).setCell ⟨pb, j, none⟩ y = T) (hip : Is w5 pb 42 cs) (hp : Pure wz w5) (hpb : wz.heap.size ≤ pb) (hve : w5.ownsRow B 5 1 ve n xs) :
    Pure wz T ∧ Is T pb 42 ((cs.setIfInBounds i x).setIfInBounds j y) ∧ T.ownsRow B 5 1 ve n xs := by
  subst hT
  refine ⟨(hp.set (by simp; omega) _).set (by simp; omega) _, (hip.put i x).put j y, ?_⟩
  exact hve.pure (S := fun k => k = pb) (Only.set (S := fun k => k = pb) (p := ⟨pb, j, none⟩) (Only.set (S := fun k => k = pb) (p := ⟨pb, i, none⟩) (Only.refl _ w5) (fun _ => rfl) x) (fun _ => rfl) y) (fun k hk e => own_apart hip hve (by decide) (by rw [hk, e]))
theorem err_ext (bs : List Nat) (h12 : 12 ≤ bs.length) (hver : b0 bs / 64 = 2) (hcs : 4 * many bs ≤ (bs.drop 12).length) (he : extBad bs = true) : parseErr bs = 10 := by
  unfold parseErr
  rw [if_neg (by omega), if_neg (by omega), if_neg (by omega), if_pos he]
theorem err_pad (bs : List Nat) (h12 : 12 ≤ bs.length) (hver : b0 bs / 64 = 2) (hcs : 4 * many bs ≤ (bs.drop 12).length) (he : extBad bs = false) (hp : padBad bs = true) : parseErr bs = 21 := by
  unfold parseErr
  rw [if_neg (by omega), if_neg (by omega), if_neg (by omega), if_neg (by simp [he]), if_pos hp]
theorem err_none (bs : List Nat) (h12 : 12 ≤ bs.length) (hver : b0 bs / 64 = 2) (hcs : 4 * many bs ≤ (bs.drop 12).length) (he : extBad bs = false) (hp : padBad bs = false) : parseErr bs = 0 := by
  unfold parseErr
  rw [if_neg (by omega), if_neg (by omega), if_neg (by omega), if_neg (by simp [he]), if_neg (by simp [hp])]
/-- An error is answered. -/
theorem got_err {w w0 w5 w6 : World} {bs : List Nat} {k : Nat} (h0 : Pure w w0) (h5 : Pure w0 w5) (h6 : Only (fun i => i = w.heap.size) w5 w6) (hk : k ≠ 0) (he : parseErr bs = k) : GotPk w bs (.returned (.tuple #[.agg zeros, .int .i64 (k : Nat)])) w6 := by
  refine ⟨(h0.trans' h5).trans h6 (fun i hi e => by omega), .inl ⟨by omega, ?_⟩⟩
  rw [he]
  rfl
/-- A packet is answered. -/
theorem got_ok {w w0 T w8 : World} {bs : List Nat} {vc ve vp : Value} (h0 : Pure w w0) (hT : Pure w0 T) (hI : Is T w.heap.size 42 zeros) (h8 : Only (fun i => i = w.heap.size) T w8) (he : parseErr bs = 0)
    (hvc : T.ownsRow w.heap.size 38 1 vc (parsed bs).csrc.length (cells32 (parsed bs).csrc)) (hve : T.ownsRow w.heap.size 5 1 ve (parsed bs).ext.length (cellsOf (parsed bs).ext)) (hvp : T.ownsRow w.heap.size 5 1 vp (parsed bs).pay.length (cellsOf (parsed bs).pay)) :
    GotPk w bs (.returned (.tuple #[(parsed bs).val vc ve vp, .int .i64 0])) w8 :=
  ⟨(h0.trans' hT).trans h8 (fun i hi e => by omega), .inr ⟨he, vc, ve, vp, rfl, hvc.pure h8 (fun k hk e => own_apart hI hvc (by decide) (by rw [hk, e])), hve.pure h8 (fun k hk e => own_apart hI hve (by decide) (by rw [hk, e])), hvp.pure h8 (fun k hk e => own_apart hI hvp (by decide) (by rw [hk, e]))⟩⟩
/-- A field of a packet is written: what stays. -/
theorem one_put {wz w5 T : World} {pb B : Nat} {cs : Array Value} {ve : Value} {n : Nat} {xs : List Value} {t : TypeId} (i : Nat) (x : Value) (hT : w5.setCell ⟨pb, i, none⟩ x = T) (hip : Is w5 pb 42 cs) (hp : Pure wz w5) (hpb : wz.heap.size ≤ pb) (hve : w5.ownsRow B t 1 ve n xs) (hne : t ≠ 42) :
    Pure wz T ∧ Is T pb 42 (cs.setIfInBounds i x) ∧ T.ownsRow B t 1 ve n xs := by
  subst hT
  refine ⟨hp.set (by simp; omega) _, hip.put i x, ?_⟩
  exact hve.pure (S := fun k => k = pb) (Only.set (S := fun k => k = pb) (p := ⟨pb, i, none⟩) (Only.refl _ w5) (fun _ => rfl) x) (fun k hk e => own_apart hip hve hne (by rw [hk, e]))
theorem lastOf_mem (bs : List Nat) (h : 0 < bs.length) : lastOf bs ∈ bs := List.mem_of_getElem? (lastOf_get bs h)
end Go.Proofs.Ytdcclighccejhaa
