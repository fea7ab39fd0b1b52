/- ext.Parse. Conditions: as each says. -/
import Derived.Test.YtcgfmjdlningpaaExB
import Derived.Test.YtcgfmjdlningpaaBitsE
import Derived.Test.YtcgfmjdlningpaaBase
set_option linter.unusedVariables false
namespace Go.Proofs.Ytcgfmjdlningpaa
open Go.RowKit

/-- What is answered of bytes that are parsed. -/
def ExParEnd (T : TypeId) (r : Nat × List El) (w : World) (e : Ending) (w' : World) : Prop :=
  Only (fun _ => False) w w' ∧ ((r.1 ≠ 0 ∧ e = .returned (.tuple #[.slice none 0 0, .int .i64 (r.1 : Nat)])) ∨
    (r.1 = 0 ∧ ∃ v vs, e = .returned (.tuple #[v, .int .i64 0]) ∧ Els w' w.heap.size T v vs r.2))
theorem els_far {w w1 : World} {B ob : Nat} {T U : TypeId} {v : Value} {vs : List Value} {l : List El} {cs : Array Value} (h : Els w B T v vs l) (hi : Is w ob U cs) (h1 : T ≠ U) (h2 : 5 ≠ U) (ho : Only (fun k => k = ob) w w1) : Els w1 B T v vs l := by
  refine ⟨h.row.only ho (fun k hk e => owned_off h.row.1 hi h1 (by rw [hk, e])), h.bods.only ho (fun u hu k hk e => ?_)⟩
  obtain ⟨i, hi'⟩ := List.getElem?_of_mem hu
  have hl := h.bods.len
  have hib : i < (l.map El.data).length := by rw [← hl]; exact (List.getElem?_eq_some_iff.1 hi').1
  exact owned_off (h.bods.own i u _ hi' (List.getElem?_eq_getElem hib)) hi h2 (by rw [hk, e])
theorem rd_far {w w1 : World} {b p ob : Nat} {bs : List Nat} {f : Int} {v : Value} {t : TypeId} {cs : Array Value} (hi : Is w ob t cs) (hr : Rdr w b bs p f v) (h1 : t ≠ 136) (ho : Only (fun k => k = b) w w1) : Is w1 ob t cs :=
  hi.only ho (fun e => Is.apart hi hr.is h1 e)
theorem rd_new {w w1 w2 : World} {b : Nat} (h : Only (fun _ => False) w w1) (hb : w.heap.size ≤ b) (ho : Only (fun k => k = b) w1 w2) : Only (fun _ => False) w w2 :=
  h.trans ho (fun i hi e => by omega)
theorem Bods.add {w : World} {B bd : Nat} {vs : List Value} {bss : List (List Nat)} (h : Bods w B vs bss) {u : Value} {bs : List Nat} (hlow : ∀ a ∈ vs, ∀ k, a.ownBlock = some k → k < bd) (hB : B ≤ bd) (hu : w.ownsRow bd 5 1 u bs.length (cellsOf bs)) : Bods w B (vs ++ [u]) (bss ++ [bs]) := by
  refine ⟨by simp [h.len], fun i v bs' hv hb => ?_, fun i j a b hij ha hb k hk hkb => ?_⟩
  · by_cases hi : i < vs.length
    · rw [List.getElem?_append_left hi] at hv
      rw [List.getElem?_append_left (by rw [← h.len]; exact hi)] at hb
      exact h.own i v bs' hv hb
    · rw [List.getElem?_append_right (by omega)] at hv
      rw [List.getElem?_append_right (by rw [← h.len]; omega)] at hb
      rw [← h.len] at hb
      have h0 : i - vs.length = 0 := by
        rcases Nat.eq_zero_or_pos (i - vs.length) with e | e
        · exact e
        · rw [List.getElem?_eq_none (by simp; omega)] at hv; cases hv
      rw [h0] at hv hb
      simp at hv hb
      subst hv hb
      exact owned_low hu hB
  · by_cases hj : j < vs.length
    · rw [List.getElem?_append_left hj] at hb
      rw [List.getElem?_append_left (by omega)] at ha
      exact h.apart i j a b hij ha hb k hk hkb
    · rw [List.getElem?_append_right (by omega)] at hb
      have h0 : j - vs.length = 0 := by
        rcases Nat.eq_zero_or_pos (j - vs.length) with e | e
        · exact e
        · rw [List.getElem?_eq_none (by simp; omega)] at hb; cases hb
      rw [h0] at hb
      simp at hb
      subst hb
      have hi : i < vs.length := by omega
      rw [List.getElem?_append_left hi] at ha
      have h1 := hlow a (List.mem_of_getElem? ha) k hk
      have h2 := (hu.lt k hkb).1
      omega
theorem Bods.low {w : World} {B : Nat} {vs : List Value} {bss : List (List Nat)} (h : Bods w B vs bss) : ∀ a ∈ vs, ∀ k, a.ownBlock = some k → k < w.heap.size := by
  intro a ha k hk
  obtain ⟨i, hi⟩ := List.getElem?_of_mem ha
  have hib : i < bss.length := by rw [← h.len]; exact (List.getElem?_eq_some_iff.1 hi).1
  exact ((h.own i a _ hi (List.getElem?_eq_getElem hib)).lt k hk).2

/-- What a reader's Bytes answers: the data, and what it is then. -/
def ByOut (rb : Nat) (bs : List Nat) (rv : Value) (p5 : Nat) (f5 : Int) (n : Nat) (dat : List Nat) (p9 : Nat) (f9 : Int) : Prop :=
  ∀ wx, Rdr wx rb bs p5 f5 rv → Calls Try.prog 65 #[ptr rb, .int .i64 (n : Nat)] wx fun e w' => ∃ u, e = .returned u ∧ w'.ownsRow wx.heap.size 5 1 u dat.length (cellsOf dat) ∧ Rdr w' rb bs p9 f9 rv ∧ Only (fun k => k = rb) wx w'
theorem by_short {rb j n : Nat} {bs : List Nat} {rv : Value} (hj : j ≤ bs.length) (h : bs.length - j < n) (hn : n ≤ 1000) : ByOut rb bs rv (8 * j) 0 n [] (8 * j) 10 := by
  intro wx hR
  refine (bytes_fail rb (8 * j) bs 0 n 10 rv wx hR ?_ (by decide)).mono ?_
  · unfold asked
    rw [if_neg (by simp), if_neg (by omega), if_pos (by omega)]
  · rintro e w' ⟨rfl, h1, h2⟩
    exact ⟨_, rfl, World.ownsRow_nil _ _ _ _, h1, h2⟩
theorem by_failed {rb p n : Nat} {bs : List Nat} {rv : Value} : ByOut rb bs rv p 10 n [] p 10 := by
  intro wx hR
  refine (bytes_fail rb p bs 10 n 10 rv wx hR ?_ (by decide)).mono ?_
  · unfold asked
    rw [if_pos (by decide)]
  · rintro e w' ⟨rfl, h1, h2⟩
    exact ⟨_, rfl, World.ownsRow_nil _ _ _ _, h1, h2⟩
theorem by_good {rb j n : Nat} {bs : List Nat} {rv : Value} (h : j + n ≤ bs.length) (hb : ∀ x ∈ bs, x < 256) : ByOut rb bs rv (8 * j) 0 n ((bs.drop j).take n) (8 * (j + n)) 0 := by
  intro wx hR
  have := bytes_ok rb (8 * j) n bs rv wx hR (by omega)
  rw [bytesAt_aligned bs j n h hb, show 8 * j + 8 * n = 8 * (j + n) from by omega] at this
  exact this
/-- What the closures of the forms answer. -/
def NumOut (fn : FuncId) (rb : Nat) (bs : List Nat) (rv : Value) (b i : Nat) (num p5 : Nat) (f5 : Int) : Prop :=
  ∀ wx, Rdr wx rb bs (8 * i + 8) 0 rv → Calls Try.prog fn #[.int .u8 (b : Nat), ptr rb] wx fun e w' => e = .returned (.int .i64 (num : Nat)) ∧ Rdr w' rb bs p5 f5 rv ∧ Only (fun k => k = rb) wx w'
theorem xu8_and15 (x : Nat) (h : x < 256) : bits .and .u8 (x : Int) 15 = ((x % 16 : Nat) : Int) := by
  have : ∀ i : Fin 256, bits .and .u8 ((i.val : Nat) : Int) 15 = ((i.val % 16 : Nat) : Int) := by decide +kernel
  exact this ⟨x, h⟩
set_option maxRecDepth 100000 in
set_option maxHeartbeats 400000 in
theorem num_one {rb b i : Nat} {bs : List Nat} {rv : Value} (hb : b < 256) : NumOut 90 rb bs rv b i (b % 16) (8 * i + 8) 0 := by
  intro wx hR
  have HR := Lib.hid hR
  have ea := xu8_and15 b hb
  have hm : b % 16 < 16 := by omega
  generalize b % 16 = m at *
  clear hR
  go_enter Try.func90, Try.ntmps90
  go_wp2
  go_ret
  exact ⟨rfl, HR.out, Only.refl _ _⟩
set_option maxRecDepth 100000 in
set_option maxHeartbeats 400000 in
theorem num_two {rb b i : Nat} {bs : List Nat} {rv : Value} (hi : i + 1 < bs.length) (hb : ∀ x ∈ bs, x < 256) : NumOut 91 rb bs rv b i (bs.getD (i + 1) 0) (8 * (i + 2)) 0 := by
  intro wx hR
  have HT := Lib.hid (take_ok rb (8 * i + 8) 8 bs rv wx hR (by omega) (by omega))
  have e1 : num bs (8 * i + 8) 8 = bs.getD (i + 1) 0 := by
    rw [show 8 * i + 8 = 8 * (i + 1) from by omega, digs_val_byte bs (i + 1) hi hb, List.getD_eq_getElem?_getD, List.getElem?_eq_getElem hi]
    rfl
  rw [e1] at HT
  have hm : bs.getD (i + 1) 0 < 256 := by
    rw [List.getD_eq_getElem?_getD, List.getElem?_eq_getElem hi]
    exact hb _ (List.getElem_mem _)
  generalize bs.getD (i + 1) 0 = m at *
  have e2 : IntKind.i64.wrap (m : Int) = (m : Int) := IntWalk.i64_in _ (by omega)
  clear hR e1
  go_enter Try.func91, Try.ntmps91
  go_wp2_with (go_at_call 64; refine HT.out.mono ?_; rintro e w1 ⟨rfl, hr1, ho1⟩; have R1 := Lib.hid hr1; have O1 := Lib.hid ho1; clear hr1 ho1)
  go_ret
  exact ⟨rfl, by have := R1.out; rwa [show 8 * i + 8 + 8 = 8 * (i + 2) from by omega] at this, O1.out⟩
set_option maxRecDepth 100000 in
set_option maxHeartbeats 400000 in
theorem num_none {rb b i : Nat} {bs : List Nat} {rv : Value} (hi : bs.length = i + 1) : NumOut 91 rb bs rv b i 0 (8 * i + 8) 10 := by
  intro wx hR
  have HT := Lib.hid (take_fail rb (8 * i + 8) bs 0 8 10 rv wx hR (by unfold asked; rw [if_neg (by simp), if_neg (by omega), if_pos (by omega)]) (by decide))
  clear hR
  go_enter Try.func91, Try.ntmps91
  go_wp2_with (go_at_call 64; refine HT.out.mono ?_; rintro e w1 ⟨rfl, hr1, ho1⟩; have R1 := Lib.hid hr1; have O1 := Lib.hid ho1; clear hr1 ho1)
  go_ret
  exact ⟨rfl, R1.out, O1.out⟩
theorem left_pure (b p : Nat) (bs : List Nat) (f : Int) (v : Value) (w : World) (h : Rdr w b bs p f v) :
    Calls Try.prog 63 #[ptr b] w fun e w' => e = .returned (.int .i64 ((8 * bs.length - p : Nat) : Int)) ∧ Only (fun _ => False) w w' := by
  refine (left_rdr b p bs f v w h).mono ?_
  rintro e w' ⟨rfl, n, rfl⟩
  exact ⟨rfl, (Only.refl _ w).drewN n⟩
theorem Rdr.pure {w w1 : World} {b p : Nat} {bs : List Nat} {f : Int} {v : Value} (h : Rdr w b bs p f v) (ho : Only (fun _ => False) w w1) : Rdr w1 b bs p f v := h.only ho (by simp) (by simp)
/-- Where a reader stands. -/
def rdAt (L rb : Nat) (w : World) : Nat := match w.cell? ⟨rb, 1, none⟩ with | some (.int _ n) => 8 * L + 8 - n.toNat | _ => 0
theorem rdAt_is {w : World} {b p L : Nat} {bs : List Nat} {f : Int} {v : Value} (h : Rdr w b bs p f v) : rdAt L b w = 8 * L + 8 - p := by
  have := h.is.cell 1
  simp at this
  unfold rdAt
  rw [this]
  simp

theorem Try.infoEl : (Try.prog.info? 50).map (fun i => (i.zero, i.size, i.bytes)) = some (some (.agg zeroE), 2, 32) := by kernel_rfl
theorem sty_el : Sty 44 50 2 32 := by
  obtain ⟨i0, hi, hz0, hz1, hz2⟩ := info_parts Try.infoEl
  exact ⟨Try.underlying44, ⟨i0, _, hi, hz0, hz1, hz2, rfl⟩, by decide⟩
/-- An element in new memory is appended. -/
theorem wpList_append_el {ops : Array Oper} {rest : List Oper} {o : Oper} {a : Act} {Q : Exit → Act → World → Prop} {t T : TypeId} {bytes : Nat} (st : Sty t T 2 bytes) (wr : World) (hgd : o.guard = none) (s x : Operand)
    (ho : o.op = .call { callee := .builtin .append, args := #[s, x], argTypes := #[t, t] })
    (B : Nat) (v : Value) (xss : List (List Value)) (y : El) (u : Value) (hu : ∃ A n c, u = .slice A n c) (hs : a.eval s = v) (hown : OwnS wr B T 2 v xss)
    (hx : a.eval x = .slice (some ⟨wr.heap.size, 0, none⟩) 1 1) (hl : xss.length ≤ 100000) (hby : bytes ≤ 100000) (hB : B ≤ wr.heap.size)
    (h : ∀ v' w', OwnS w' B T 2 v' (xss ++ [y.lst u]) → Only (fun k => v.ownBlock = some k) wr w' → wpList Try.prog ops Q rest (a.put o.dst v') w') :
    wpList Try.prog ops Q (o :: rest) a (wr.alloc (.cells #[.int .u8 (y.id : Nat), u] T)) :=
  wpList_append_struct _ hgd s x st ho B v xss hs (hown.only ((Only.refl (fun _ => False) wr).alloc _) (by simp)) wr.heap.size (y.lst u) hx (Is.made wr _ _) rfl (by obtain ⟨A, n, c, rfl⟩ := hu; simp [El.lst, Value.oneCell']) hl hby (by simp; omega)
    (fun v' w' h1 h2 => h v' w' h1 (((Only.refl _ wr).alloc _).trans h2 (fun i hi e => e)))
/-- A round's next element, told. -/
theorem els_next {T : TypeId} (hT : T ≠ 5) {w : World} {B bd : Nat} {v v' u : Value} {vs : List Value} {l : List El} {x : El} {w1 : World} (h : Els w B T v vs l) (hlow : ∀ a ∈ vs, ∀ k, a.ownBlock = some k → k < bd) (hB : B ≤ bd) (hu : w.ownsRow bd 5 1 u x.data.length (cellsOf x.data))
    (hr : OwnS w1 B T 2 v' (List.zipWith El.lst l vs ++ [x.lst u])) (ho : Only (fun k => v.ownBlock = some k) w w1) : Els w1 B T v' (vs ++ [u]) (l ++ [x]) := by
  refine ⟨by rw [ezip_snoc h.len]; exact hr, ?_⟩
  rw [List.map_append]
  exact (h.bods.add hlow hB hu).far h.row.1 hT ho
theorem rdr_row {w w1 : World} {b p B sz n : Nat} {bs : List Nat} {f : Int} {v v' : Value} {T : TypeId} {xs : List Value} (h : Rdr w b bs p f v) (hr : w.ownsRow B T sz v' n xs) (h1 : T ≠ 136) (h2 : T ≠ 5) (ho : Only (fun k => v'.ownBlock = some k) w w1) : Rdr w1 b bs p f v :=
  h.only ho (owned_off hr h.is h1) (fun k hk hv => owned_apart hr h.row h2 k hv hk)
end Go.Proofs.Ytcgfmjdlningpaa
