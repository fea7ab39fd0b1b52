/- rtcp: rows of packets; what a compound tells, plainly. Conditions: none. -/
import Derived.Test.YtefcimkopgcagaaBase
import Derived.Test.YtefcimkopgcagaaRcB
set_option linter.unusedVariables false
namespace Go.Proofs.Ytefcimkopgcagaa
open Go.RowKit

structure Pkt where
  count : Nat
  kind : Nat
  pad : Nat
  body : List Nat
def Pkt.lst (p : Pkt) (v : Value) : List Value := [.int .u8 (p.count : Nat), .int .u8 (p.kind : Nat), v, .int .u8 (p.pad : Nat)]
theorem lst_len (l : List Pkt) (vs : List Value) : ∀ xs ∈ List.zipWith Pkt.lst l vs, xs.length = 4 := by
  intro xs hx
  obtain ⟨i, hi⟩ := List.getElem?_of_mem hx
  rw [List.getElem?_zipWith] at hi
  split at hi
  · injection hi with hi; subst hi; rfl
  · cases hi
/-- Packets in a row that is owned, their bodies too. -/
structure Pks (w : World) (B : Nat) (T : TypeId) (v : Value) (vs : List Value) (l : List Pkt) : Prop where
  row : OwnS w B T 4 v (List.zipWith Pkt.lst l vs)
  bods : Bods w B vs (l.map Pkt.body)
section
variable {w w1 : World} {B : Nat} {T : TypeId} {v : Value} {vs : List Value} {l : List Pkt}
theorem Pks.len (h : Pks w B T v vs l) : vs.length = l.length := by simpa using h.bods.len
theorem Pks.zip (h : Pks w B T v vs l) : (List.zipWith Pkt.lst l vs).length = l.length := by rw [List.length_zipWith, h.len, Nat.min_self]
theorem Pks.nil (w : World) (B : Nat) (T : TypeId) : Pks w B T (.slice none 0 0) [] [] := ⟨OwnS.nil w B T 4, Bods.nil w B⟩
theorem Pks.slice (h : Pks w B T v vs l) : ∃ A c, v = .slice A l.length c ∧ l.length ≤ c := by
  have := h.row.slice
  rwa [h.zip] at this
theorem Pks.pure (h : Pks w B T v vs l) (ho : Only (fun _ => False) w w1) : Pks w1 B T v vs l := ⟨h.row.only ho (by simp), h.bods.pure ho⟩
/-- One more, where its body is. -/
theorem zip_snoc (hl : vs.length = l.length) (p : Pkt) (u : Value) : List.zipWith Pkt.lst (l ++ [p]) (vs ++ [u]) = List.zipWith Pkt.lst l vs ++ [p.lst u] := by
  rw [List.zipWith_append (by omega)]
  rfl
theorem Pks.get (h : Pks w B T v vs l) (i : Nat) (hi : i < l.length) : ∃ p u, l[i]? = some p ∧ vs[i]? = some u ∧ (List.zipWith Pkt.lst l vs)[i]? = some (p.lst u) ∧ w.ownsRow B 5 1 u p.body.length (cellsOf p.body) := by
  have hv : i < vs.length := by rw [h.len]; exact hi
  have e1 : l[i]? = some l[i] := List.getElem?_eq_getElem hi
  have e2 : vs[i]? = some vs[i] := List.getElem?_eq_getElem hv
  exact ⟨_, _, e1, e2, by rw [List.getElem?_zipWith, e1, e2], h.bods.own i _ _ e2 (by rw [List.getElem?_map, e1]; rfl)⟩
end

/-- What a compound tells: the first error, or 0; the packets. -/
def pkOf (bs : List Nat) : Pkt := ⟨bt bs 0 % 32, bt bs 1, onePad bs, oneRest bs⟩
theorem one_len {bs : List Nat} {lead : Bool} (h : oneErr bs lead = 0) : 4 ≤ bs.length ∧ oneSz bs ≤ bs.length := by
  unfold oneErr at h
  by_cases h1 : bs.length < 4
  · rw [if_pos h1] at h; cases h
  · rw [if_neg h1] at h
    by_cases h2 : bt bs 0 / 64 ≠ 2
    · rw [if_pos h2] at h; cases h
    · rw [if_neg h2] at h
      by_cases h3 : (lead && !(bt bs 1 == 200 || bt bs 1 == 201)) = true
      · rw [if_pos h3] at h; cases h
      · rw [if_neg h3] at h
        by_cases h4 : bs.length < oneSz bs
        · rw [if_pos h4] at h; cases h
        · omega
def spl (lead : Bool) (bs : List Nat) : Nat × List Pkt :=
  if lead = false ∧ bs.length = 0 then (0, [])
  else if h : oneErr bs lead = 0 then ((spl false (bs.drop (oneSz bs))).1, pkOf bs :: (spl false (bs.drop (oneSz bs))).2)
  else (oneErr bs lead, [])
termination_by bs.length
decreasing_by all_goals (have := one_len h; rw [List.length_drop]; unfold oneSz; omega)
theorem spl_end : spl false [] = (0, []) := by rw [spl]; simp
theorem spl_bad {lead : Bool} {bs : List Nat} (h : ¬ (lead = false ∧ bs.length = 0)) (he : oneErr bs lead ≠ 0) : spl lead bs = (oneErr bs lead, []) := by
  rw [spl, if_neg h, dif_neg he]
theorem spl_go {lead : Bool} {bs : List Nat} (h : ¬ (lead = false ∧ bs.length = 0)) (he : oneErr bs lead = 0) : spl lead bs = ((spl false (bs.drop (oneSz bs))).1, pkOf bs :: (spl false (bs.drop (oneSz bs))).2) := by
  rw [spl, if_neg h, dif_pos he]

/-- What both answer of a compound. -/
def SplitEnd (T : TypeId) (r : Nat × List Pkt) (w : World) (e : Ending) (w' : World) : Prop :=
  Only (fun _ => False) w w' ∧ ((r.1 ≠ 0 ∧ e = .returned (.tuple #[.slice none 0 0, .int .i64 (r.1 : Nat)])) ∨
    (r.1 = 0 ∧ ∃ v vs, e = .returned (.tuple #[v, .int .i64 0]) ∧ Pks w' w.heap.size T v vs r.2))

/-- Amid Split: so much is left, so much is told. -/
structure Spl (T : TypeId) (bs : List Nat) (w : World) (rest : List Nat) (done : List Pkt) (vs : List Value) (s4 : Value) (wr : World) : Prop where
  pks : Pks wr w.heap.size T s4 vs done
  pure : Only (fun _ => False) w wr
  bytes : ∀ x ∈ rest, x < 256
  len : done.length * 4 + rest.length ≤ bs.length
  eq : spl true bs = ((spl (decide (done.length = 0)) rest).1, done ++ (spl (decide (done.length = 0)) rest).2)

theorem Try.infoPk : (Try.prog.info? 41).map (fun i => (i.zero, i.size, i.bytes)) = some (some (.agg zeroP), 4, 40) := by kernel_rfl
theorem sty_pk : Sty 45 41 4 40 := by
  obtain ⟨i0, hi, hz0, hz1, hz2⟩ := info_parts Try.infoPk
  exact ⟨Try.underlying45, ⟨i0, _, hi, hz0, hz1, hz2, rfl⟩, by decide⟩

end Go.Proofs.Ytefcimkopgcagaa
