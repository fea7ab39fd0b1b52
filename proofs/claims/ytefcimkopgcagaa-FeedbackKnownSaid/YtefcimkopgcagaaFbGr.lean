/- Merged of FbA FbB FbD FbE FbU FbV FbW FbX FbZ FbL FbM FcA FcB FcC. Conditions: as each says. -/
import Derived.Test.YtefcimkopgcagaaBase
import Derived.Deep.DeepCutAuto
import Derived.Outline
import Derived.WalkMore
import Derived.Deep.RegionHeld3
import Derived.Laws.BitsAllLaws
import Derived.Laws.StructEq
import Derived.Laws.Tables
/- Feedback: pairs, plainly and in rows; the numbers that they tell. Conditions: as each says. -/
set_option linter.unusedVariables false
namespace Go.Proofs.Ytefcimkopgcagaa
open Go.RowKit

structure Pr where
  pid : Nat
  blp : Nat
def Pr.Fit (p : Pr) : Prop := p.pid < 65536 ∧ p.blp < 65536
def Pr.lst (p : Pr) : List Value := [.int .u16 (p.pid : Nat), .int .u16 (p.blp : Nat)]
/-- The cells of a pair in a row. -/
def PCells (w : World) (g o i : Nat) (p : Pr) : Prop :=
  w.cell? ⟨g, o + i * 2, none⟩ = some (.int .u16 (p.pid : Nat)) ∧ w.cell? ⟨g, o + i * 2 + 1, none⟩ = some (.int .u16 (p.blp : Nat))
theorem PCells.only {w w1 : World} {g o i : Nat} {p : Pr} {S : Nat → Prop} (h : PCells w g o i p) (ho : Only S w w1) (hS : ¬ S g) : PCells w1 g o i p :=
  ⟨(ho.cell (World.block_lt_of_cell? w _ h.1) hS).trans h.1, (ho.cell (World.block_lt_of_cell? w _ h.2) hS).trans h.2⟩
/-- Pairs that can be read. -/
def RdP (w : World) (v : Value) (l : List Pr) : Prop :=
  ∃ A c, v = .slice A l.length c ∧ l.length ≤ c ∧ (0 < l.length → ∃ g o, A = some ⟨g, o, none⟩ ∧ ∀ (i : Nat) (p : Pr), l[i]? = some p → PCells w g o i p)
theorem RdP.only {w w1 : World} {v : Value} {l : List Pr} (h : RdP w v l) (ho : Only (fun _ => False) w w1) : RdP w1 v l := by
  obtain ⟨A, c, rfl, hc, hh⟩ := h
  refine ⟨A, c, rfl, hc, fun hp => ?_⟩
  obtain ⟨g, o, rfl, hi⟩ := hh hp
  exact ⟨g, o, rfl, fun i p hx => (hi i p hx).only ho (by simp)⟩
theorem RdP.nil (w : World) : RdP w (.slice none 0 0) [] := ⟨none, 0, rfl, by simp, fun h => by simp at h⟩
/-- A row of pairs that is owned. -/
def OwnP (B : Nat) (T : TypeId) (v : Value) (l : List Pr) (w : World) : Prop := OwnS w B T 2 v (l.map Pr.lst)
theorem OwnP.rd {B : Nat} {T : TypeId} {v : Value} {l : List Pr} {w : World} (h : OwnP B T v l w) : RdP w v l := by
  obtain ⟨A, c, rfl, hc⟩ := OwnS.slice h
  rw [List.length_map] at hc ⊢
  refine ⟨A, c, rfl, hc, fun hp => ?_⟩
  obtain ⟨g, c', e, -, -, -, hcell⟩ := OwnS.at_ h (by simpa using hp)
  injection e with e1
  subst e1
  refine ⟨g, 0, rfl, fun i p hi => ?_⟩
  have h0 := hcell i 0 p.lst (by simp [hi]) (by omega)
  have h1 := hcell i 1 p.lst (by simp [hi]) (by omega)
  rw [Nat.add_zero] at h0
  exact ⟨by rw [Nat.zero_add]; exact h0, by rw [Nat.zero_add]; exact h1⟩
/-- A row of numbers of 16 digits that is owned. -/
def OwnN (B : Nat) (v : Value) (l : List Nat) (w : World) : Prop := OwnS w B 75 1 v (l.map fun n => [Value.int .u16 (n : Nat)])
theorem OwnN.slice {B : Nat} {v : Value} {l : List Nat} {w : World} (h : OwnN B v l w) : ∃ A c, v = .slice A l.length c ∧ l.length ≤ c := by
  obtain ⟨A, c, rfl, hc⟩ := OwnS.slice h
  rw [List.length_map] at hc ⊢
  exact ⟨A, c, rfl, hc⟩
theorem OwnN.only {B : Nat} {v : Value} {l : List Nat} {w w1 : World} {S : Nat → Prop} (h : OwnN B v l w) (ho : Only S w w1) (hs : ∀ k, v.ownBlock = some k → ¬ S k) : OwnN B v l w1 := OwnS.only h ho hs
theorem OwnN.rd {B : Nat} {v : Value} {l : List Nat} {w : World} (h : OwnN B v l w) : Rd .u16 w v (nats l) := by
  obtain ⟨A, c, rfl, hc⟩ := OwnN.slice h
  refine ⟨A, c, by rw [nats_length], by rw [nats_length]; exact hc, fun hp => ?_⟩
  rw [nats_length] at hp
  obtain ⟨g, c', e, -, -, -, hcell⟩ := OwnS.at_ h (by simpa using hp)
  injection e with e1
  subst e1
  refine ⟨g, 0, rfl, fun j hj => ?_⟩
  rw [nats_length] at hj
  have h0 := hcell j 0 [Value.int .u16 (l[j] : Nat)] (by simp [hj]) (by omega)
  rw [Nat.mul_one, Nat.add_zero] at h0
  rw [Nat.zero_add, h0]
  simp [nats]
theorem OwnN.nil (w : World) (B : Nat) : OwnN B (.slice none 0 0) [] w := OwnS.nil w B 75 1
theorem OwnP.nil (w : World) (B : Nat) (T : TypeId) : OwnP B T (.slice none 0 0) [] w := OwnS.nil w B T 2
theorem Try.infoU16 : (Try.prog.info? 75).map (fun i => (i.zero, i.size, i.bytes)) = some (some (.int .u16 0), 1, 2) := by kernel_rfl
theorem sty_u16 : Sty 62 75 1 2 := by
  obtain ⟨i0, hi, hz0, hz1, hz2⟩ := info_parts Try.infoU16
  exact ⟨Try.underlying62, ⟨i0, _, hi, hz0, hz1, hz2, rfl⟩, by decide⟩
theorem Try.infoPr : (Try.prog.info? 82).map (fun i => (i.zero, i.size, i.bytes)) = some (some (.agg #[.int .u16 0, .int .u16 0]), 2, 4) := by kernel_rfl
theorem Try.infoRp : (Try.prog.info? 83).map (fun i => (i.zero, i.size, i.bytes)) = some (some (.agg #[.int .u16 0, .int .u16 0]), 2, 4) := by kernel_rfl
theorem sty_pr : Sty 23 82 2 4 := by
  obtain ⟨i0, hi, hz0, hz1, hz2⟩ := info_parts Try.infoPr
  exact ⟨Try.underlying23, ⟨i0, _, hi, hz0, hz1, hz2, rfl⟩, by decide⟩
theorem sty_rp : Sty 30 83 2 4 := by
  obtain ⟨i0, hi, hz0, hz1, hz2⟩ := info_parts Try.infoRp
  exact ⟨Try.underlying30, ⟨i0, _, hi, hz0, hz1, hz2, rfl⟩, by decide⟩

/-- The numbers behind the first that a pair tells, up to the k-th. -/
def told (p : Pr) : Nat → List Nat
  | 0 => []
  | k + 1 => told p k ++ (if p.blp / 2 ^ k % 2 = 1 then [(p.pid + (k + 1)) % 65536] else [])
def Pr.nums (p : Pr) : List Nat := p.pid :: told p 16
def numsOf (l : List Pr) : List Nat := l.flatMap Pr.nums
theorem told_len (p : Pr) : ∀ k, (told p k).length ≤ k
  | 0 => by simp [told]
  | k + 1 => by
    have := told_len p k
    unfold told
    rw [List.length_append]
    split <;> simp <;> omega
theorem numsOf_len : ∀ (l : List Pr), (numsOf l).length ≤ 17 * l.length
  | [] => by simp [numsOf]
  | p :: l => by
    have h1 := told_len p 16
    have h2 := numsOf_len l
    simp only [numsOf, List.flatMap_cons, List.length_append, Pr.nums, List.length_cons] at *
    omega
theorem numsOf_snoc (l : List Pr) (p : Pr) : numsOf (l ++ [p]) = numsOf l ++ p.nums := by simp [numsOf]
theorem told_lt (p : Pr) : ∀ k, ∀ x ∈ told p k, x < 65536
  | 0, x, h => by simp [told] at h
  | k + 1, x, h => by
    unfold told at h
    rcases List.mem_append.1 h with h | h
    · exact told_lt p k x h
    · split at h
      · rw [List.mem_singleton.1 h]
        exact Nat.mod_lt _ (by decide)
      · simp at h
section
variable {ops : Array Oper} {rest : List Oper} {o : Oper} {a : Act} {Q : Exit → Act → World → Prop}
theorem wpList_append_num (wr : World) (hgd : o.guard = none) (s x : Operand)
    (ho : o.op = .call { callee := .builtin .append, args := #[s, x], argTypes := #[62, 62] })
    (B : Nat) (v : Value) (l : List Nat) (y : Nat) (hs : a.eval s = v) (hown : OwnN B v l wr) (Y : Int) (hY : Y = (y : Int))
    (hx : a.eval x = .slice (some ⟨wr.heap.size, 0, none⟩) 1 1) (hl : l.length ≤ 100000) (hB : B ≤ wr.heap.size)
    (h : ∀ v' w', OwnN B v' (l ++ [y]) w' → Only (fun k => v.ownBlock = some k) wr w' → wpList Try.prog ops Q rest (a.put o.dst v') w') :
    wpList Try.prog ops Q (o :: rest) a (wr.alloc (.cells #[.int .u16 Y] 75)) := by
  subst hY
  refine wpList_append_struct _ hgd s x sty_u16 ho B v (l.map fun n => [Value.int .u16 (n : Nat)]) hs (OwnS.only hown ((Only.refl (fun _ => False) wr).alloc _) (by simp)) wr.heap.size [.int .u16 (y : Nat)] hx (Is.made wr _ _) rfl (by simp [Value.oneCell']) (by simpa using hl) (show 2 ≤ 100000 by decide) (by simp; omega) (fun v' w' h1 h2 => h v' w' ?_ (((Only.refl _ wr).alloc _).trans h2 (fun i hi e => e)))
  unfold OwnN
  rw [List.map_append]
  exact h1
end
end Go.Proofs.Ytefcimkopgcagaa

/- feedback.Numbers. Conditions: as it says. -/
set_option linter.unusedVariables false
namespace Go.Proofs.Ytefcimkopgcagaa
open Go.RowKit

theorem take_snoc {α : Type} {l : List α} {k : Nat} {y : α} (hx : l[k]? = some y) : l.take (k + 1) = l.take k ++ [y] := by
  have hk : k < l.length := (List.getElem?_eq_some_iff.1 hx).1
  rw [List.take_succ_eq_append_getElem hk]
  have := List.getElem?_eq_getElem hk
  rw [hx] at this
  injection this with this
  rw [this]
/-- Amid a pair. -/
def Amid (l : List Pr) (k : Nat) (p : Pr) (j : Nat) : List Nat := numsOf (l.take k) ++ p.pid :: told p (j - 1)
theorem amid_len (l : List Pr) (k : Nat) (p : Pr) (j : Nat) (hl : l.length ≤ 1000) (hj : j ≤ 17) : (Amid l k p j).length ≤ 50000 := by
  have h1 := numsOf_len (l.take k)
  have h2 := told_len p (j - 1)
  unfold Amid
  rw [List.length_append, List.length_cons]
  rw [List.length_take] at h1
  omega
theorem amid_next (l : List Pr) (k : Nat) (p : Pr) (j : Nat) (hj : 1 ≤ j) : Amid l k p (j + 1) = Amid l k p j ++ (if p.blp / 2 ^ (j - 1) % 2 = 1 then [(p.pid + j) % 65536] else []) := by
  obtain ⟨i, rfl⟩ : ∃ i, j = i + 1 := ⟨j - 1, by omega⟩
  unfold Amid
  rw [show i + 1 + 1 - 1 = i + 1 from rfl, show i + 1 - 1 = i from rfl, told, List.append_assoc, List.cons_append]
theorem amid_end (l : List Pr) (k : Nat) (p : Pr) (hx : l[k]? = some p) : Amid l k p 17 = numsOf (l.take (k + 1)) := by
  rw [take_snoc hx, numsOf_snoc]
  rfl
theorem tell_bit (b i : Nat) (hb : b < 65536) : (bits .and .u16 ((b : Int) / 2 ^ i) 1 == 1) = decide (b / 2 ^ i % 2 = 1) := by
  have h1 : b / 2 ^ i < 65536 := Nat.lt_of_le_of_lt (Nat.div_le_self _ _) hb
  have h2 := u16_and_nat (b / 2 ^ i) 1 h1 (by decide)
  rw [Nat.and_one_is_mod] at h2
  have e : ((b / 2 ^ i : Nat) : Int) = (b : Int) / 2 ^ i := by simp
  rw [e] at h2
  rw [show ((1 : Nat) : Int) = 1 from rfl] at h2
  rw [h2]
  by_cases h : b / 2 ^ i % 2 = 1
  · rw [h]; rfl
  · rw [decide_eq_false h, beq_eq_false_iff_ne]; omega

set_option maxRecDepth 100000 in
set_option maxHeartbeats 2000000 in
theorem numbers_is (v : Value) (l : List Pr) (w : World) (hr : RdP w v l) (hl : l.length ≤ 1000) (hf : ∀ p ∈ l, p.Fit) :
    Calls Try.prog 31 #[v] w fun e w' => ∃ v', e = .returned v' ∧ OwnN w.heap.size v' (numsOf l) w' ∧ Only (fun _ => False) w w' := by
  obtain ⟨A1, c1, rfl, hlc1, hh1⟩ := hr
  have HF := Lib.hid hf
  have H1 := Lib.hid hh1
  obtain ⟨L, hL⟩ : ∃ L, l.length = L := ⟨_, rfl⟩
  have HL := Lib.hid hL
  have HLL := Lib.hid hl
  rw [hL] at hl hlc1 ⊢
  obtain ⟨B, hB⟩ : ∃ n, w.heap.size = n := ⟨_, rfl⟩
  have HB := Lib.hid hB
  rw [hB]
  clear hf hL hh1 hB
  go_enter Try.func31, Try.ntmps31
  go_wp2
  go_loopw [3, 9] (fun s3 s9 wr => ∃ k : Nat, k ≤ L ∧ s9 = .int .i64 k ∧ OwnN B s3 (numsOf (l.take k)) wr ∧ Only (fun _ => False) w wr) (fun _ s9 _ => L - (intOf s9).toNat)
  case atStart => exact ⟨0, by omega, rfl, OwnN.nil w B, Only.refl _ _⟩
  case round =>
    obtain ⟨k, hk, rfl, hown, ho⟩ := hrel
    have OW := Lib.hid hown
    have O3 := Lib.hid ho
    obtain ⟨A3, c3, e3, -⟩ := hown.slice
    obtain ⟨n3, hn3⟩ : ∃ n, (numsOf (l.take k)).length = n := ⟨_, rfl⟩
    have HN3 := Lib.hid hn3
    rw [hn3] at e3
    subst e3
    clear hown ho hn3
    by_cases hkl : k < L
    · have hkb : k < l.length := by rw [HL.out]; exact hkl
      obtain ⟨p, hx⟩ : ∃ x, l[k]? = some x := ⟨_, List.getElem?_eq_getElem hkb⟩
      obtain ⟨g, o, rfl, hcell⟩ := H1.out (by rw [HL.out]; omega)
      obtain ⟨q0, q1⟩ := (hcell k p hx).only O3.out (by simp)
      obtain ⟨hp1, hp2⟩ := HF.out p (List.mem_of_getElem? hx)
      have HX := Lib.hid hx
      have hkI : (k : Int) < (L : Int) := by omega
      clear hcell hx hkb
      go_upto_region 5 with (fail)
      obtain ⟨pb, hpb⟩ : ∃ n, wr.heap.size = n := ⟨_, rfl⟩
      generalize hw4 : World.alloc _ _ = w4
      have P4 := Lib.hid (show Is w4 wr.heap.size 82 #[.int .u16 (p.pid : Nat), .int .u16 (p.blp : Nat)] from by rw [← hw4]; exact Is.made _ _ _)
      have A4 := Lib.hid (show Only (fun _ => False) wr w4 from by rw [← hw4]; exact (Only.refl _ wr).alloc _)
      have O4 := Lib.hid (only_more O3.out A4.out)
      have OW4 := Lib.hid (OW.out.only A4.out (by simp))
      rw [hpb] at P4 ⊢
      have SZ4 := Lib.hid (show B ≤ w4.heap.size from by rw [← HB.out]; exact O4.out.size)
      have LN := Lib.hid (show (numsOf (l.take k)).length ≤ 100000 from by have h := numsOf_len (l.take k); rw [List.length_take] at h; have := HLL.out; omega)
      have r0 := P4.out.cell 0
      have r1 := P4.out.cell 1
      simp at r0 r1
      clear q0 q1 hw4 hpb OW O3 A4
      go_upto_region 6 with (refine wpList_append_num _ rfl (.tmp 13) (.tmp 16) rfl B (.slice A3 n3 c3) (numsOf (l.take k)) p.pid rfl OW4.out _ rfl rfl LN.out SZ4.out ?_; intro v5 w5 h5 ho5; have OW5 := Lib.hid h5; have O5 := Lib.hid ho5; clear h5 ho5)
      have hne5 : (Value.slice A3 n3 c3).ownBlock ≠ some pb := owned_off OW4.out.1 P4.out (by decide)
      have P5 := Lib.hid (P4.out.only O5.out hne5)
      have T5 := Lib.hid (O4.out.trans O5.out (fun i hi e => by have := (OW4.out.1.lt i e).1; have := HB.out; omega))
      have W5 := Lib.hid (show OwnN B v5 (Amid l k p 1) w5 from OW5.out)
      clear hne5 P4 O4 OW4 O5 OW5 SZ4 LN r0 r1
      go_wp2
      go_loopw [3, 6] (fun s3 s6 wx => ∃ j : Nat, 1 ≤ j ∧ j ≤ 17 ∧ s6 = .int .u16 j ∧ OwnN B s3 (Amid l k p j) wx ∧ Is wx pb 82 #[.int .u16 (p.pid : Nat), .int .u16 (p.blp : Nat)] ∧ Only (fun _ => False) w wx) (fun _ s6 _ => 17 - (intOf s6).toNat)
      case atStart => exact ⟨1, by omega, by omega, rfl, W5.out, P5.out, T5.out⟩
      case round =>
        clear W5 P5 T5
        obtain ⟨j, hj1, hj, rfl, hown, hip, ho⟩ := hrel
        have OWJ := Lib.hid hown
        have PJ := Lib.hid hip
        have TJ := Lib.hid ho
        obtain ⟨A6, c6, e6, -⟩ := hown.slice
        obtain ⟨n6, hn6⟩ : ∃ n, (Amid l k p j).length = n := ⟨_, rfl⟩
        have HN6 := Lib.hid hn6
        rw [hn6] at e6
        subst e6
        clear hown hip ho hn6
        by_cases hj16 : j ≤ 16
        · have zj : (j : Int) ≤ 16 := by omega
          have r0 := PJ.out.cell 0
          have r1 := PJ.out.cell 1
          simp at r0 r1
          have SZ6 := Lib.hid (show B ≤ wr.heap.size from by rw [← HB.out]; exact TJ.out.size)
          have LN := Lib.hid (show (Amid l k p j).length ≤ 100000 from by have := amid_len l k p j HLL.out (by omega); omega)
          have HNX := Lib.hid (amid_next l k p j hj1)
          by_cases hb1 : p.blp / 2 ^ (j - 1) % 2 = 1
          · have zb : (bits .and .u16 ((p.blp : Int) / 2 ^ (j - 1)) 1 == 1) = true := by rw [tell_bit _ _ hp2, decide_eq_true hb1]
            rw [if_pos hb1] at HNX
            clear hb1
            go_upto_region 8 with (refine wpList_append_num _ rfl (.tmp 29) (.tmp 34) rfl B (.slice A6 n6 c6) (Amid l k p j) ((p.pid + j) % 65536) rfl OWJ.out _ (by first | omega | (rw [IntKind.wrap_u16]; omega)) rfl LN.out SZ6.out ?_; intro v7 w7 h7 ho7; rw [← HNX.out] at h7; have OW7 := Lib.hid h7; have O7 := Lib.hid ho7; clear h7 ho7)
            have hne7 : (Value.slice A6 n6 c6).ownBlock ≠ some pb := owned_off OWJ.out.1 PJ.out (by decide)
            have P7 := Lib.hid (PJ.out.only O7.out hne7)
            have T7 := Lib.hid (TJ.out.trans O7.out (fun i hi e => by have := (OWJ.out.1.lt i e).1; have := HB.out; omega))
            clear hne7
            go_wp2
            exact ⟨⟨j + 1, by omega, by omega, by go_num, OW7.out, P7.out, T7.out⟩, by simp [intOf]; omega⟩
          · have zb : (bits .and .u16 ((p.blp : Int) / 2 ^ (j - 1)) 1 == 1) = false := by rw [tell_bit _ _ hp2, decide_eq_false hb1]
            rw [if_neg hb1, List.append_nil] at HNX
            clear hb1
            have hW := OWJ.out
            rw [← HNX.out] at hW
            have OW7 := Lib.hid hW
            clear hW
            go_wp2
            exact ⟨⟨j + 1, by omega, by omega, by go_num, OW7.out, PJ.out, TJ.out⟩, by simp [intOf]; omega⟩
        · obtain rfl : j = 17 := by omega
          have hW := OWJ.out
          rw [amid_end l k p HX.out] at hW
          have HW := Lib.hid hW
          clear hW
          go_wp2
          exact ⟨⟨k + 1, by omega, by go_num, HW.out, TJ.out⟩, by simp [intOf]; omega⟩
    · obtain rfl : k = L := by omega
      have hP := OW.out
      rw [List.take_of_length_le (by rw [HL.out]; exact Nat.le_refl _)] at hP
      have HP := Lib.hid hP
      clear hP
      go_wp2
      go_ret
      exact ⟨_, rfl, HP.out, O3.out⟩
end Go.Proofs.Ytefcimkopgcagaa

/- easellaw07's pairs, sameNumbers, samePairs, where what is compared is the same. Conditions: as each says. -/
set_option linter.unusedVariables false
namespace Go.Proofs.Ytefcimkopgcagaa
open Go.RowKit

theorem OwnP.only {B : Nat} {T : TypeId} {v : Value} {l : List Pr} {w w1 : World} {S : Nat → Prop} (h : OwnP B T v l w) (ho : Only S w w1) (hs : ∀ k, v.ownBlock = some k → ¬ S k) : OwnP B T v l w1 := OwnS.only h ho hs
theorem OwnP.slice {B : Nat} {T : TypeId} {v : Value} {l : List Pr} {w : World} (h : OwnP B T v l w) : ∃ A c, v = .slice A l.length c ∧ l.length ≤ c := by
  obtain ⟨A, c, rfl, hc⟩ := OwnS.slice h
  rw [List.length_map] at hc ⊢
  exact ⟨A, c, rfl, hc⟩
section
variable {ops : Array Oper} {rest : List Oper} {o : Oper} {a : Act} {Q : Exit → Act → World → Prop} {K : Act → World → Prop} {E : Prop}
theorem step_append_pr {t T : TypeId} (st : Sty t T 2 4) (wr : World) (hgd : o.guard = none) (s x : Operand)
    (ho : o.op = .call { callee := .builtin .append, args := #[s, x], argTypes := #[t, t] })
    (B : Nat) (v : Value) (l : List Pr) (y : Pr) (hs : a.eval s = v) (hown : OwnP B T v l wr)
    (hx : a.eval x = .slice (some ⟨wr.heap.size, 0, none⟩) 1 1) (hl : l.length ≤ 100000) (hB : B ≤ wr.heap.size)
    (h : ∀ v' w', OwnP B T v' (l ++ [y]) w' → Only (fun k => v.ownBlock = some k) wr w' → K (a.put o.dst v') w') :
    if Region.wanted o (yielded ops a.tmps) = true then Oper.wp Try.prog o a (wr.alloc (.cells #[.int .u16 (y.pid : Nat), .int .u16 (y.blp : Nat)] T)) K Q else E := by
  refine step_append_struct _ hgd s x st ho B v (l.map Pr.lst) hs (OwnS.only hown ((Only.refl (fun _ => False) wr).alloc _) (by simp)) wr.heap.size y.lst hx (Is.made wr _ _) rfl (by simp [Pr.lst, Value.oneCell']) (by simpa using hl) (show 4 ≤ 100000 by decide) (by simp; omega) (fun v' w' h1 h2 => h v' w' ?_ (((Only.refl _ wr).alloc _).trans h2 (fun i hi e => e)))
  unfold OwnP
  rw [List.map_append]
  exact h1
theorem wpList_append_pr {t T : TypeId} (st : Sty t T 2 4) (wr : World) (hgd : o.guard = none) (s x : Operand)
    (ho : o.op = .call { callee := .builtin .append, args := #[s, x], argTypes := #[t, t] })
    (B : Nat) (v : Value) (l : List Pr) (y : Pr) (hs : a.eval s = v) (hown : OwnP B T v l wr) (Y Z : Int) (hY : Y = (y.pid : Int)) (hZ : Z = (y.blp : Int))
    (hx : a.eval x = .slice (some ⟨wr.heap.size, 0, none⟩) 1 1) (hl : l.length ≤ 100000) (hB : B ≤ wr.heap.size)
    (h : ∀ v' w', OwnP B T v' (l ++ [y]) w' → Only (fun k => v.ownBlock = some k) wr w' → wpList Try.prog ops Q rest (a.put o.dst v') w') :
    wpList Try.prog ops Q (o :: rest) a (wr.alloc (.cells #[.int .u16 Y, .int .u16 Z] T)) := by
  subst hY hZ
  refine wpList_append_struct _ hgd s x st ho B v (l.map Pr.lst) hs (OwnS.only hown ((Only.refl (fun _ => False) wr).alloc _) (by simp)) wr.heap.size y.lst hx (Is.made wr _ _) rfl (by simp [Pr.lst, Value.oneCell']) (by simpa using hl) (show 4 ≤ 100000 by decide) (by simp; omega) (fun v' w' h1 h2 => h v' w' ?_ (((Only.refl _ wr).alloc _).trans h2 (fun i hi e => e)))
  unfold OwnP
  rw [List.map_append]
  exact h1
end

set_option maxRecDepth 100000 in
set_option maxHeartbeats 2000000 in
theorem pairs_is (v : Value) (l : List Pr) (w : World) (hr : RdP w v l) (hl : l.length ≤ 10000) :
    Calls Try.prog 27 #[v] w fun e w' => ∃ v', e = .returned v' ∧ OwnP w.heap.size 83 v' l w' ∧ Only (fun _ => False) w w' := by
  obtain ⟨A1, c1, rfl, hlc1, hh1⟩ := hr
  have H1 := Lib.hid hh1
  obtain ⟨L, hL⟩ : ∃ L, l.length = L := ⟨_, rfl⟩
  have HL := Lib.hid hL
  rw [hL] at hl hlc1 ⊢
  obtain ⟨B, hB⟩ : ∃ n, w.heap.size = n := ⟨_, rfl⟩
  have HB := Lib.hid hB
  rw [hB]
  clear hL hh1 hB
  go_enter Try.func27, Try.ntmps27
  go_wp2
  go_loopw [3, 4] (fun s3 s4 wr => ∃ k : Nat, k ≤ L ∧ s4 = .int .i64 k ∧ OwnP B 83 s3 (l.take k) wr ∧ Only (fun _ => False) w wr) (fun _ s4 _ => L - (intOf s4).toNat)
  case atStart => exact ⟨0, by omega, rfl, OwnP.nil w B _, Only.refl _ _⟩
  case round =>
    obtain ⟨k, hk, rfl, hown, ho⟩ := hrel
    have OW := Lib.hid hown
    have O3 := Lib.hid ho
    obtain ⟨A3, c3, e3, -⟩ := hown.slice
    have LT := Lib.hid (show (l.take k).length = k from by rw [List.length_take, HL.out]; omega)
    rw [LT.out] at e3
    subst e3
    clear hown ho
    by_cases hkl : k < L
    · have hkb : k < l.length := by rw [HL.out]; exact hkl
      obtain ⟨y, hx⟩ : ∃ x, l[k]? = some x := ⟨_, List.getElem?_eq_getElem hkb⟩
      obtain ⟨g, o, rfl, hcell⟩ := H1.out (by rw [HL.out]; omega)
      have P0 := Lib.hid (hcell k y hx)
      have HGW := Lib.hid (show g < w.heap.size from World.block_lt_of_cell? w _ (hcell k y hx).1)
      obtain ⟨q0, q1⟩ := P0.out.only O3.out (by simp)
      have HTK := Lib.hid (take_snoc hx)
      have hkI : (k : Int) < (L : Int) := by omega
      have SZ := Lib.hid (show B ≤ wr.heap.size from by rw [← HB.out]; exact O3.out.size)
      have LX := Lib.hid (show (l.take k).length ≤ 100000 from by rw [LT.out]; omega)
      clear hcell hx hkb
      go_upto_region 5 with (fail)
      have KF1 := Lib.hid (show wr.drew.cell? ⟨g, o + k * 2, none⟩ = some (.int .u16 (y.pid : Nat)) ∧ wr.drew.cell? ⟨g, o + k * 2 + 1, none⟩ = some (.int .u16 (y.blp : Nat)) from ⟨q0, q1⟩)
      have KF2 := Lib.hid (fun ob => (show (wr.drew.alloc ob).cell? ⟨g, o + k * 2, none⟩ = some (.int .u16 (y.pid : Nat)) ∧ (wr.drew.alloc ob).cell? ⟨g, o + k * 2 + 1, none⟩ = some (.int .u16 (y.blp : Nat)) from by
        have h := PCells.only (S := fun _ => False) KF1.out ((Only.refl (fun _ => False) wr.drew).alloc ob) (by simp)
        exact h))
      have KF3 := Lib.hid (fun w7 (hp7 : Only (fun q => (Value.slice A3 k c3).ownBlock = some q) wr.drew w7) => (show w7.cell? ⟨g, o + k * 2, none⟩ = some (.int .u16 (y.pid : Nat)) ∧ w7.cell? ⟨g, o + k * 2 + 1, none⟩ = some (.int .u16 (y.blp : Nat)) from by
        have hg : ¬ (Value.slice A3 k c3).ownBlock = some g := fun e => by
          have := (OW.out.1.lt g e).1
          have := HB.out
          have := HGW.out
          omega
        exact PCells.only KF1.out hp7 hg))
      go_region_held3 (fun w' => w'.cell? ⟨g, o + k * 2, none⟩ = some (.int .u16 (y.pid : Nat)) ∧ w'.cell? ⟨g, o + k * 2 + 1, none⟩ = some (.int .u16 (y.blp : Nat))) (first | exact KF1.out | exact KF2.out _ | exact KF3.out _ hp7) (first
        | (refine step_append_pr sty_rp _ (by rfl) (.tmp 11) (.tmp 23) (by rfl) B (.slice A3 k c3) (l.take k) y (by rfl) (OW.out.only (only_drewN _ 1) (by simp)) (by rfl) LX.out SZ.out ?_; intro v7 w7 hr7 hp7))
      rw [← HTK.out] at hr7
      have HE := Lib.hid hr7
      have HO := Lib.hid ((only_more O3.out (only_drewN wr 1)).trans hp7 (fun i hi e => by have := (OW.out.1.lt i e).1; have := HB.out; omega))
      clear hr7 hp7
      go_wp2
      refine ⟨⟨k + 1, by omega, by go_num, HE.out, HO.out⟩, by simp [intOf]; omega⟩
    · obtain rfl : k = L := by omega
      have hP := OW.out
      rw [List.take_of_length_le (by rw [HL.out]; exact Nat.le_refl _)] at hP
      have HP := Lib.hid hP
      clear hP
      go_wp2
      go_ret
      exact ⟨_, rfl, HP.out, O3.out⟩

set_option maxRecDepth 100000 in
set_option maxHeartbeats 2000000 in
theorem samenums_yes (va vb : Value) (l : List Nat) (w : World) (ha : Rd .u16 w va (nats l)) (hb : Rd .u16 w vb (nats l)) (hl : l.length ≤ 1000000) :
    Calls Try.prog 30 #[va, vb] w fun e w' => e = .returned (.bool true) ∧ Only (fun _ => False) w w' := by
  obtain ⟨A1, c1, rfl, hlc1, hh1⟩ := ha
  obtain ⟨A2, c2, rfl, hlc2, hh2⟩ := hb
  rw [nats_length] at *
  have H1 := Lib.hid hh1
  have H2 := Lib.hid hh2
  obtain ⟨L, hL⟩ : ∃ L, l.length = L := ⟨_, rfl⟩
  have HL := Lib.hid hL
  rw [hL] at hl hlc1 hlc2 ⊢
  clear hL hh1 hh2
  go_enter Try.func30, Try.ntmps30
  go_wp2
  go_loopw [5] (fun s5 wr => ∃ k : Nat, k ≤ L ∧ s5 = .int .i64 k ∧ ∃ n, wr = w.drewN n) (fun s5 _ => L - (intOf s5).toNat)
  case atStart => exact ⟨0, by omega, rfl, 0, by simp [World.drewN]⟩
  case round =>
    obtain ⟨k, hk, rfl, n, rfl⟩ := hrel
    by_cases hkl : k < L
    · have hkI : (k : Int) < (L : Int) := by omega
      obtain ⟨g1, o1, rfl, hc1⟩ := H1.out (by rw [nats_length, HL.out]; omega)
      obtain ⟨g2, o2, rfl, hc2⟩ := H2.out (by rw [nats_length, HL.out]; omega)
      have hkn : k < (nats l).length := by rw [nats_length, HL.out]; exact hkl
      have r1 := hc1 k hkn
      have r2 := hc2 k hkn
      generalize (nats l)[k] = z at r1 r2
      clear hc1 hc2 hkn
      go_wp2
      go_quiet (fail)
      go_wp2
      exact ⟨⟨k + 1, by omega, by go_num, _, rfl⟩, by simp [intOf]; omega⟩
    · obtain rfl : k = L := by omega
      go_wp2
      go_ret
      exact ⟨rfl, only_drewN w n⟩
end Go.Proofs.Ytefcimkopgcagaa

/- easelref07.Same of two messages that are the same. Conditions: as it says. -/
set_option linter.unusedVariables false
namespace Go.Proofs.Ytefcimkopgcagaa
open Go.RowKit

structure Od where
  ssrc : Nat
  no : Nat
def Od.Fit (p : Od) : Prop := p.ssrc < 4294967296 ∧ p.no < 256
def Od.lst (p : Od) : List Value := [.int .u32 (p.ssrc : Nat), .int .u8 (p.no : Nat)]
def OCells (w : World) (g o i : Nat) (p : Od) : Prop :=
  w.cell? ⟨g, o + i * 2, none⟩ = some (.int .u32 (p.ssrc : Nat)) ∧ w.cell? ⟨g, o + i * 2 + 1, none⟩ = some (.int .u8 (p.no : Nat))
theorem OCells.only {w w1 : World} {g o i : Nat} {p : Od} {S : Nat → Prop} (h : OCells w g o i p) (ho : Only S w w1) (hS : ¬ S g) : OCells w1 g o i p :=
  ⟨(ho.cell (World.block_lt_of_cell? w _ h.1) hS).trans h.1, (ho.cell (World.block_lt_of_cell? w _ h.2) hS).trans h.2⟩
def RdO (w : World) (v : Value) (l : List Od) : Prop :=
  ∃ A c, v = .slice A l.length c ∧ l.length ≤ c ∧ (0 < l.length → ∃ g o, A = some ⟨g, o, none⟩ ∧ ∀ (i : Nat) (p : Od), l[i]? = some p → OCells w g o i p)
theorem RdO.only {w w1 : World} {v : Value} {l : List Od} (h : RdO w v l) (ho : Only (fun _ => False) w w1) : RdO w1 v l := by
  obtain ⟨A, c, rfl, hc, hh⟩ := h
  refine ⟨A, c, rfl, hc, fun hp => ?_⟩
  obtain ⟨g, o, rfl, hi⟩ := hh hp
  exact ⟨g, o, rfl, fun i p hx => (hi i p hx).only ho (by simp)⟩
theorem RdO.nil (w : World) : RdO w (.slice none 0 0) [] := ⟨none, 0, rfl, by simp, fun h => by simp at h⟩
/-- A message, plainly. -/
structure Ms where
  sort : Nat
  sender : Nat
  media : Nat
  pairs : List Pr
  orders : List Od
  exp : Nat
  mant : Nat
  srcs : List Nat
def Ms.cls (m : Ms) (vp vo vs : Value) : Array Value := #[.int .u8 (m.sort : Nat), .int .u32 (m.sender : Nat), .int .u32 (m.media : Nat), vp, vo, .int .u8 (m.exp : Nat), .int .u32 (m.mant : Nat), vs]
structure RdM (m : Ms) (vp vo vs : Value) (w : World) : Prop where
  p : RdP w vp m.pairs
  o : RdO w vo m.orders
  s : Rd .u32 w vs (nats m.srcs)
theorem RdM.only {m : Ms} {vp vo vs : Value} {w w1 : World} (h : RdM m vp vo vs w) (ho : Only (fun _ => False) w w1) : RdM m vp vo vs w1 := ⟨h.p.only ho, h.o.only ho, h.s.only ho (by simp)⟩

theorem ok_bool {r : Result Bool} {v : Bool} {w : World} (h : (r.andThen fun b w' => .ok (Value.bool b) w') = .ok (.bool v) w) : r = .ok v w := by
  cases r <;> simp_all [Result.andThen]
theorem eq_rp (a b : Nat) (w : World) : (binOp .eql 83 (.agg #[.int .u16 (a : Nat), .int .u16 (b : Nat)]) (.agg #[.int .u16 (a : Nat), .int .u16 (b : Nat)])).run Try.prog w = .ok (.bool true) w := by
  rw [run_eql_struct, run_equalIn_agg w 9999 _ _ _ (by kernel_rfl) (by kernel_rfl)]
  simp only [Program.fieldsOf, Try.underlying83]
  simp [Op.eqFields, go_sem]
theorem eq_ro (a b : Nat) (w : World) : (binOp .eql 86 (.agg #[.int .u32 (a : Nat), .int .u8 (b : Nat)]) (.agg #[.int .u32 (a : Nat), .int .u8 (b : Nat)])).run Try.prog w = .ok (.bool true) w := by
  rw [run_eql_struct, run_equalIn_agg w 9999 _ _ _ (by kernel_rfl) (by kernel_rfl)]
  simp only [Program.fieldsOf, Try.underlying86]
  simp [Op.eqFields, go_sem]
theorem run_neq_rp {o : Oper} {ρ : Operand → Value} (w : World) (x y : Operand) (a b : Nat) (ho : o.op = .binOp .neq 83 x y 83) (hx : ρ x = .agg #[.int .u16 (a : Nat), .int .u16 (b : Nat)]) (hy : ρ y = .agg #[.int .u16 (a : Nat), .int .u16 (b : Nat)]) :
    (execOp ρ o).run Try.prog w = .ok (.value (.bool false)) w := by
  have h := eq_rp a b w
  rw [run_eql_struct] at h
  have hn : (binOp .neq 83 (.agg #[.int .u16 (a : Nat), .int .u16 (b : Nat)]) (.agg #[.int .u16 (a : Nat), .int .u16 (b : Nat)])).run Try.prog w = .ok (.bool false) w := by
    rw [run_neq_struct, ok_bool h]
    rfl
  unfold execOp
  simp only [ho, hx, hy, Sem.run_bind, Sem.run_pure, Result.andThen_ok, run_eqGuard_agg (P := Try.prog) w .neq 83 x y _ _ (by kernel_rfl), hn]
theorem run_neq_ro {o : Oper} {ρ : Operand → Value} (w : World) (x y : Operand) (a b : Nat) (ho : o.op = .binOp .neq 86 x y 86) (hx : ρ x = .agg #[.int .u32 (a : Nat), .int .u8 (b : Nat)]) (hy : ρ y = .agg #[.int .u32 (a : Nat), .int .u8 (b : Nat)]) :
    (execOp ρ o).run Try.prog w = .ok (.value (.bool false)) w := by
  have h := eq_ro a b w
  rw [run_eql_struct] at h
  have hn : (binOp .neq 86 (.agg #[.int .u32 (a : Nat), .int .u8 (b : Nat)]) (.agg #[.int .u32 (a : Nat), .int .u8 (b : Nat)])).run Try.prog w = .ok (.bool false) w := by
    rw [run_neq_struct, ok_bool h]
    rfl
  unfold execOp
  simp only [ho, hx, hy, Sem.run_bind, Sem.run_pure, Result.andThen_ok, run_eqGuard_agg (P := Try.prog) w .neq 86 x y _ _ (by kernel_rfl), hn]

set_option maxRecDepth 100000 in
set_option maxHeartbeats 4000000 in
theorem rmsame_yes (m : Ms) (p1 o1 s1 p2 o2 s2 : Value) (w : World) (h1 : RdM m p1 o1 s1 w) (h2 : RdM m p2 o2 s2 w) (hl : m.pairs.length ≤ 1000000 ∧ m.orders.length ≤ 1000000 ∧ m.srcs.length ≤ 1000000) :
    Calls Try.prog 18 #[.agg (m.cls p1 o1 s1), .agg (m.cls p2 o2 s2)] w fun e w' => e = .returned (.bool true) ∧ Only (fun _ => False) w w' := by
  have R1 := Lib.hid h1
  have R2 := Lib.hid h2
  obtain ⟨P1, d1, rfl, -, -⟩ := h1.p
  obtain ⟨O1, e1, rfl, -, -⟩ := h1.o
  obtain ⟨S1, f1, rfl, -, -⟩ := h1.s
  obtain ⟨P2, d2, rfl, -, -⟩ := h2.p
  obtain ⟨O2, e2, rfl, -, -⟩ := h2.o
  obtain ⟨S2, f2, rfl, -, -⟩ := h2.s
  rw [nats_length] at *
  obtain ⟨hl1, hl2, hl3⟩ := hl
  clear h1 h2
  obtain ⟨A, hA⟩ : ∃ a, m.cls (.slice P1 m.pairs.length d1) (.slice O1 m.orders.length e1) (.slice S1 m.srcs.length f1) = a := ⟨_, rfl⟩
  obtain ⟨B, hB⟩ : ∃ a, m.cls (.slice P2 m.pairs.length d2) (.slice O2 m.orders.length e2) (.slice S2 m.srcs.length f2) = a := ⟨_, rfl⟩
  have HA := Lib.hid hA
  have HB := Lib.hid hB
  rw [hA, hB]
  clear hA hB
  go_enter Try.func18, Try.ntmps18
  go_upto_region 1 with (fail)
  generalize hw0 : World.alloc (World.alloc _ _) _ = w0
  have I1 := Lib.hid (show Is w0 w.heap.size 33 A from by rw [← hw0]; exact (Is.made w _ _).alloc _)
  have I2 := Lib.hid (show Is w0 (w.heap.size + 1) 33 B from by rw [← hw0]; have := Is.made (w.alloc (.cells A 33)) 33 B; rw [World.size_alloc] at this; exact this)
  have T0 := Lib.hid (show Only (fun _ => False) w w0 from by rw [← hw0]; exact ((Only.refl _ w).alloc _).alloc _)
  obtain ⟨ab, hab⟩ : ∃ k, w.heap.size = k := ⟨_, rfl⟩
  obtain ⟨bb, hbb⟩ : ∃ k, w.heap.size + 1 = k := ⟨_, rfl⟩
  rw [hbb] at I2 ⊢
  rw [hab] at I1 ⊢
  clear hw0 hab hbb
  have Q1 := Lib.hid (R1.out.only T0.out)
  have Q2 := Lib.hid (R2.out.only T0.out)
  clear R1 R2
  have a0 := I1.out.cell 0
  have a1 := I1.out.cell 1
  have a2 := I1.out.cell 2
  have a3 := I1.out.cell 3
  have a4 := I1.out.cell 4
  have a5 := I1.out.cell 5
  have a6 := I1.out.cell 6
  have a7 := I1.out.cell 7
  have b0 := I2.out.cell 0
  have b1 := I2.out.cell 1
  have b2 := I2.out.cell 2
  have b3 := I2.out.cell 3
  have b4 := I2.out.cell 4
  have b5 := I2.out.cell 5
  have b6 := I2.out.cell 6
  have b7 := I2.out.cell 7
  rw [← HA.out] at a0 a1 a2 a3 a4 a5 a6 a7
  rw [← HB.out] at b0 b1 b2 b3 b4 b5 b6 b7
  simp [Ms.cls] at a0 a1 a2 a3 a4 a5 a6 a7 b0 b1 b2 b3 b4 b5 b6 b7
  obtain ⟨L1, hL1⟩ : ∃ L, m.pairs.length = L := ⟨_, rfl⟩
  obtain ⟨L2, hL2⟩ : ∃ L, m.orders.length = L := ⟨_, rfl⟩
  obtain ⟨L3, hL3⟩ : ∃ L, m.srcs.length = L := ⟨_, rfl⟩
  have HL1 := Lib.hid hL1
  have HL2 := Lib.hid hL2
  have HL3 := Lib.hid hL3
  rw [hL1] at hl1 a3 b3
  rw [hL2] at hl2 a4 b4
  rw [hL3] at hl3 a7 b7
  clear hL1 hL2 hL3
  go_upto_region 3 with (fail)
  clear a0 a1 a2 a5 a6 b0 b1 b2 b5 b6
  go_wp2
  go_loopw [5] (fun s5 wr => ∃ k : Nat, k ≤ L1 ∧ s5 = .int .i64 k ∧ ∃ n, wr = w0.drewN n) (fun s5 _ => L1 - (intOf s5).toNat)
  case atStart => exact ⟨0, by omega, rfl, 0, by simp [World.drewN]⟩
  case round =>
    obtain ⟨k, hk, rfl, n, rfl⟩ := hrel
    by_cases hkl : k < L1
    · have hkI : (k : Int) < (L1 : Int) := by omega
      obtain ⟨A1', c1', eA, -, hc1⟩ := Q1.out.p
      injection eA with eA
      subst eA
      obtain ⟨A2', c2', eB, -, hc2⟩ := Q2.out.p
      injection eB with eB
      subst eB
      obtain ⟨g1, q1, rfl, hd1⟩ := hc1 (by rw [HL1.out]; omega)
      obtain ⟨g2, q2, rfl, hd2⟩ := hc2 (by rw [HL1.out]; omega)
      obtain ⟨y, hy⟩ : ∃ y, m.pairs[k]? = some y := ⟨_, List.getElem?_eq_getElem (by rw [HL1.out]; exact hkl)⟩
      obtain ⟨r10, r11⟩ := hd1 k y hy
      obtain ⟨r20, r21⟩ := hd2 k y hy
      clear hc1 hc2 hd1 hd2 hy
      go_upto_region 6 with (fail)
      refine wp_region_posts [[], [0], [], [1, 2, 0], [3, 1, 2, 0], [], [5], [], [6, 7, 5], [8, 6, 7, 5], [4, 9, 3, 1, 2, 0, 8, 6, 7, 5]] [] [] [[], [], [], [], [], [], [], [], [], [], []] [[], [], [], [], [], [], [], [], [], [], []] [] [] [] []
          [some ?vp0, some ?vp1, some ?vp2, some ?vp3, some ?vp4, some ?vp5, some ?vp6, some ?vp7, some ?vp8, some ?vp9, some (.bool false)]
          ?Tp (fun wx => ∃ n', wx = w0.drewN n') ?Wp ?Ep (by kernel_rfl) (by kernel_rfl) (by kernel_rfl) (fun x => ?hTp) ?hFp ?hinip (Reg.all_ops ?runsp) ?presp ?finp
      case Wp => exact fun j x w' => True
      case Ep => exact fun _ w' w'' => True
      case hTp =>
        simp only [Reg.fillV, Act.put, List.setIfInBounds_toArray, List.set_cons_zero, List.set_cons_succ]
        rfl
      case runsp =>
        refine And.intro ?_ ?_
        · refine Reg.ob_pure (fun _ => rfl) rfl rfl rfl rfl (fun x w1 hF => ?_)
          obtain ⟨n', rfl⟩ := hF
          go_simp
          with_reducible rfl
        refine And.intro ?_ ?_
        · refine Reg.ob_pure (fun _ => rfl) rfl rfl rfl rfl (fun x w1 hF => ?_)
          obtain ⟨n', rfl⟩ := hF
          go_simp
          with_reducible rfl
        refine And.intro ?_ ?_
        · refine Reg.ob_pure (fun _ => rfl) rfl rfl rfl rfl (fun x w1 hF => ?_)
          obtain ⟨n', rfl⟩ := hF
          go_simp
          with_reducible rfl
        refine And.intro ?_ ?_
        · refine Reg.ob_pure (fun _ => rfl) rfl rfl rfl rfl (fun x w1 hF => ?_)
          obtain ⟨n', rfl⟩ := hF
          go_simp
          with_reducible rfl
        refine And.intro ?_ ?_
        · refine Reg.ob_pure (fun _ => rfl) rfl rfl rfl rfl (fun x w1 hF => ?_)
          obtain ⟨n', rfl⟩ := hF
          go_simp
          with_reducible rfl
        refine And.intro ?_ ?_
        · refine Reg.ob_pure (fun _ => rfl) rfl rfl rfl rfl (fun x w1 hF => ?_)
          obtain ⟨n', rfl⟩ := hF
          go_simp
          with_reducible rfl
        refine And.intro ?_ ?_
        · refine Reg.ob_pure (fun _ => rfl) rfl rfl rfl rfl (fun x w1 hF => ?_)
          obtain ⟨n', rfl⟩ := hF
          go_simp
          with_reducible rfl
        refine And.intro ?_ ?_
        · refine Reg.ob_pure (fun _ => rfl) rfl rfl rfl rfl (fun x w1 hF => ?_)
          obtain ⟨n', rfl⟩ := hF
          go_simp
          with_reducible rfl
        refine And.intro ?_ ?_
        · refine Reg.ob_pure (fun _ => rfl) rfl rfl rfl rfl (fun x w1 hF => ?_)
          obtain ⟨n', rfl⟩ := hF
          go_simp
          with_reducible rfl
        refine And.intro ?_ ?_
        · refine Reg.ob_pure (fun _ => rfl) rfl rfl rfl rfl (fun x w1 hF => ?_)
          obtain ⟨n', rfl⟩ := hF
          go_simp
          with_reducible rfl
        refine And.intro ?_ ?_
        · refine Reg.ob_pure (fun _ => rfl) rfl rfl rfl rfl (fun x w1 hF => ?_)
          exact run_neq_rp _ _ _ y.pid y.blp rfl rfl rfl
        exact trivial
      case hFp =>
        exact ⟨n + 1, rfl⟩
      case hinip =>
        exact trivial
      case presp =>
        intro i hi j hj
        cases hj
      case finp =>
        rintro x w9 hF -
        obtain ⟨n2, rfl⟩ := hF rfl
        go_wp2
        exact ⟨⟨k + 1, by omega, by go_num, n2, rfl⟩, by simp [intOf]; omega⟩
    · obtain rfl : k = L1 := by omega
      go_wp2
      go_loopw [6] (fun s5 wr => ∃ k : Nat, k ≤ L2 ∧ s5 = .int .i64 k ∧ ∃ n, wr = w0.drewN n) (fun s5 _ => L2 - (intOf s5).toNat)
      case atStart => exact ⟨0, by omega, rfl, n, rfl⟩
      case round =>
        obtain ⟨k, hk, rfl, n, rfl⟩ := hrel
        by_cases hkl : k < L2
        · have hkI : (k : Int) < (L2 : Int) := by omega
          obtain ⟨A1', c1', eA, -, hc1⟩ := Q1.out.o
          injection eA with eA
          subst eA
          obtain ⟨A2', c2', eB, -, hc2⟩ := Q2.out.o
          injection eB with eB
          subst eB
          obtain ⟨g1, q1, rfl, hd1⟩ := hc1 (by rw [HL2.out]; omega)
          obtain ⟨g2, q2, rfl, hd2⟩ := hc2 (by rw [HL2.out]; omega)
          obtain ⟨y, hy⟩ : ∃ y, m.orders[k]? = some y := ⟨_, List.getElem?_eq_getElem (by rw [HL2.out]; exact hkl)⟩
          obtain ⟨r10, r11⟩ := hd1 k y hy
          obtain ⟨r20, r21⟩ := hd2 k y hy
          clear hc1 hc2 hd1 hd2 hy
          go_upto_region 11 with (fail)
          refine wp_region_posts [[], [0], [], [1, 2, 0], [3, 1, 2, 0], [], [5], [], [6, 7, 5], [8, 6, 7, 5], [4, 9, 3, 1, 2, 0, 8, 6, 7, 5]] [] [] [[], [], [], [], [], [], [], [], [], [], []] [[], [], [], [], [], [], [], [], [], [], []] [] [] [] []
              [some ?vo0, some ?vo1, some ?vo2, some ?vo3, some ?vo4, some ?vo5, some ?vo6, some ?vo7, some ?vo8, some ?vo9, some (.bool false)]
              ?To (fun wx => ∃ n', wx = w0.drewN n') ?Wo ?Eo (by kernel_rfl) (by kernel_rfl) (by kernel_rfl) (fun x => ?hTo) ?hFo ?hinio (Reg.all_ops ?runso) ?preso ?fino
          case Wo => exact fun j x w' => True
          case Eo => exact fun _ w' w'' => True
          case hTo =>
            simp only [Reg.fillV, Act.put, List.setIfInBounds_toArray, List.set_cons_zero, List.set_cons_succ]
            rfl
          case runso =>
            refine And.intro ?_ ?_
            · refine Reg.ob_pure (fun _ => rfl) rfl rfl rfl rfl (fun x w1 hF => ?_)
              obtain ⟨n', rfl⟩ := hF
              go_simp
              with_reducible rfl
            refine And.intro ?_ ?_
            · refine Reg.ob_pure (fun _ => rfl) rfl rfl rfl rfl (fun x w1 hF => ?_)
              obtain ⟨n', rfl⟩ := hF
              go_simp
              with_reducible rfl
            refine And.intro ?_ ?_
            · refine Reg.ob_pure (fun _ => rfl) rfl rfl rfl rfl (fun x w1 hF => ?_)
              obtain ⟨n', rfl⟩ := hF
              go_simp
              with_reducible rfl
            refine And.intro ?_ ?_
            · refine Reg.ob_pure (fun _ => rfl) rfl rfl rfl rfl (fun x w1 hF => ?_)
              obtain ⟨n', rfl⟩ := hF
              go_simp
              with_reducible rfl
            refine And.intro ?_ ?_
            · refine Reg.ob_pure (fun _ => rfl) rfl rfl rfl rfl (fun x w1 hF => ?_)
              obtain ⟨n', rfl⟩ := hF
              go_simp
              with_reducible rfl
            refine And.intro ?_ ?_
            · refine Reg.ob_pure (fun _ => rfl) rfl rfl rfl rfl (fun x w1 hF => ?_)
              obtain ⟨n', rfl⟩ := hF
              go_simp
              with_reducible rfl
            refine And.intro ?_ ?_
            · refine Reg.ob_pure (fun _ => rfl) rfl rfl rfl rfl (fun x w1 hF => ?_)
              obtain ⟨n', rfl⟩ := hF
              go_simp
              with_reducible rfl
            refine And.intro ?_ ?_
            · refine Reg.ob_pure (fun _ => rfl) rfl rfl rfl rfl (fun x w1 hF => ?_)
              obtain ⟨n', rfl⟩ := hF
              go_simp
              with_reducible rfl
            refine And.intro ?_ ?_
            · refine Reg.ob_pure (fun _ => rfl) rfl rfl rfl rfl (fun x w1 hF => ?_)
              obtain ⟨n', rfl⟩ := hF
              go_simp
              with_reducible rfl
            refine And.intro ?_ ?_
            · refine Reg.ob_pure (fun _ => rfl) rfl rfl rfl rfl (fun x w1 hF => ?_)
              obtain ⟨n', rfl⟩ := hF
              go_simp
              with_reducible rfl
            refine And.intro ?_ ?_
            · refine Reg.ob_pure (fun _ => rfl) rfl rfl rfl rfl (fun x w1 hF => ?_)
              exact run_neq_ro _ _ _ y.ssrc y.no rfl rfl rfl
            exact trivial
          case hFo =>
            exact ⟨n + 1, rfl⟩
          case hinio =>
            exact trivial
          case preso =>
            intro i hi j hj
            cases hj
          case fino =>
            rintro x w9 hF -
            obtain ⟨n2, rfl⟩ := hF rfl
            go_wp2
            exact ⟨⟨k + 1, by omega, by go_num, n2, rfl⟩, by simp [intOf]; omega⟩
        · obtain rfl : k = L2 := by omega
          go_wp2
          go_loopw [7] (fun s5 wr => ∃ k : Nat, k ≤ L3 ∧ s5 = .int .i64 k ∧ ∃ n, wr = w0.drewN n) (fun s5 _ => L3 - (intOf s5).toNat)
          case atStart => exact ⟨0, by omega, rfl, n, rfl⟩
          case round =>
            obtain ⟨k, hk, rfl, n, rfl⟩ := hrel
            by_cases hkl : k < L3
            · have hkI : (k : Int) < (L3 : Int) := by omega
              obtain ⟨A1', c1', eA, -, hc1⟩ := Q1.out.s
              injection eA with eA
              subst eA
              obtain ⟨A2', c2', eB, -, hc2⟩ := Q2.out.s
              injection eB with eB
              subst eB
              obtain ⟨g1, q1, rfl, hd1⟩ := hc1 (by rw [nats_length, HL3.out]; omega)
              obtain ⟨g2, q2, rfl, hd2⟩ := hc2 (by rw [nats_length, HL3.out]; omega)
              have hkn : k < (nats m.srcs).length := by rw [nats_length, HL3.out]; exact hkl
              have r1 := hd1 k hkn
              have r2 := hd2 k hkn
              generalize (nats m.srcs)[k] = z at r1 r2
              clear hc1 hc2 hd1 hd2 hkn
              go_wp2
              go_quiet (fail)
              go_wp2
              exact ⟨⟨k + 1, by omega, by go_num, _, rfl⟩, by simp [intOf]; omega⟩
            · obtain rfl : k = L3 := by omega
              go_wp2
              go_ret
              exact ⟨rfl, only_more T0.out (only_drewN w0 n)⟩
end Go.Proofs.Ytefcimkopgcagaa

/- slices.Equal of pairs, and of orders. Conditions: as each says. -/
set_option linter.unusedVariables false
namespace Go.Proofs.Ytefcimkopgcagaa
open Go.RowKit

instance : DecidableEq Pr := fun a b => decidable_of_iff (a.pid = b.pid ∧ a.blp = b.blp) ⟨fun h => by cases a; cases b; simp_all, fun h => by subst h; exact ⟨rfl, rfl⟩⟩
instance : DecidableEq Od := fun a b => decidable_of_iff (a.ssrc = b.ssrc ∧ a.no = b.no) ⟨fun h => by cases a; cases b; simp_all, fun h => by subst h; exact ⟨rfl, rfl⟩⟩
theorem take_eq_of7 {α : Type} (xs bs : List α) (k : Nat) (hk : k < xs.length) (hk2 : k < bs.length) (h : xs.take k = bs.take k) (he : xs[k] = bs[k]) : xs.take (k + 1) = bs.take (k + 1) := by
  rw [List.take_succ_eq_append_getElem hk, List.take_succ_eq_append_getElem hk2, h, he]

theorem ne_fp (a b c d : Nat) (w : World) (h : ¬ (a = c ∧ b = d)) : (binOp .eql 82 (.agg #[.int .u16 (a : Nat), .int .u16 (b : Nat)]) (.agg #[.int .u16 (c : Nat), .int .u16 (d : Nat)])).run Try.prog w = .ok (.bool false) w := by
  rw [run_eql_struct, run_equalIn_agg w 9999 _ _ _ (by kernel_rfl) (by kernel_rfl)]
  simp only [Program.fieldsOf, Try.underlying82]
  by_cases h1 : a = c
  · have h2 : ¬ b = d := fun e => h ⟨h1, e⟩
    have e2 : ¬ ((b : Int) = (d : Int)) := by omega
    simp [Op.eqFields, go_sem, h1, e2]
  · have e1 : ¬ ((a : Int) = (c : Int)) := by omega
    simp [Op.eqFields, go_sem, e1]
theorem eq_fp (a b : Nat) (w : World) : (binOp .eql 82 (.agg #[.int .u16 (a : Nat), .int .u16 (b : Nat)]) (.agg #[.int .u16 (a : Nat), .int .u16 (b : Nat)])).run Try.prog w = .ok (.bool true) w := by
  rw [run_eql_struct, run_equalIn_agg w 9999 _ _ _ (by kernel_rfl) (by kernel_rfl)]
  simp only [Program.fieldsOf, Try.underlying82]
  simp [Op.eqFields, go_sem]
theorem run_ne_fp {o : Oper} {ρ : Operand → Value} (w : World) (x y : Operand) (a b c d : Nat) (r : Bool) (hr : (binOp .eql 82 (.agg #[.int .u16 (a : Nat), .int .u16 (b : Nat)]) (.agg #[.int .u16 (c : Nat), .int .u16 (d : Nat)])).run Try.prog w = .ok (.bool r) w)
    (ho : o.op = .binOp .neq 82 x y 82) (hx : ρ x = .agg #[.int .u16 (a : Nat), .int .u16 (b : Nat)]) (hy : ρ y = .agg #[.int .u16 (c : Nat), .int .u16 (d : Nat)]) :
    (execOp ρ o).run Try.prog w = .ok (.value (.bool (!r))) w := by
  have h := hr
  rw [run_eql_struct] at h
  have hn : (binOp .neq 82 (.agg #[.int .u16 (a : Nat), .int .u16 (b : Nat)]) (.agg #[.int .u16 (c : Nat), .int .u16 (d : Nat)])).run Try.prog w = .ok (.bool (!r)) w := by
    rw [run_neq_struct, ok_bool h]
    rfl
  unfold execOp
  simp only [ho, hx, hy, Sem.run_bind, Sem.run_pure, Result.andThen_ok, run_eqGuard_agg (P := Try.prog) w .neq 82 x y _ _ (by kernel_rfl), hn]
set_option maxRecDepth 100000 in
set_option maxHeartbeats 4000000 in
theorem equal_fp (va vb : Value) (xs bs : List Pr) (w : World) (ha : RdP w va xs) (hb : RdP w vb bs) (hl : xs.length ≤ 1000000) (hl2 : bs.length ≤ 1000000) :
    Calls Try.prog 50 #[va, vb] w fun e w' => e = .returned (.bool (decide (xs = bs))) ∧ Only (fun _ => False) w w' := by
  obtain ⟨A, c, rfl, -, hca⟩ := ha
  obtain ⟨A', c', rfl, -, hcb⟩ := hb
  by_cases hlen : xs.length = bs.length
  · have HA := Lib.hid hca
    have HB := Lib.hid hcb
    obtain ⟨L, hla⟩ : ∃ L, xs.length = L := ⟨_, rfl⟩
    rw [hla] at hl hlen
    rw [← hlen, hla]
    have HLA := Lib.hid hla
    have HLB := Lib.hid hlen.symm
    obtain ⟨r, hr⟩ : ∃ r, decide (xs = bs) = r := ⟨_, rfl⟩
    have HR := Lib.hid hr
    rw [hr]
    clear hca hcb hla hlen hr hl2
    go_enter Try.func50, Try.ntmps50
    go_wp2
    go_loopw [13] (fun i wr => ∃ k : Nat, k ≤ L ∧ i = .int .i64 k ∧ Hid (xs.take k = bs.take k) ∧ ∃ n, wr = w.drewN n) (fun i _ => L - (intOf i).toNat)
    case atStart => exact ⟨0, by omega, rfl, by simp [Hid], 0, rfl⟩
    case round =>
      obtain ⟨k, hk, rfl, hpre, n, rfl⟩ := hrel
      by_cases hlt : k < L
      · have hkI : (k : Int) < (L : Int) := by omega
        have hka : k < xs.length := by rw [HLA.out]; exact hlt
        have hkb : k < bs.length := by rw [HLB.out]; exact hlt
        obtain ⟨g, o, rfl, ca⟩ := HA.out (by omega)
        obtain ⟨g', o', rfl, cb⟩ := HB.out (by omega)
        obtain ⟨qa0, qa1⟩ := ca k _ (List.getElem?_eq_getElem hka)
        obtain ⟨qb0, qb1⟩ := cb k _ (List.getElem?_eq_getElem hkb)
        by_cases heq : xs[k] = bs[k]
        · have HP := Lib.hid (take_eq_of7 xs bs k hka hkb hpre.out heq)
          rw [← heq] at qb0 qb1
          generalize xs[k] = y at *
          clear hka hkb heq ca cb
          go_upto_region 6 with (fail)
          refine wp_region_posts [[], [], [0, 1], [2, 0, 1], [], [], [4, 5], [6, 4, 5], [3, 7, 2, 0, 1, 6, 4, 5]] [] [] [[], [], [], [], [], [], [], [], []] [[], [], [], [], [], [], [], [], []] [] [] [] []
              [some ?va0, some ?va1, some ?va2, some ?va3, some ?va4, some ?va5, some ?va6, some ?va7, some (.bool false)]
              ?Ta (fun wx => ∃ n', wx = w.drewN n') ?Wa ?Ea (by kernel_rfl) (by kernel_rfl) (by kernel_rfl) (fun x => ?hTa) ?hFa ?hinia (Reg.all_ops ?runsa) ?presa ?fina
          case Wa => exact fun j x w' => True
          case Ea => exact fun _ w' w'' => True
          case hTa =>
            simp only [Reg.fillV, Act.put, List.setIfInBounds_toArray, List.set_cons_zero, List.set_cons_succ]
            rfl
          case runsa =>
            refine And.intro ?_ ?_
            · refine Reg.ob_pure (fun _ => rfl) rfl rfl rfl rfl (fun x w1 hF => ?_)
              obtain ⟨n', rfl⟩ := hF
              go_simp
              with_reducible rfl
            refine And.intro ?_ ?_
            · refine Reg.ob_pure (fun _ => rfl) rfl rfl rfl rfl (fun x w1 hF => ?_)
              obtain ⟨n', rfl⟩ := hF
              go_simp
              with_reducible rfl
            refine And.intro ?_ ?_
            · refine Reg.ob_pure (fun _ => rfl) rfl rfl rfl rfl (fun x w1 hF => ?_)
              obtain ⟨n', rfl⟩ := hF
              go_simp
              with_reducible rfl
            refine And.intro ?_ ?_
            · refine Reg.ob_pure (fun _ => rfl) rfl rfl rfl rfl (fun x w1 hF => ?_)
              obtain ⟨n', rfl⟩ := hF
              go_simp
              with_reducible rfl
            refine And.intro ?_ ?_
            · refine Reg.ob_pure (fun _ => rfl) rfl rfl rfl rfl (fun x w1 hF => ?_)
              obtain ⟨n', rfl⟩ := hF
              go_simp
              with_reducible rfl
            refine And.intro ?_ ?_
            · refine Reg.ob_pure (fun _ => rfl) rfl rfl rfl rfl (fun x w1 hF => ?_)
              obtain ⟨n', rfl⟩ := hF
              go_simp
              with_reducible rfl
            refine And.intro ?_ ?_
            · refine Reg.ob_pure (fun _ => rfl) rfl rfl rfl rfl (fun x w1 hF => ?_)
              obtain ⟨n', rfl⟩ := hF
              go_simp
              with_reducible rfl
            refine And.intro ?_ ?_
            · refine Reg.ob_pure (fun _ => rfl) rfl rfl rfl rfl (fun x w1 hF => ?_)
              obtain ⟨n', rfl⟩ := hF
              go_simp
              with_reducible rfl
            refine And.intro ?_ ?_
            · refine Reg.ob_pure (fun _ => rfl) rfl rfl rfl rfl (fun x w1 hF => ?_)
              exact run_ne_fp _ _ _ y.pid y.blp y.pid y.blp true (eq_fp _ _ _) rfl rfl rfl
            exact trivial
          case hFa =>
            exact ⟨n + 1, rfl⟩
          case hinia =>
            exact trivial
          case presa =>
            intro i hi j hj
            cases hj
          case fina =>
            rintro x w9 hF -
            obtain ⟨n2, rfl⟩ := hF rfl
            go_wp2
            exact ⟨⟨k + 1, by omega, by go_num, HP.out, n2, rfl⟩, by simp [intOf]; omega⟩
        · have HNE := Lib.hid (show decide (xs = bs) = false from decide_eq_false (fun e => heq (by subst e; rfl)))
          have HQ := Lib.hid (show ¬ (xs[k].pid = bs[k].pid ∧ xs[k].blp = bs[k].blp) from fun h => heq (by
            generalize xs[k] = x at *
            generalize bs[k] = y at *
            cases x
            cases y
            simp_all))
          generalize xs[k] = y at *
          generalize bs[k] = z at *
          clear hka hkb heq ca cb
          go_upto_region 6 with (fail)
          refine wp_region_posts [[], [], [0, 1], [2, 0, 1], [], [], [4, 5], [6, 4, 5], [3, 7, 2, 0, 1, 6, 4, 5]] [] [] [[], [], [], [], [], [], [], [], []] [[], [], [], [], [], [], [], [], []] [] [] [] []
              [some ?vb0, some ?vb1, some ?vb2, some ?vb3, some ?vb4, some ?vb5, some ?vb6, some ?vb7, some (.bool true)]
              ?Tb (fun wx => ∃ n', wx = w.drewN n') ?Wb ?Eb (by kernel_rfl) (by kernel_rfl) (by kernel_rfl) (fun x => ?hTb) ?hFb ?hinib (Reg.all_ops ?runsb) ?presb ?finb
          case Wb => exact fun j x w' => True
          case Eb => exact fun _ w' w'' => True
          case hTb =>
            simp only [Reg.fillV, Act.put, List.setIfInBounds_toArray, List.set_cons_zero, List.set_cons_succ]
            rfl
          case runsb =>
            refine And.intro ?_ ?_
            · refine Reg.ob_pure (fun _ => rfl) rfl rfl rfl rfl (fun x w1 hF => ?_)
              obtain ⟨n', rfl⟩ := hF
              go_simp
              with_reducible rfl
            refine And.intro ?_ ?_
            · refine Reg.ob_pure (fun _ => rfl) rfl rfl rfl rfl (fun x w1 hF => ?_)
              obtain ⟨n', rfl⟩ := hF
              go_simp
              with_reducible rfl
            refine And.intro ?_ ?_
            · refine Reg.ob_pure (fun _ => rfl) rfl rfl rfl rfl (fun x w1 hF => ?_)
              obtain ⟨n', rfl⟩ := hF
              go_simp
              with_reducible rfl
            refine And.intro ?_ ?_
            · refine Reg.ob_pure (fun _ => rfl) rfl rfl rfl rfl (fun x w1 hF => ?_)
              obtain ⟨n', rfl⟩ := hF
              go_simp
              with_reducible rfl
            refine And.intro ?_ ?_
            · refine Reg.ob_pure (fun _ => rfl) rfl rfl rfl rfl (fun x w1 hF => ?_)
              obtain ⟨n', rfl⟩ := hF
              go_simp
              with_reducible rfl
            refine And.intro ?_ ?_
            · refine Reg.ob_pure (fun _ => rfl) rfl rfl rfl rfl (fun x w1 hF => ?_)
              obtain ⟨n', rfl⟩ := hF
              go_simp
              with_reducible rfl
            refine And.intro ?_ ?_
            · refine Reg.ob_pure (fun _ => rfl) rfl rfl rfl rfl (fun x w1 hF => ?_)
              obtain ⟨n', rfl⟩ := hF
              go_simp
              with_reducible rfl
            refine And.intro ?_ ?_
            · refine Reg.ob_pure (fun _ => rfl) rfl rfl rfl rfl (fun x w1 hF => ?_)
              obtain ⟨n', rfl⟩ := hF
              go_simp
              with_reducible rfl
            refine And.intro ?_ ?_
            · refine Reg.ob_pure (fun _ => rfl) rfl rfl rfl rfl (fun x w1 hF => ?_)
              exact run_ne_fp _ _ _ y.pid y.blp z.pid z.blp false (ne_fp _ _ _ _ _ HQ.out) rfl rfl rfl
            exact trivial
          case hFb =>
            exact ⟨n + 1, rfl⟩
          case hinib =>
            exact trivial
          case presb =>
            intro i hi j hj
            cases hj
          case finb =>
            rintro x w9 hF -
            obtain ⟨n2, rfl⟩ := hF rfl
            go_wp2
            go_ret
            exact ⟨by rw [← HR.out, HNE.out]; rfl, only_drewN w n2⟩
      · obtain rfl : k = L := by omega
        have HT := Lib.hid (show decide (xs = bs) = true from decide_eq_true (by
          have h := hpre.out
          rw [List.take_of_length_le (by rw [HLA.out]; exact Nat.le_refl _), List.take_of_length_le (by rw [HLB.out]; exact Nat.le_refl _)] at h
          exact h))
        clear hpre
        go_wp2
        go_ret
        exact ⟨by rw [← HR.out, HT.out]; rfl, only_drewN w n⟩
  · have HT := Lib.hid (show decide (xs = bs) = false from decide_eq_false (fun e => hlen (by rw [e])))
    rw [HT.out]
    have zl : ((xs.length : Int) != (bs.length : Int)) = true := by simp; omega
    generalize xs.length = L at *
    generalize bs.length = K at *
    clear hca hcb HT hlen
    go_enter Try.func50, Try.ntmps50
    go_wp2
    go_ret
    exact ⟨rfl, Only.refl _ _⟩

theorem ne_fo (a b c d : Nat) (w : World) (h : ¬ (a = c ∧ b = d)) : (binOp .eql 85 (.agg #[.int .u32 (a : Nat), .int .u8 (b : Nat)]) (.agg #[.int .u32 (c : Nat), .int .u8 (d : Nat)])).run Try.prog w = .ok (.bool false) w := by
  rw [run_eql_struct, run_equalIn_agg w 9999 _ _ _ (by kernel_rfl) (by kernel_rfl)]
  simp only [Program.fieldsOf, Try.underlying85]
  by_cases h1 : a = c
  · have h2 : ¬ b = d := fun e => h ⟨h1, e⟩
    have e2 : ¬ ((b : Int) = (d : Int)) := by omega
    simp [Op.eqFields, go_sem, h1, e2]
  · have e1 : ¬ ((a : Int) = (c : Int)) := by omega
    simp [Op.eqFields, go_sem, e1]
theorem eq_fo (a b : Nat) (w : World) : (binOp .eql 85 (.agg #[.int .u32 (a : Nat), .int .u8 (b : Nat)]) (.agg #[.int .u32 (a : Nat), .int .u8 (b : Nat)])).run Try.prog w = .ok (.bool true) w := by
  rw [run_eql_struct, run_equalIn_agg w 9999 _ _ _ (by kernel_rfl) (by kernel_rfl)]
  simp only [Program.fieldsOf, Try.underlying85]
  simp [Op.eqFields, go_sem]
theorem run_ne_fo {o : Oper} {ρ : Operand → Value} (w : World) (x y : Operand) (a b c d : Nat) (r : Bool) (hr : (binOp .eql 85 (.agg #[.int .u32 (a : Nat), .int .u8 (b : Nat)]) (.agg #[.int .u32 (c : Nat), .int .u8 (d : Nat)])).run Try.prog w = .ok (.bool r) w)
    (ho : o.op = .binOp .neq 85 x y 85) (hx : ρ x = .agg #[.int .u32 (a : Nat), .int .u8 (b : Nat)]) (hy : ρ y = .agg #[.int .u32 (c : Nat), .int .u8 (d : Nat)]) :
    (execOp ρ o).run Try.prog w = .ok (.value (.bool (!r))) w := by
  have h := hr
  rw [run_eql_struct] at h
  have hn : (binOp .neq 85 (.agg #[.int .u32 (a : Nat), .int .u8 (b : Nat)]) (.agg #[.int .u32 (c : Nat), .int .u8 (d : Nat)])).run Try.prog w = .ok (.bool (!r)) w := by
    rw [run_neq_struct, ok_bool h]
    rfl
  unfold execOp
  simp only [ho, hx, hy, Sem.run_bind, Sem.run_pure, Result.andThen_ok, run_eqGuard_agg (P := Try.prog) w .neq 85 x y _ _ (by kernel_rfl), hn]
set_option maxRecDepth 100000 in
set_option maxHeartbeats 4000000 in
theorem equal_fo (va vb : Value) (xs bs : List Od) (w : World) (ha : RdO w va xs) (hb : RdO w vb bs) (hl : xs.length ≤ 1000000) (hl2 : bs.length ≤ 1000000) :
    Calls Try.prog 51 #[va, vb] w fun e w' => e = .returned (.bool (decide (xs = bs))) ∧ Only (fun _ => False) w w' := by
  obtain ⟨A, c, rfl, -, hca⟩ := ha
  obtain ⟨A', c', rfl, -, hcb⟩ := hb
  by_cases hlen : xs.length = bs.length
  · have HA := Lib.hid hca
    have HB := Lib.hid hcb
    obtain ⟨L, hla⟩ : ∃ L, xs.length = L := ⟨_, rfl⟩
    rw [hla] at hl hlen
    rw [← hlen, hla]
    have HLA := Lib.hid hla
    have HLB := Lib.hid hlen.symm
    obtain ⟨r, hr⟩ : ∃ r, decide (xs = bs) = r := ⟨_, rfl⟩
    have HR := Lib.hid hr
    rw [hr]
    clear hca hcb hla hlen hr hl2
    go_enter Try.func51, Try.ntmps51
    go_wp2
    go_loopw [13] (fun i wr => ∃ k : Nat, k ≤ L ∧ i = .int .i64 k ∧ Hid (xs.take k = bs.take k) ∧ ∃ n, wr = w.drewN n) (fun i _ => L - (intOf i).toNat)
    case atStart => exact ⟨0, by omega, rfl, by simp [Hid], 0, rfl⟩
    case round =>
      obtain ⟨k, hk, rfl, hpre, n, rfl⟩ := hrel
      by_cases hlt : k < L
      · have hkI : (k : Int) < (L : Int) := by omega
        have hka : k < xs.length := by rw [HLA.out]; exact hlt
        have hkb : k < bs.length := by rw [HLB.out]; exact hlt
        obtain ⟨g, o, rfl, ca⟩ := HA.out (by omega)
        obtain ⟨g', o', rfl, cb⟩ := HB.out (by omega)
        obtain ⟨qa0, qa1⟩ := ca k _ (List.getElem?_eq_getElem hka)
        obtain ⟨qb0, qb1⟩ := cb k _ (List.getElem?_eq_getElem hkb)
        by_cases heq : xs[k] = bs[k]
        · have HP := Lib.hid (take_eq_of7 xs bs k hka hkb hpre.out heq)
          rw [← heq] at qb0 qb1
          generalize xs[k] = y at *
          clear hka hkb heq ca cb
          go_upto_region 6 with (fail)
          refine wp_region_posts [[], [], [0, 1], [2, 0, 1], [], [], [4, 5], [6, 4, 5], [3, 7, 2, 0, 1, 6, 4, 5]] [] [] [[], [], [], [], [], [], [], [], []] [[], [], [], [], [], [], [], [], []] [] [] [] []
              [some ?va0, some ?va1, some ?va2, some ?va3, some ?va4, some ?va5, some ?va6, some ?va7, some (.bool false)]
              ?Ta (fun wx => ∃ n', wx = w.drewN n') ?Wa ?Ea (by kernel_rfl) (by kernel_rfl) (by kernel_rfl) (fun x => ?hTa) ?hFa ?hinia (Reg.all_ops ?runsa) ?presa ?fina
          case Wa => exact fun j x w' => True
          case Ea => exact fun _ w' w'' => True
          case hTa =>
            simp only [Reg.fillV, Act.put, List.setIfInBounds_toArray, List.set_cons_zero, List.set_cons_succ]
            rfl
          case runsa =>
            refine And.intro ?_ ?_
            · refine Reg.ob_pure (fun _ => rfl) rfl rfl rfl rfl (fun x w1 hF => ?_)
              obtain ⟨n', rfl⟩ := hF
              go_simp
              with_reducible rfl
            refine And.intro ?_ ?_
            · refine Reg.ob_pure (fun _ => rfl) rfl rfl rfl rfl (fun x w1 hF => ?_)
              obtain ⟨n', rfl⟩ := hF
              go_simp
              with_reducible rfl
            refine And.intro ?_ ?_
            · refine Reg.ob_pure (fun _ => rfl) rfl rfl rfl rfl (fun x w1 hF => ?_)
              obtain ⟨n', rfl⟩ := hF
              go_simp
              with_reducible rfl
            refine And.intro ?_ ?_
            · refine Reg.ob_pure (fun _ => rfl) rfl rfl rfl rfl (fun x w1 hF => ?_)
              obtain ⟨n', rfl⟩ := hF
              go_simp
              with_reducible rfl
            refine And.intro ?_ ?_
            · refine Reg.ob_pure (fun _ => rfl) rfl rfl rfl rfl (fun x w1 hF => ?_)
              obtain ⟨n', rfl⟩ := hF
              go_simp
              with_reducible rfl
            refine And.intro ?_ ?_
            · refine Reg.ob_pure (fun _ => rfl) rfl rfl rfl rfl (fun x w1 hF => ?_)
              obtain ⟨n', rfl⟩ := hF
              go_simp
              with_reducible rfl
            refine And.intro ?_ ?_
            · refine Reg.ob_pure (fun _ => rfl) rfl rfl rfl rfl (fun x w1 hF => ?_)
              obtain ⟨n', rfl⟩ := hF
              go_simp
              with_reducible rfl
            refine And.intro ?_ ?_
            · refine Reg.ob_pure (fun _ => rfl) rfl rfl rfl rfl (fun x w1 hF => ?_)
              obtain ⟨n', rfl⟩ := hF
              go_simp
              with_reducible rfl
            refine And.intro ?_ ?_
            · refine Reg.ob_pure (fun _ => rfl) rfl rfl rfl rfl (fun x w1 hF => ?_)
              exact run_ne_fo _ _ _ y.ssrc y.no y.ssrc y.no true (eq_fo _ _ _) rfl rfl rfl
            exact trivial
          case hFa =>
            exact ⟨n + 1, rfl⟩
          case hinia =>
            exact trivial
          case presa =>
            intro i hi j hj
            cases hj
          case fina =>
            rintro x w9 hF -
            obtain ⟨n2, rfl⟩ := hF rfl
            go_wp2
            exact ⟨⟨k + 1, by omega, by go_num, HP.out, n2, rfl⟩, by simp [intOf]; omega⟩
        · have HNE := Lib.hid (show decide (xs = bs) = false from decide_eq_false (fun e => heq (by subst e; rfl)))
          have HQ := Lib.hid (show ¬ (xs[k].ssrc = bs[k].ssrc ∧ xs[k].no = bs[k].no) from fun h => heq (by
            generalize xs[k] = x at *
            generalize bs[k] = y at *
            cases x
            cases y
            simp_all))
          generalize xs[k] = y at *
          generalize bs[k] = z at *
          clear hka hkb heq ca cb
          go_upto_region 6 with (fail)
          refine wp_region_posts [[], [], [0, 1], [2, 0, 1], [], [], [4, 5], [6, 4, 5], [3, 7, 2, 0, 1, 6, 4, 5]] [] [] [[], [], [], [], [], [], [], [], []] [[], [], [], [], [], [], [], [], []] [] [] [] []
              [some ?vb0, some ?vb1, some ?vb2, some ?vb3, some ?vb4, some ?vb5, some ?vb6, some ?vb7, some (.bool true)]
              ?Tb (fun wx => ∃ n', wx = w.drewN n') ?Wb ?Eb (by kernel_rfl) (by kernel_rfl) (by kernel_rfl) (fun x => ?hTb) ?hFb ?hinib (Reg.all_ops ?runsb) ?presb ?finb
          case Wb => exact fun j x w' => True
          case Eb => exact fun _ w' w'' => True
          case hTb =>
            simp only [Reg.fillV, Act.put, List.setIfInBounds_toArray, List.set_cons_zero, List.set_cons_succ]
            rfl
          case runsb =>
            refine And.intro ?_ ?_
            · refine Reg.ob_pure (fun _ => rfl) rfl rfl rfl rfl (fun x w1 hF => ?_)
              obtain ⟨n', rfl⟩ := hF
              go_simp
              with_reducible rfl
            refine And.intro ?_ ?_
            · refine Reg.ob_pure (fun _ => rfl) rfl rfl rfl rfl (fun x w1 hF => ?_)
              obtain ⟨n', rfl⟩ := hF
              go_simp
              with_reducible rfl
            refine And.intro ?_ ?_
            · refine Reg.ob_pure (fun _ => rfl) rfl rfl rfl rfl (fun x w1 hF => ?_)
              obtain ⟨n', rfl⟩ := hF
              go_simp
              with_reducible rfl
            refine And.intro ?_ ?_
            · refine Reg.ob_pure (fun _ => rfl) rfl rfl rfl rfl (fun x w1 hF => ?_)
              obtain ⟨n', rfl⟩ := hF
              go_simp
              with_reducible rfl
            refine And.intro ?_ ?_
            · refine Reg.ob_pure (fun _ => rfl) rfl rfl rfl rfl (fun x w1 hF => ?_)
              obtain ⟨n', rfl⟩ := hF
              go_simp
              with_reducible rfl
            refine And.intro ?_ ?_
            · refine Reg.ob_pure (fun _ => rfl) rfl rfl rfl rfl (fun x w1 hF => ?_)
              obtain ⟨n', rfl⟩ := hF
              go_simp
              with_reducible rfl
            refine And.intro ?_ ?_
            · refine Reg.ob_pure (fun _ => rfl) rfl rfl rfl rfl (fun x w1 hF => ?_)
              obtain ⟨n', rfl⟩ := hF
              go_simp
              with_reducible rfl
            refine And.intro ?_ ?_
            · refine Reg.ob_pure (fun _ => rfl) rfl rfl rfl rfl (fun x w1 hF => ?_)
              obtain ⟨n', rfl⟩ := hF
              go_simp
              with_reducible rfl
            refine And.intro ?_ ?_
            · refine Reg.ob_pure (fun _ => rfl) rfl rfl rfl rfl (fun x w1 hF => ?_)
              exact run_ne_fo _ _ _ y.ssrc y.no z.ssrc z.no false (ne_fo _ _ _ _ _ HQ.out) rfl rfl rfl
            exact trivial
          case hFb =>
            exact ⟨n + 1, rfl⟩
          case hinib =>
            exact trivial
          case presb =>
            intro i hi j hj
            cases hj
          case finb =>
            rintro x w9 hF -
            obtain ⟨n2, rfl⟩ := hF rfl
            go_wp2
            go_ret
            exact ⟨by rw [← HR.out, HNE.out]; rfl, only_drewN w n2⟩
      · obtain rfl : k = L := by omega
        have HT := Lib.hid (show decide (xs = bs) = true from decide_eq_true (by
          have h := hpre.out
          rw [List.take_of_length_le (by rw [HLA.out]; exact Nat.le_refl _), List.take_of_length_le (by rw [HLB.out]; exact Nat.le_refl _)] at h
          exact h))
        clear hpre
        go_wp2
        go_ret
        exact ⟨by rw [← HR.out, HT.out]; rfl, only_drewN w n⟩
  · have HT := Lib.hid (show decide (xs = bs) = false from decide_eq_false (fun e => hlen (by rw [e])))
    rw [HT.out]
    have zl : ((xs.length : Int) != (bs.length : Int)) = true := by simp; omega
    generalize xs.length = L at *
    generalize bs.length = K at *
    clear hca hcb HT hlen
    go_enter Try.func51, Try.ntmps51
    go_wp2
    go_ret
    exact ⟨rfl, Only.refl _ _⟩
end Go.Proofs.Ytefcimkopgcagaa

/- Two rows of numbers are compared: slices.Equal. Conditions: as it says. -/
set_option linter.unusedVariables false
namespace Go.Proofs.Ytefcimkopgcagaa
open Go.RowKit

theorem Rd.sl7 {k : IntKind} {w : World} {v : Value} {zs : List Int} (h : Rd k w v zs) : ∃ A c, v = .slice A zs.length c := by
  obtain ⟨A, c, rfl, _⟩ := h
  exact ⟨A, c, rfl⟩
theorem Rd.at7 {k : IntKind} {w : World} {A : Option Addr} {n c : Nat} {zs : List Int} (h : Rd k w (.slice A n c) zs) (hp : 0 < zs.length) : ∃ g o, A = some ⟨g, o, none⟩ ∧ ∀ j (h : j < zs.length), w.cell? ⟨g, o + j, none⟩ = some (.int k zs[j]) := by
  obtain ⟨A', c', e, _, hc⟩ := h
  injection e with e1 e2 e3
  subst e1
  exact hc hp
theorem take_eq_of32 (xs bs : List Nat) (k : Nat) (hk : k < xs.length) (hk2 : k < bs.length) (h : xs.take k = bs.take k) (he : xs[k] = bs[k]) : xs.take (k + 1) = bs.take (k + 1) := by
  rw [List.take_succ_eq_append_getElem hk, List.take_succ_eq_append_getElem hk2, h, he]

set_option maxRecDepth 100000 in
set_option maxHeartbeats 400000 in
theorem ints32_equal (va vb : Value) (xs bs : List Nat) (w : World) (ha : Rd .u32 w va (nats xs)) (hb : Rd .u32 w vb (nats bs)) (hl : xs.length ≤ 140737488355328) :
    Calls Try.prog 52 #[va, vb] w fun e w' => e = .returned (.bool (decide (xs = bs))) ∧ ∃ n, w' = w.drewN n := by
  by_cases hlen : xs.length = bs.length
  · rcases Nat.eq_zero_or_pos xs.length with h0 | hpos
    · have e1 : xs = [] := List.eq_nil_of_length_eq_zero h0
      have e2 : bs = [] := List.eq_nil_of_length_eq_zero (by omega)
      subst e1 e2
      obtain ⟨A, c, rfl⟩ := Rd.sl7 ha
      obtain ⟨A', c', rfl⟩ := Rd.sl7 hb
      simp only [nats_length, List.length_nil]
      clear ha hb hl hlen h0
      go_enter Try.func52, Try.ntmps52
      go_wp2
      go_loopw [13] (fun i wr => i = .int .i64 0 ∧ w = wr) (fun _ _ => 0)
      case atStart => exact ⟨rfl, rfl⟩
      case round =>
        obtain ⟨rfl, rfl⟩ := hrel
        go_wp2
        go_ret
        exact ⟨rfl, 0, rfl⟩
    · obtain ⟨A, c, rfl⟩ := Rd.sl7 ha
      obtain ⟨A', c', rfl⟩ := Rd.sl7 hb
      obtain ⟨g, o, rfl, hca⟩ := Rd.at7 ha (by rw [nats_length]; exact hpos)
      obtain ⟨g', o', rfl, hcb⟩ := Rd.at7 hb (by rw [nats_length]; omega)
      rw [nats_length, nats_length]
      have HA := Lib.hid hca
      have HB := Lib.hid hcb
      clear ha hb hca hcb
      obtain ⟨L, hla⟩ : ∃ L, xs.length = L := ⟨_, rfl⟩
      rw [hla] at hl hpos hlen
      rw [← hlen, hla]
      have HLA := Lib.hid hla
      have HLB := Lib.hid hlen.symm
      clear hla hlen
      go_enter Try.func52, Try.ntmps52
      go_wp2
      go_loopw [13] (fun i wr => ∃ k : Nat, k ≤ L ∧ i = .int .i64 k ∧ Hid (xs.take k = bs.take k) ∧ ∃ n, wr = w.drewN n) (fun i _ => L - (intOf i).toNat)
      case atStart => exact ⟨0, by omega, rfl, by simp [Hid], 0, rfl⟩
      case round =>
        obtain ⟨k, hk, rfl, hpre, n, rfl⟩ := hrel
        by_cases hlt : k < L
        · have hka : k < xs.length := by rw [HLA.out]; exact hlt
          have hkb : k < bs.length := by rw [HLB.out]; exact hlt
          have qa : w.cell? ⟨g, o + k, none⟩ = some (.int .u32 ((xs[k] : Nat) : Int)) := by rw [HA.out k (by rw [nats_length]; exact hka)]; simp [nats]
          have qb : w.cell? ⟨g', o' + k, none⟩ = some (.int .u32 ((bs[k] : Nat) : Int)) := by rw [HB.out k (by rw [nats_length]; exact hkb)]; simp [nats]
          by_cases heq : xs[k] = bs[k]
          · have hbne : (((xs[k] : Nat) : Int) != ((bs[k] : Nat) : Int)) = false := by simp [heq]
            have HP := Lib.hid (take_eq_of32 xs bs k hka hkb hpre.out heq)
            generalize xs[k] = x at *
            generalize bs[k] = y at *
            clear hka hkb heq
            go_wp2
            go_quiet (fail)
            go_wp2
            refine ⟨⟨k + 1, by omega, by go_num, HP.out, _, rfl⟩, by simp [intOf]; omega⟩
          · have hbne : (((xs[k] : Nat) : Int) != ((bs[k] : Nat) : Int)) = true := by simp; omega
            have hne : xs ≠ bs := fun e => heq (by subst e; rfl)
            have HNE := Lib.hid hne
            generalize xs[k] = x at *
            generalize bs[k] = y at *
            clear hka hkb heq hne
            go_wp2
            go_quiet (fail)
            go_wp2
            go_ret
            exact ⟨by rw [decide_eq_false HNE.out]; rfl, n + nq, by simp⟩
        · have hkl : k = L := by omega
          subst hkl
          have hp := hpre.out
          rw [List.take_of_length_le (by rw [HLA.out]; exact Nat.le_refl _), List.take_of_length_le (by rw [HLB.out]; exact Nat.le_refl _)] at hp
          have HP := Lib.hid hp
          clear hp hpre
          go_wp2
          go_ret
          exact ⟨by rw [decide_eq_true HP.out]; rfl, _, rfl⟩
  · have hne : xs ≠ bs := fun e => hlen (by rw [e])
    obtain ⟨A, c, rfl⟩ := Rd.sl7 ha
    obtain ⟨A', c', rfl⟩ := Rd.sl7 hb
    rw [nats_length, nats_length]
    have hb : (((xs.length : Nat) : Int) != ((bs.length : Nat) : Int)) = true := by simp; omega
    rw [decide_eq_false hne]
    clear ha hne hl
    generalize xs.length = L at *
    generalize bs.length = L' at *
    go_enter Try.func52, Try.ntmps52
    go_wp2
    go_ret
    exact ⟨rfl, 0, rfl⟩
end Go.Proofs.Ytefcimkopgcagaa

/- feedback.Same. Conditions: as it says. -/
set_option linter.unusedVariables false
namespace Go.Proofs.Ytefcimkopgcagaa
open Go.RowKit

def sameMs (m k : Ms) : Bool := decide (m.sort = k.sort ∧ m.sender = k.sender ∧ m.media = k.media ∧ m.pairs = k.pairs ∧ m.orders = k.orders ∧ m.exp = k.exp ∧ m.mant = k.mant ∧ m.srcs = k.srcs)
structure Ms.Fit (m : Ms) : Prop where
  sort : m.sort < 256
  sender : m.sender < 4294967296
  media : m.media < 4294967296
  pairs : ∀ p ∈ m.pairs, p.Fit
  orders : ∀ p ∈ m.orders, p.Fit
  exp : m.exp < 256
  mant : m.mant < 4294967296
  srcs : ∀ x ∈ m.srcs, x < 4294967296
theorem cls_cells {m : Ms} {vp vo vs : Value} {w : World} {b : Nat} {T : TypeId} (h : Is w b T (m.cls vp vo vs)) :
    w.cell? ⟨b, 0, none⟩ = some (.int .u8 (m.sort : Nat)) ∧ w.cell? ⟨b, 1, none⟩ = some (.int .u32 (m.sender : Nat)) ∧ w.cell? ⟨b, 2, none⟩ = some (.int .u32 (m.media : Nat)) ∧ w.cell? ⟨b, 3, none⟩ = some vp ∧ w.cell? ⟨b, 4, none⟩ = some vo ∧ w.cell? ⟨b, 5, none⟩ = some (.int .u8 (m.exp : Nat)) ∧ w.cell? ⟨b, 6, none⟩ = some (.int .u32 (m.mant : Nat)) ∧ w.cell? ⟨b, 7, none⟩ = some vs :=
  ⟨h.cell 0, h.cell 1, h.cell 2, h.cell 3, h.cell 4, h.cell 5, h.cell 6, h.cell 7⟩

set_option maxRecDepth 100000 in
set_option maxHeartbeats 4000000 in
theorem fsame_is (m k : Ms) (p1 o1 s1 p2 o2 s2 : Value) (w : World) (h1 : RdM m p1 o1 s1 w) (h2 : RdM k p2 o2 s2 w) (hl : m.pairs.length ≤ 1000000 ∧ m.orders.length ≤ 1000000 ∧ m.srcs.length ≤ 1000000) (hl2 : k.pairs.length ≤ 1000000 ∧ k.orders.length ≤ 1000000 ∧ k.srcs.length ≤ 1000000) :
    Calls Try.prog 17 #[.agg (m.cls p1 o1 s1), .agg (k.cls p2 o2 s2)] w fun e w' => e = .returned (.bool (sameMs m k)) ∧ Only (fun _ => False) w w' := by
  have HP := Lib.hid (fun wx (ho : Only (fun _ => False) w wx) => equal_fp p1 p2 m.pairs k.pairs wx (h1.p.only ho) (h2.p.only ho) hl.1 hl2.1)
  have HO := Lib.hid (fun wx (ho : Only (fun _ => False) w wx) => equal_fo o1 o2 m.orders k.orders wx (h1.o.only ho) (h2.o.only ho) hl.2.1 hl2.2.1)
  have HS := Lib.hid (fun wx (ho : Only (fun _ => False) w wx) => ints32_equal s1 s2 m.srcs k.srcs wx (h1.s.only ho (by simp)) (h2.s.only ho (by simp)) (by have := hl.2.2; omega))
  have HC1 := Lib.hid (fun b wx => @cls_cells m p1 o1 s1 wx b 27)
  have HC2 := Lib.hid (fun b wx => @cls_cells k p2 o2 s2 wx b 27)
  obtain ⟨r, hr⟩ : ∃ r, sameMs m k = r := ⟨_, rfl⟩
  rw [hr]
  unfold sameMs at hr
  obtain ⟨bp, hbp⟩ : ∃ b, decide (m.pairs = k.pairs) = b := ⟨_, rfl⟩
  obtain ⟨bo, hbo⟩ : ∃ b, decide (m.orders = k.orders) = b := ⟨_, rfl⟩
  obtain ⟨bs, hbs⟩ : ∃ b, decide (m.srcs = k.srcs) = b := ⟨_, rfl⟩
  rw [hbp] at HP
  rw [hbo] at HO
  rw [hbs] at HS
  have HR := Lib.hid (show r = (decide (m.sort = k.sort) && (decide (m.sender = k.sender) && (decide (m.media = k.media) && (bp && (bo && (decide (m.exp = k.exp) && (decide (m.mant = k.mant) && bs))))))) from by
    rw [← hr, ← hbp, ← hbo, ← hbs, Bool.eq_iff_iff]
    simp)
  generalize m.sort = a0 at *
  generalize m.sender = a1 at *
  generalize m.media = a2 at *
  generalize m.exp = a5 at *
  generalize m.mant = a6 at *
  generalize k.sort = c0 at *
  generalize k.sender = c1 at *
  generalize k.media = c2 at *
  generalize k.exp = c5 at *
  generalize k.mant = c6 at *
  obtain ⟨A, hA⟩ : ∃ a, m.cls p1 o1 s1 = a := ⟨_, rfl⟩
  obtain ⟨B, hB⟩ : ∃ a, k.cls p2 o2 s2 = a := ⟨_, rfl⟩
  rw [hA] at HC1
  rw [hB] at HC2
  rw [hA, hB]
  clear hA hB h1 h2 hl hl2 hr hbp hbo hbs
  go_enter Try.func17, Try.ntmps17
  go_upto_region 1 with (fail)
  generalize hw0 : World.alloc (World.alloc _ _) _ = w0
  have I1 := Lib.hid (show Is w0 w.heap.size 27 A from by rw [← hw0]; exact (Is.made w _ _).alloc _)
  have I2 := Lib.hid (show Is w0 (w.heap.size + 1) 27 B from by rw [← hw0]; have := Is.made (w.alloc (.cells A 27)) 27 B; rw [World.size_alloc] at this; exact this)
  have T0 := Lib.hid (show Only (fun _ => False) w w0 from by rw [← hw0]; exact ((Only.refl _ w).alloc _).alloc _)
  obtain ⟨ab, hab⟩ : ∃ k, w.heap.size = k := ⟨_, rfl⟩
  obtain ⟨bb, hbb⟩ : ∃ k, w.heap.size + 1 = k := ⟨_, rfl⟩
  rw [hbb] at I2 ⊢
  rw [hab] at I1 ⊢
  clear hw0 hab hbb
  have HE1 := Lib.hid (fun wx (ho : Only (fun _ => False) w0 wx) => HC1.out ab wx (I1.out.only ho (by simp)))
  have HE2 := Lib.hid (fun wx (ho : Only (fun _ => False) w0 wx) => HC2.out bb wx (I2.out.only ho (by simp)))
  clear I1 I2 HC1 HC2
  obtain ⟨e0, e1, e2, e3, e4, e5, e6, e7⟩ := HE1.out w0 (Only.refl _ _)
  obtain ⟨g0, g1, g2, g3, g4, g5, g6, g7⟩ := HE2.out w0 (Only.refl _ _)
  have key : ∀ (x y : Nat), ((x : Int) == (y : Int)) = decide (x = y) := fun x y => by
    by_cases h : x = y
    · rw [h]; simp
    · rw [decide_eq_false h, beq_eq_false_iff_ne]; omega
  have fin : ∀ v w', v = r → Only (fun _ => False) w0 w' → (Ending.returned (Value.bool v) = .returned (.bool r) ∧ Only (fun _ => False) w w') := fun v w' h ho => ⟨by rw [h], only_more T0.out ho⟩
  have HK := Lib.hid fin
  clear key fin
  go_wp2_with (first
    | (go_at_call 50; refine (HP.out _ T0.out).mono ?_; rintro e w1 ⟨rfl, ho1⟩; have O1 := Lib.hid ho1; obtain ⟨e0, e1, e2, e3, e4, e5, e6, e7⟩ := HE1.out w1 O1.out; obtain ⟨g0, g1, g2, g3, g4, g5, g6, g7⟩ := HE2.out w1 O1.out; clear ho1)
    | (go_at_call 51; refine (HO.out _ (only_more T0.out O1.out)).mono ?_; rintro e w2 ⟨rfl, ho2⟩; have O2 := Lib.hid (only_more O1.out ho2); obtain ⟨e0, e1, e2, e3, e4, e5, e6, e7⟩ := HE1.out w2 O2.out; obtain ⟨g0, g1, g2, g3, g4, g5, g6, g7⟩ := HE2.out w2 O2.out; clear ho2)
    | (go_at_call 52; refine (HS.out _ (only_more T0.out O2.out)).mono ?_; rintro e w3 ⟨rfl, n3, rfl⟩))
  all_goals go_ret
  all_goals first
    | exact HK.out false _ (by rw [HR.out, decide_eq_false (show ¬ a0 = c0 by omega)]; rfl) (by first | exact only_more O2.out (only_drewN _ _) | exact O2.out | exact O1.out | exact Only.refl _ _)
    | exact HK.out false _ (by rw [HR.out, decide_eq_true (show a0 = c0 by omega), decide_eq_false (show ¬ a1 = c1 by omega)]; rfl) (by first | exact only_more O2.out (only_drewN _ _) | exact O2.out | exact O1.out | exact Only.refl _ _)
    | exact HK.out false _ (by rw [HR.out, decide_eq_true (show a0 = c0 by omega), decide_eq_true (show a1 = c1 by omega), decide_eq_false (show ¬ a2 = c2 by omega)]; rfl) (by first | exact only_more O2.out (only_drewN _ _) | exact O2.out | exact O1.out | exact Only.refl _ _)
    | exact HK.out false _ (by rw [HR.out, decide_eq_true (show a0 = c0 by omega), decide_eq_true (show a1 = c1 by omega), decide_eq_true (show a2 = c2 by omega), (Bool.eq_false_iff.2 (by assumption) : bp = false)]; rfl) (by first | exact only_more O2.out (only_drewN _ _) | exact O2.out | exact O1.out | exact Only.refl _ _)
    | exact HK.out false _ (by rw [HR.out, decide_eq_true (show a0 = c0 by omega), decide_eq_true (show a1 = c1 by omega), decide_eq_true (show a2 = c2 by omega), (show bp = true by assumption), (Bool.eq_false_iff.2 (by assumption) : bo = false)]; rfl) (by first | exact only_more O2.out (only_drewN _ _) | exact O2.out | exact O1.out | exact Only.refl _ _)
    | exact HK.out false _ (by rw [HR.out, decide_eq_true (show a0 = c0 by omega), decide_eq_true (show a1 = c1 by omega), decide_eq_true (show a2 = c2 by omega), (show bp = true by assumption), (show bo = true by assumption), decide_eq_false (show ¬ a5 = c5 by omega)]; rfl) (by first | exact only_more O2.out (only_drewN _ _) | exact O2.out | exact O1.out | exact Only.refl _ _)
    | exact HK.out false _ (by rw [HR.out, decide_eq_true (show a0 = c0 by omega), decide_eq_true (show a1 = c1 by omega), decide_eq_true (show a2 = c2 by omega), (show bp = true by assumption), (show bo = true by assumption), decide_eq_true (show a5 = c5 by omega), decide_eq_false (show ¬ a6 = c6 by omega)]; rfl) (by first | exact only_more O2.out (only_drewN _ _) | exact O2.out | exact O1.out | exact Only.refl _ _)
    | exact HK.out bs _ (by rw [HR.out, decide_eq_true (show a0 = c0 by omega), decide_eq_true (show a1 = c1 by omega), decide_eq_true (show a2 = c2 by omega), (show bp = true by assumption), (show bo = true by assumption), decide_eq_true (show a5 = c5 by omega), decide_eq_true (show a6 = c6 by omega)]; rfl) (by first | exact only_more O2.out (only_drewN _ _) | exact O2.out | exact O1.out | exact Only.refl _ _)
end Go.Proofs.Ytefcimkopgcagaa

/- easellaw07.few. Conditions: none. -/
set_option linter.unusedVariables false
namespace Go.Proofs.Ytefcimkopgcagaa
open Go.RowKit

def fewMs (m : Ms) : Bool := decide (m.pairs.length ≤ 300) && (decide (m.orders.length ≤ 300) && decide (m.srcs.length ≤ 300))
set_option maxRecDepth 100000 in
set_option maxHeartbeats 2000000 in
theorem ffew_is (m : Ms) (p1 o1 s1 : Value) (w : World) (h1 : RdM m p1 o1 s1 w) :
    Calls Try.prog 8 #[.agg (m.cls p1 o1 s1)] w fun e w' => e = .returned (.bool (fewMs m)) ∧ Only (fun _ => False) w w' := by
  obtain ⟨P1, d1, rfl, -, -⟩ := h1.p
  obtain ⟨O1, e1, rfl, -, -⟩ := h1.o
  obtain ⟨S1, f1, rfl, -, -⟩ := h1.s
  rw [nats_length]
  have HC := Lib.hid (fun b wx => @cls_cells m (.slice P1 m.pairs.length d1) (.slice O1 m.orders.length e1) (.slice S1 m.srcs.length f1) wx b 27)
  obtain ⟨r, hr⟩ : ∃ r, fewMs m = r := ⟨_, rfl⟩
  rw [hr]
  unfold fewMs at hr
  obtain ⟨A, hA⟩ : ∃ a, m.cls (.slice P1 m.pairs.length d1) (.slice O1 m.orders.length e1) (.slice S1 m.srcs.length f1) = a := ⟨_, rfl⟩
  rw [hA] at HC ⊢
  clear hA h1
  generalize m.pairs.length = L1 at *
  generalize m.orders.length = L2 at *
  generalize m.srcs.length = L3 at *
  have HR := Lib.hid hr.symm
  clear hr
  go_enter Try.func8, Try.ntmps8
  go_upto_region 1 with (fail)
  generalize hw0 : World.alloc _ _ = w0
  have I0 := Lib.hid (show Is w0 w.heap.size 27 A from by rw [← hw0]; exact Is.made _ _ _)
  have T0 := Lib.hid (show Only (fun _ => False) w w0 from by rw [← hw0]; exact (Only.refl _ w).alloc _)
  obtain ⟨ab, hab⟩ : ∃ k, w.heap.size = k := ⟨_, rfl⟩
  rw [hab] at I0 ⊢
  clear hw0 hab
  obtain ⟨e0, e1', e2, e3, e4, e5, e6, e7⟩ := HC.out ab w0 I0.out
  by_cases h1 : L1 ≤ 300
  · have z1 : (L1 : Int) ≤ 300 := by omega
    by_cases h2 : L2 ≤ 300
    · have z2 : (L2 : Int) ≤ 300 := by omega
      by_cases h3 : L3 ≤ 300
      · have z3 : (L3 : Int) ≤ 300 := by omega
        have HV := Lib.hid (show true = r from by rw [HR.out, decide_eq_true h1, decide_eq_true h2, decide_eq_true h3]; rfl)
        clear h1 h2 h3
        go_wp2
        go_ret
        rw [← HV.out]
        exact ⟨rfl, T0.out⟩
      · have z3 : ¬ (L3 : Int) ≤ 300 := by omega
        have HV := Lib.hid (show false = r from by rw [HR.out, decide_eq_true h1, decide_eq_true h2, decide_eq_false h3]; rfl)
        clear h1 h2 h3
        go_wp2
        go_ret
        rw [← HV.out]
        exact ⟨rfl, T0.out⟩
    · have z2 : ¬ (L2 : Int) ≤ 300 := by omega
      have HV := Lib.hid (show false = r from by rw [HR.out, decide_eq_true h1, decide_eq_false h2]; rfl)
      clear h1 h2
      go_wp2
      go_ret
      rw [← HV.out]
      exact ⟨rfl, T0.out⟩
  · have z1 : ¬ (L1 : Int) ≤ 300 := by omega
    have HV := Lib.hid (show false = r from by rw [HR.out, decide_eq_false h1]; rfl)
    clear h1
    go_wp2
    go_ret
    rw [← HV.out]
    exact ⟨rfl, T0.out⟩
end Go.Proofs.Ytefcimkopgcagaa

/- easelref07.Right. Conditions: as it says. -/
set_option linter.unusedVariables false
namespace Go.Proofs.Ytefcimkopgcagaa
open Go.RowKit

/-- May a message be? Of its sort and its sizes. -/
def okMs (s P O S e t : Nat) : Prop :=
  (s = 1 ∧ 1 ≤ P ∧ P ≤ 65533 ∧ O = 0 ∧ S = 0 ∧ e = 0 ∧ t = 0) ∨ (s = 2 ∧ P = 0 ∧ O = 0 ∧ S = 0 ∧ e = 0 ∧ t = 0) ∨
  (s = 3 ∧ P = 0 ∧ 1 ≤ O ∧ O ≤ 32766 ∧ S = 0 ∧ e = 0 ∧ t = 0) ∨ (s = 4 ∧ P = 0 ∧ O = 0 ∧ S ≤ 255 ∧ e ≤ 63 ∧ t ≤ 262143)
instance (s P O S e t : Nat) : Decidable (okMs s P O S e t) := by unfold okMs; infer_instance
def rightMs (m : Ms) : Bool := decide (okMs m.sort m.pairs.length m.orders.length m.srcs.length m.exp m.mant)
set_option maxRecDepth 100000 in
set_option maxHeartbeats 4000000 in
theorem rright_is (m : Ms) (p1 o1 s1 : Value) (w : World) (h1 : RdM m p1 o1 s1 w) (hl : m.pairs.length ≤ 1000000 ∧ m.orders.length ≤ 1000000 ∧ m.srcs.length ≤ 1000000) :
    Calls Try.prog 16 #[.agg (m.cls p1 o1 s1)] w fun e w' => e = .returned (.bool (rightMs m)) ∧ Only (fun _ => False) w w' := by
  obtain ⟨P1, d1, rfl, -, -⟩ := h1.p
  obtain ⟨O1, e1, rfl, -, -⟩ := h1.o
  obtain ⟨S1, f1, rfl, -, -⟩ := h1.s
  rw [nats_length]
  have HC := Lib.hid (fun b wx => @cls_cells m (.slice P1 m.pairs.length d1) (.slice O1 m.orders.length e1) (.slice S1 m.srcs.length f1) wx b 33)
  obtain ⟨r, hr⟩ : ∃ r, rightMs m = r := ⟨_, rfl⟩
  rw [hr]
  unfold rightMs at hr
  obtain ⟨A, hA⟩ : ∃ a, m.cls (.slice P1 m.pairs.length d1) (.slice O1 m.orders.length e1) (.slice S1 m.srcs.length f1) = a := ⟨_, rfl⟩
  rw [hA] at HC ⊢
  clear hA h1
  generalize m.pairs.length = P at *
  generalize m.orders.length = O at *
  generalize m.srcs.length = S at *
  generalize m.sort = s at *
  generalize m.exp = e at *
  generalize m.mant = t at *
  obtain ⟨hP, hO, hS⟩ := hl
  have HT := Lib.hid (fun (h : okMs s P O S e t) => (show true = r from by rw [← hr]; exact (decide_eq_true h).symm))
  have HF := Lib.hid (fun (h : ¬ okMs s P O S e t) => (show false = r from by rw [← hr]; exact (decide_eq_false h).symm))
  clear hr
  go_enter Try.func16, Try.ntmps16
  go_upto_region 1 with (fail)
  generalize hw0 : World.alloc _ _ = w0
  have I0 := Lib.hid (show Is w0 w.heap.size 33 A from by rw [← hw0]; exact Is.made _ _ _)
  have T0 := Lib.hid (show Only (fun _ => False) w w0 from by rw [← hw0]; exact (Only.refl _ w).alloc _)
  obtain ⟨ab, hab⟩ : ∃ k, w.heap.size = k := ⟨_, rfl⟩
  rw [hab] at I0 ⊢
  clear hw0 hab
  obtain ⟨e0, e1', e2, e3, e4, e5, e6, e7⟩ := HC.out ab w0 I0.out
  clear HC I0 e1' e2
  by_cases g1 : s = 1
  · subst g1
    by_cases gP : P ≤ 65533
    · have z : 2 + (P : Int) ≤ 65535 := by omega
      go_wp2
      all_goals first
        | (go_ret; rw [← HF.out (by unfold okMs; omega)]; exact ⟨rfl, T0.out⟩)
        | (go_ret; rw [← HT.out (by unfold okMs; omega)]; exact ⟨rfl, T0.out⟩)
    · have z : ¬ 2 + (P : Int) ≤ 65535 := by omega
      go_wp2
      all_goals first
        | (go_ret; rw [← HF.out (by unfold okMs; omega)]; exact ⟨rfl, T0.out⟩)
        | (go_ret; rw [← HT.out (by unfold okMs; omega)]; exact ⟨rfl, T0.out⟩)
  by_cases g2 : s = 2
  · subst g2
    go_wp2
    all_goals first
      | (go_ret; rw [← HF.out (by unfold okMs; omega)]; exact ⟨rfl, T0.out⟩)
      | (go_ret; rw [← HT.out (by unfold okMs; omega)]; exact ⟨rfl, T0.out⟩)
  by_cases g3 : s = 3
  · subst g3
    by_cases gO : O ≤ 32766
    · have z : 2 + 2 * (O : Int) ≤ 65535 := by omega
      go_wp2
      all_goals first
        | (go_ret; rw [← HF.out (by unfold okMs; omega)]; exact ⟨rfl, T0.out⟩)
        | (go_ret; rw [← HT.out (by unfold okMs; omega)]; exact ⟨rfl, T0.out⟩)
    · have z : ¬ 2 + 2 * (O : Int) ≤ 65535 := by omega
      go_wp2
      all_goals first
        | (go_ret; rw [← HF.out (by unfold okMs; omega)]; exact ⟨rfl, T0.out⟩)
        | (go_ret; rw [← HT.out (by unfold okMs; omega)]; exact ⟨rfl, T0.out⟩)
  by_cases g4 : s = 4
  · subst g4
    by_cases gP : 0 < P
    · have z : (0 : Int) < (P : Int) := by omega
      have HV := Lib.hid (HF.out (by unfold okMs; omega))
      clear gP HF HT
      go_wp2
      go_ret
      rw [← HV.out]
      exact ⟨rfl, T0.out⟩
    have z : ¬ (0 : Int) < (P : Int) := by omega
    by_cases gO : 0 < O
    · have z2 : (0 : Int) < (O : Int) := by omega
      have HV := Lib.hid (HF.out (by unfold okMs; omega))
      clear gO gP HF HT
      go_wp2
      go_ret
      rw [← HV.out]
      exact ⟨rfl, T0.out⟩
    have z2 : ¬ (0 : Int) < (O : Int) := by omega
    by_cases ge : e ≤ 63
    · have z3 : (e : Int) ≤ 63 := by omega
      by_cases gt : t ≤ 262143
      · have z4 : (t : Int) < 262144 := by omega
        by_cases gS : S ≤ 255
        · have z5 : (S : Int) ≤ 255 := by omega
          have HV := Lib.hid (HT.out (by unfold okMs; omega))
          clear gS gt ge gO gP HF HT
          generalize (t : Int) = T at *
          go_wp2
          go_ret
          rw [← HV.out]
          exact ⟨rfl, T0.out⟩
        · have z5 : ¬ (S : Int) ≤ 255 := by omega
          have HV := Lib.hid (HF.out (by unfold okMs; omega))
          clear gS gt ge gO gP HF HT
          generalize (t : Int) = T at *
          go_wp2
          go_ret
          rw [← HV.out]
          exact ⟨rfl, T0.out⟩
      · have z4 : ¬ (t : Int) < 262144 := by omega
        have HV := Lib.hid (HF.out (by unfold okMs; omega))
        clear gt ge gO gP HF HT
        generalize (t : Int) = T at *
        go_wp2
        go_ret
        rw [← HV.out]
        exact ⟨rfl, T0.out⟩
    · have z3 : ¬ (e : Int) ≤ 63 := by omega
      have HV := Lib.hid (HF.out (by unfold okMs; omega))
      clear ge gO gP HF HT
      go_wp2
      go_ret
      rw [← HV.out]
      exact ⟨rfl, T0.out⟩
  have n1 : ((s : Int) != 1) = true := by simp; omega
  have n3 : ((s : Int) != 3) = true := by simp; omega
  have n4 : ((s : Int) != 4) = true := by simp; omega
  have q1 : ((s : Int) == 1) = false := by rw [beq_eq_false_iff_ne]; omega
  have q2 : ((s : Int) == 2) = false := by rw [beq_eq_false_iff_ne]; omega
  have q3 : ((s : Int) == 3) = false := by rw [beq_eq_false_iff_ne]; omega
  have q4 : ((s : Int) == 4) = false := by rw [beq_eq_false_iff_ne]; omega
  have HV := Lib.hid (HF.out (by unfold okMs; omega))
  clear g1 g2 g3 g4 HF HT
  go_wp2
  all_goals (go_ret; rw [← HV.out]; exact ⟨rfl, T0.out⟩)
end Go.Proofs.Ytefcimkopgcagaa

/- The sorts' table; one of them. Conditions: as each says. -/
set_option linter.unusedVariables false
namespace Go.Proofs.Ytefcimkopgcagaa
open Go.RowKit

theorem fb_made {w w' : World} {o : Obj} (h : Only (fun k => k = w.heap.size) (w.alloc o) w') : Only (fun _ => False) w w' := ((Only.refl _ w).alloc o).trans h (fun i hi e => by omega)
def mkSrt (kind count : Int) (name : ByteArray) (p q o r s t e f m n : Int) (a b : Value) : List Value :=
  [.int .u8 kind, .int .u8 count, .string name, .int .i64 p, .int .i64 q, .int .i64 o, .int .i64 r, .int .i64 s, .int .i64 t, .int .i64 e, .int .i64 f, .int .i64 m, .int .i64 n, a, b]
def fnV (n : Nat) : Value := .func (.func n) #[] #[]
def srt : Nat → List Value
  | 1 => mkSrt 205 1 ⟨#[]⟩ 1 65533 0 0 0 0 0 0 0 0 (fnV 69) (fnV 70)
  | 2 => mkSrt 206 1 ⟨#[]⟩ 0 0 0 0 0 0 0 0 0 0 (fnV 71) (fnV 72)
  | 3 => mkSrt 206 4 ⟨#[]⟩ 0 0 1 32766 0 0 0 0 0 0 (fnV 73) (fnV 74)
  | 4 => mkSrt 206 15 ⟨#[82, 69, 77, 66]⟩ 0 0 0 0 0 255 0 63 0 262143 (fnV 75) (fnV 76)
  | _ => mkSrt 0 0 ⟨#[]⟩ 0 0 0 0 0 0 0 0 0 0 .nilFunc .nilFunc
def sortsC : Array Value := (srt 0 ++ srt 1 ++ srt 2 ++ srt 3 ++ srt 4).toArray
section
variable {P : Program} {ops : Array Oper} {rest : List Oper} {o : Oper} {a : Act} {w : World} {Q : Exit → Act → World → Prop}
theorem wpList_build_is (hg : o.guard = none) (t : TypeId) (parts : Array (Nat × Operand)) (ho : o.op = .build t parts) (cells : Array Value)
    (hc : P.built t (parts.map fun (i, x) => (i, a.eval x)).toList = some cells)
    (h : wpList P ops Q rest (a.put o.dst (.agg cells)) w) : wpList P ops Q (o :: rest) a w := by
  refine wpList_build hg t parts ho (by rw [hc]; rfl) ?_
  rw [hc]
  exact h
end
theorem res_alone {P : Program} {fn : Func} {p : Tmp} {ty : TypeId} (h : fn.results = #[.cell p ty]) (tmps : Array Value) (w : World) (g : Nat) (t : TypeId) (cs : Array Value) (d : TypeDesc)
    (hp : tmps.getD p undef = .pointer (some ⟨g, 0, none⟩)) (hg : Is w g t cs)
    (hu : P.underlying ty = some d) (hd : (match d with | .struct _ | .array _ _ => true | _ => false) = true) (hi : (P.info? ty).map (·.size) = some cs.size) :
    (results fn tmps).run P w = .ok (.agg cs) w := by
  have hp' : tmps[p]?.getD undef = .pointer (some ⟨g, 0, none⟩) := by simpa using hp
  simp [results, h, hp', asAddr, run_loadVar_row w g t ty cs (0, 0) d hg hu hd hi]
theorem Try.sizeSorts : (Try.prog.info? 120).map (·.size) = some sortsC.size := by kernel_rfl

theorem sorts_hold : Try.zeroCells120.size = sortsC.size := by kernel_rfl
theorem sorts_one : sortsC.all (·.oneCell') = true := by kernel_rfl
set_option maxRecDepth 100000 in
set_option maxHeartbeats 1000000 in
theorem sorts_is (w : World) : Calls Try.prog 63 #[] w fun e w' => e = .returned (.agg sortsC) ∧ Only (fun _ => False) w w' := by
  go_enter Try.func63, Try.ntmps63
  go_wp2_with (first
    | (refine wpList_build_is (o := ⟨some 10, _, _, _, _, _⟩) rfl _ _ rfl sortsC (by kernel_rfl) ?_)
    | (refine wpList_store_is rfl 120 _ _ rfl w.heap.size sortsC rfl rfl 120 Try.zeroCells120 (Is.made w _ Try.zeroCells120) Try.sizeSorts sorts_hold sorts_one ?_; intro w5 hi5 ho5; have O5 := Lib.hid (fb_made ho5); have I5 := Lib.hid hi5; clear hi5 ho5))
  exact bodyPost_ret (res_alone Try.results63 _ w5 w.heap.size 120 sortsC _ rfl I5.out Try.underlying120 rfl Try.sizeSorts) rfl ⟨rfl, O5.out⟩
/-- The value of one of them. -/
def srtV (s : Nat) : Array Value := (srt s).toArray
theorem Try.sizeSort : (Try.prog.info? 93).map (·.size) = some 15 := by kernel_rfl
theorem srt_size (s : Nat) (h1 : 1 ≤ s) (h4 : s ≤ 4) : (Try.prog.info? 93).map (·.size) = some (srtV s).size := by
  rw [Try.sizeSort]
  have : s = 1 ∨ s = 2 ∨ s = 3 ∨ s = 4 := by omega
  rcases this with rfl | rfl | rfl | rfl <;> rfl
theorem srt_hold (s : Nat) (h1 : 1 ≤ s) (h4 : s ≤ 4) : (srtV 0).size = (srtV s).size := by
  have : s = 1 ∨ s = 2 ∨ s = 3 ∨ s = 4 := by omega
  rcases this with rfl | rfl | rfl | rfl <;> rfl
theorem srt_one (s : Nat) (h1 : 1 ≤ s) (h4 : s ≤ 4) : (srtV s).all (·.oneCell') = true := by
  have : s = 1 ∨ s = 2 ∨ s = 3 ∨ s = 4 := by omega
  rcases this with rfl | rfl | rfl | rfl <;> simp [srtV, srt, mkSrt, fnV, Value.oneCell']
theorem res_pair {P : Program} {fn : Func} {p q : Tmp} {ty : TypeId} (h : fn.results = #[.cell p ty, .tmp q]) (tmps : Array Value) (w : World) (g : Nat) (t : TypeId) (cs : Array Value) (d : TypeDesc) (v : Value)
    (hp : tmps.getD p undef = .pointer (some ⟨g, 0, none⟩)) (hq : tmps.getD q undef = v) (hg : Is w g t cs)
    (hu : P.underlying ty = some d) (hd : (match d with | .struct _ | .array _ _ => true | _ => false) = true) (hi : (P.info? ty).map (·.size) = some cs.size) :
    (results fn tmps).run P w = .ok (.tuple #[.agg cs, v]) w := by
  have hp' : tmps[p]?.getD undef = .pointer (some ⟨g, 0, none⟩) := by simpa using hp
  have hq' : tmps[q]?.getD undef = v := by simpa using hq
  simp [results, h, hp', hq', asAddr, run_loadVar_row w g t ty cs (0, 0) d hg hu hd hi]
theorem sorts_at (s : Nat) (w : World) (h1 : 1 ≤ s) (h4 : s ≤ 4) : (Instr.index 120 (.agg sortsC) (.int .u8 (s : Nat))).run Try.prog w = .ok (.agg (srtV s)) w := by
  have : s = 1 ∨ s = 2 ∨ s = 3 ∨ s = 4 := by omega
  rcases this with rfl | rfl | rfl | rfl <;> (simp [Instr.index, go_sem]; rfl)
set_option maxRecDepth 100000 in
set_option maxHeartbeats 1000000 in
theorem sortof_is (s : Nat) (w : World) (h1 : 1 ≤ s) (h4 : s ≤ 4) : Calls Try.prog 43 #[.int .u8 s] w fun e w' => e = .returned (.tuple #[.agg (srtV s), .bool true]) ∧ Only (fun _ => False) w w' := by
  go_enter Try.func43, Try.ntmps43
  have z1 : ¬ (s : Int) < 1 := by omega
  have z4 : ¬ (4 : Int) < (s : Int) := by omega
  go_wp2_with (go_at_call 63; refine (sorts_is _).mono ?_; rintro e w1 ⟨rfl, ho1⟩; have O1 := Lib.hid ho1; clear ho1)
  rw [sorts_at s _ h1 h4]
  go_wp2_with (refine wpList_store_is rfl 93 _ _ rfl w.heap.size (srtV s) rfl rfl 93 (srtV 0) ((Is.made w _ (srtV 0)).only O1.out (by simp)) (srt_size s h1 h4) (srt_hold s h1 h4) (srt_one s h1 h4) ?_; intro w5 hi5 ho5; have O5 := Lib.hid ho5; have I5 := Lib.hid hi5; clear hi5 ho5)
  exact bodyPost_ret (res_pair Try.results43 _ w5 w.heap.size 93 (srtV s) _ (.bool true) rfl rfl I5.out Try.underlying93 rfl (srt_size s h1 h4)) rfl ⟨rfl, (((Only.refl _ w).alloc _).trans O1.out (fun i hi e => e)).trans O5.out (fun i hi e => by omega)⟩
end Go.Proofs.Ytefcimkopgcagaa

/- span.holds; Right of a Pli. Conditions: as each says. -/
set_option linter.unusedVariables false
namespace Go.Proofs.Ytefcimkopgcagaa
open Go.RowKit

set_option maxRecDepth 100000 in
set_option maxHeartbeats 1000000 in
theorem holds_yes (a b n : Int) (w : World) (h1 : a ≤ n) (h2 : n ≤ b) : Calls Try.prog 49 #[.agg #[.int .i64 a, .int .i64 b], .int .i64 n] w fun e w' => e = .returned (.bool true) ∧ Only (fun _ => False) w w' := by
  go_enter Try.func49, Try.ntmps49
  go_wp2
  go_ret
  exact ⟨rfl, (Only.refl _ w).alloc _⟩

/-- A Pli, as it is handed in. -/
def pliC (a b : Nat) : Array Value := #[.int .u8 2, .int .u32 (a : Nat), .int .u32 (b : Nat), .slice none 0 0, .slice none 0 0, .int .u8 0, .int .u32 0, .slice none 0 0]
theorem srt2_cells {w : World} {b : Nat} (h : Is w b 93 (srtV 2)) :
    w.cell? ⟨b, 3, none⟩ = some (.int .i64 0) ∧ w.cell? ⟨b, 4, none⟩ = some (.int .i64 0) ∧ w.cell? ⟨b, 5, none⟩ = some (.int .i64 0) ∧ w.cell? ⟨b, 6, none⟩ = some (.int .i64 0) ∧ w.cell? ⟨b, 7, none⟩ = some (.int .i64 0) ∧ w.cell? ⟨b, 8, none⟩ = some (.int .i64 0) ∧ w.cell? ⟨b, 9, none⟩ = some (.int .i64 0) ∧ w.cell? ⟨b, 10, none⟩ = some (.int .i64 0) ∧ w.cell? ⟨b, 11, none⟩ = some (.int .i64 0) ∧ w.cell? ⟨b, 12, none⟩ = some (.int .i64 0) :=
  ⟨h.cell 3, h.cell 4, h.cell 5, h.cell 6, h.cell 7, h.cell 8, h.cell 9, h.cell 10, h.cell 11, h.cell 12⟩
theorem pli_cells {w : World} {g a b : Nat} (h : Is w g 27 (pliC a b)) :
    w.cell? ⟨g, 0, none⟩ = some (.int .u8 2) ∧ w.cell? ⟨g, 1, none⟩ = some (.int .u32 (a : Nat)) ∧ w.cell? ⟨g, 2, none⟩ = some (.int .u32 (b : Nat)) ∧ w.cell? ⟨g, 3, none⟩ = some (.slice none 0 0) ∧ w.cell? ⟨g, 4, none⟩ = some (.slice none 0 0) ∧ w.cell? ⟨g, 5, none⟩ = some (.int .u8 0) ∧ w.cell? ⟨g, 6, none⟩ = some (.int .u32 0) ∧ w.cell? ⟨g, 7, none⟩ = some (.slice none 0 0) :=
  ⟨h.cell 0, h.cell 1, h.cell 2, h.cell 3, h.cell 4, h.cell 5, h.cell 6, h.cell 7⟩
set_option maxRecDepth 100000 in
set_option maxHeartbeats 4000000 in
theorem right_pli (a b : Nat) (w : World) : Calls Try.prog 15 #[.agg (pliC a b)] w fun e w' => e = .returned (.bool true) ∧ Only (fun _ => False) w w' := by
  have HSO := Lib.hid (fun w => sortof_is 2 w (by omega) (by omega))
  obtain ⟨pc, hpc⟩ : ∃ p, pliC a b = p := ⟨_, rfl⟩
  have HPC := Lib.hid hpc
  rw [hpc]
  clear hpc
  go_enter Try.func15, Try.ntmps15
  go_upto_region 1 with (fail)
  obtain ⟨mb, hmb⟩ : ∃ k, w.heap.size = k := ⟨_, rfl⟩
  generalize hw0 : World.alloc _ _ = w0
  have I0 := Lib.hid (show Is w0 w.heap.size 27 (pliC a b) from by rw [← hw0, HPC.out]; exact Is.made _ _ _)
  have P0 := Lib.hid (show Only (fun _ => False) w w0 from by rw [← hw0]; exact (Only.refl _ w).alloc _)
  rw [hmb] at I0 ⊢
  clear hw0 hmb
  obtain ⟨m0, -, -, -, -, -, -, -⟩ := pli_cells I0.out
  go_upto_region 2 with (first
    | (go_at_call 43; refine (HSO.out _).mono ?_; rintro e w1 ⟨rfl, ho1⟩; have O1 := Lib.hid ho1; clear ho1)
    | (refine wpList_store_is rfl 93 _ _ rfl w1.heap.size (srtV 2) rfl rfl 93 (srtV 0) (Is.made w1 _ (srtV 0)) (srt_size 2 (by omega) (by omega)) (srt_hold 2 (by omega) (by omega)) (srt_one 2 (by omega) (by omega)) ?_; intro w2 hi2 ho2; have O2 := Lib.hid (fb_made ho2); have S2 := Lib.hid hi2; clear hi2 ho2))
  clear m0
  have I2 := Lib.hid (I0.out.only (only_more O1.out O2.out) (by simp))
  have P2 := Lib.hid (only_more P0.out (only_more O1.out O2.out))
  generalize w1.heap.size = sb at *
  refine wp_region_text [[], [0], [1, 0], [2, 1, 0], [1, 0], [4, 1, 0], [5, 1, 4, 0], [3, 6, 1, 2, 0, 5, 4], [1, 7, 0, 3, 6, 2, 5, 4], [8, 7, 1, 0, 3, 6, 2, 5, 4], [9, 8, 7, 1, 0, 3, 6, 2, 5, 4], [10, 9, 8, 7, 1, 0, 3, 6, 2, 5, 4], [9, 8, 7, 1, 0, 3, 6, 2, 5, 4], [12, 9, 8, 7, 1, 0, 3, 6, 2, 5, 4], [13, 9, 12, 8, 7, 1, 0, 3, 6, 2, 5, 4], [11, 14, 9, 10, 8, 7, 1, 0, 3, 6, 2, 5, 4, 13, 12], [9, 15, 8, 7, 1, 0, 3, 6, 2, 5, 4, 11, 14, 10, 13, 12], [16, 15, 9, 8, 7, 1, 0, 3, 6, 2, 5, 4, 11, 14, 10, 13, 12], [17, 16, 15, 9, 8, 7, 1, 0, 3, 6, 2, 5, 4, 11, 14, 10, 13, 12], [18, 17, 16, 15, 9, 8, 7, 1, 0, 3, 6, 2, 5, 4, 11, 14, 10, 13, 12], [17, 16, 15, 9, 8, 7, 1, 0, 3, 6, 2, 5, 4, 11, 14, 10, 13, 12], [20, 17, 16, 15, 9, 8, 7, 1, 0, 3, 6, 2, 5, 4, 11, 14, 10, 13, 12], [21, 17, 20, 16, 15, 9, 8, 7, 1, 0, 3, 6, 2, 5, 4, 11, 14, 10, 13, 12], [19, 22, 17, 18, 16, 15, 9, 8, 7, 1, 0, 3, 6, 2, 5, 4, 11, 14, 10, 13, 12, 21, 20], [17, 23, 16, 15, 9, 8, 7, 1, 0, 3, 6, 2, 5, 4, 11, 14, 10, 13, 12, 19, 22, 18, 21, 20], [24, 23, 17, 16, 15, 9, 8, 7, 1, 0, 3, 6, 2, 5, 4, 11, 14, 10, 13, 12, 19, 22, 18, 21, 20], [25, 24, 23, 17, 16, 15, 9, 8, 7, 1, 0, 3, 6, 2, 5, 4, 11, 14, 10, 13, 12, 19, 22, 18, 21, 20], [26, 25, 24, 23, 17, 16, 15, 9, 8, 7, 1, 0, 3, 6, 2, 5, 4, 11, 14, 10, 13, 12, 19, 22, 18, 21, 20], [25, 24, 23, 17, 16, 15, 9, 8, 7, 1, 0, 3, 6, 2, 5, 4, 11, 14, 10, 13, 12, 19, 22, 18, 21, 20], [28, 25, 24, 23, 17, 16, 15, 9, 8, 7, 1, 0, 3, 6, 2, 5, 4, 11, 14, 10, 13, 12, 19, 22, 18, 21, 20], [29, 25, 28, 24, 23, 17, 16, 15, 9, 8, 7, 1, 0, 3, 6, 2, 5, 4, 11, 14, 10, 13, 12, 19, 22, 18, 21, 20], [27, 30, 25, 26, 24, 23, 17, 16, 15, 9, 8, 7, 1, 0, 3, 6, 2, 5, 4, 11, 14, 10, 13, 12, 19, 22, 18, 21, 20, 29, 28], [25, 31, 24, 23, 17, 16, 15, 9, 8, 7, 1, 0, 3, 6, 2, 5, 4, 11, 14, 10, 13, 12, 19, 22, 18, 21, 20, 27, 30, 26, 29, 28], [32, 31, 25, 24, 23, 17, 16, 15, 9, 8, 7, 1, 0, 3, 6, 2, 5, 4, 11, 14, 10, 13, 12, 19, 22, 18, 21, 20, 27, 30, 26, 29, 28], [33, 32, 31, 25, 24, 23, 17, 16, 15, 9, 8, 7, 1, 0, 3, 6, 2, 5, 4, 11, 14, 10, 13, 12, 19, 22, 18, 21, 20, 27, 30, 26, 29, 28], [34, 33, 32, 31, 25, 24, 23, 17, 16, 15, 9, 8, 7, 1, 0, 3, 6, 2, 5, 4, 11, 14, 10, 13, 12, 19, 22, 18, 21, 20, 27, 30, 26, 29, 28], [33, 32, 31, 25, 24, 23, 17, 16, 15, 9, 8, 7, 1, 0, 3, 6, 2, 5, 4, 11, 14, 10, 13, 12, 19, 22, 18, 21, 20, 27, 30, 26, 29, 28], [36, 33, 32, 31, 25, 24, 23, 17, 16, 15, 9, 8, 7, 1, 0, 3, 6, 2, 5, 4, 11, 14, 10, 13, 12, 19, 22, 18, 21, 20, 27, 30, 26, 29, 28], [37, 33, 36, 32, 31, 25, 24, 23, 17, 16, 15, 9, 8, 7, 1, 0, 3, 6, 2, 5, 4, 11, 14, 10, 13, 12, 19, 22, 18, 21, 20, 27, 30, 26, 29, 28], [35, 38, 33, 34, 32, 31, 25, 24, 23, 17, 16, 15, 9, 8, 7, 1, 0, 3, 6, 2, 5, 4, 11, 14, 10, 13, 12, 19, 22, 18, 21, 20, 27, 30, 26, 29, 28, 37, 36], [33, 39, 32, 31, 25, 24, 23, 17, 16, 15, 9, 8, 7, 1, 0, 3, 6, 2, 5, 4, 11, 14, 10, 13, 12, 19, 22, 18, 21, 20, 27, 30, 26, 29, 28, 35, 38, 34, 37, 36], [40, 39, 0, 1, 2, 3, 4, 5, 6, 7, 8, 9, 10, 11, 12, 13, 14, 15, 16, 17, 18, 19, 20, 21, 22, 23, 24, 25, 26, 27, 28, 29, 30, 31, 32, 33, 34, 35, 36, 37, 38]] [7, 15, 23, 31, 39] [] [[], [], [], [], [], [], [], [], [], [], [], [], [], [], [], [], [], [], [], [], [], [], [], [], [], [], [], [], [], [], [], [], [], [], [], [], [], [], [], [], [], []] [[], [], [], [], [], [], [], [], [], [], [], [], [], [], [], [], [], [], [], [], [], [], [], [], [], [], [], [], [], [], [], [], [], [], [], [], [], [], [], [], [], []] [] [] [] []
      [some ?v0, some ?v1, some ?v2, some ?v3, some ?v4, some ?v5, some ?v6, some (.bool true), some ?v8, some ?v9, some ?v10, some ?v11, some ?v12, some ?v13, some ?v14, some (.bool true), some ?v16, some ?v17, some ?v18, some ?v19, some ?v20, some ?v21, some ?v22, some (.bool true), some ?v24, some ?v25, some ?v26, some ?v27, some ?v28, some ?v29, some ?v30, some (.bool true), some ?v32, some ?v33, some ?v34, some ?v35, some ?v36, some ?v37, some ?v38, some (.bool true), some ?v40, some ?v41]
      ?T (fun wx => Is wx sb 93 (srtV 2) ∧ Is wx mb 27 (pliC a b) ∧ Only (fun _ => False) w2 wx) ?W ?E (by kernel_rfl) (by kernel_rfl) (by kernel_rfl) (fun x => ?hT) ?hF ?hini (Reg.all_ops ?runs) ?pres ?fin
  case W => exact fun j x w' => True
  case E => exact fun _ w' w'' => True
  case hT =>
    simp only [Reg.fillV, Act.put, List.setIfInBounds_toArray, List.set_cons_zero, List.set_cons_succ]
    rfl
  case runs =>
    refine And.intro ?_ ?_
    · refine Reg.ob_pure (fun _ => rfl) rfl rfl rfl rfl (fun x w1 hF => ?_)
      obtain ⟨c3, c4, c5, c6, c7, c8, c9, c10, c11, c12⟩ := srt2_cells hF.1
      obtain ⟨m0, m1, m2, m3, m4, m5, m6, m7⟩ := pli_cells hF.2.1
      go_simp
      with_reducible rfl
    refine And.intro ?_ ?_
    · refine Reg.ob_pure (fun _ => rfl) rfl rfl rfl rfl (fun x w1 hF => ?_)
      obtain ⟨c3, c4, c5, c6, c7, c8, c9, c10, c11, c12⟩ := srt2_cells hF.1
      obtain ⟨m0, m1, m2, m3, m4, m5, m6, m7⟩ := pli_cells hF.2.1
      go_simp
      with_reducible rfl
    refine And.intro ?_ ?_
    · refine Reg.ob_pure (fun _ => rfl) rfl rfl rfl rfl (fun x w1 hF => ?_)
      obtain ⟨c3, c4, c5, c6, c7, c8, c9, c10, c11, c12⟩ := srt2_cells hF.1
      obtain ⟨m0, m1, m2, m3, m4, m5, m6, m7⟩ := pli_cells hF.2.1
      go_simp
      with_reducible rfl
    refine And.intro ?_ ?_
    · refine Reg.ob_pure (fun _ => rfl) rfl rfl rfl rfl (fun x w1 hF => ?_)
      obtain ⟨c3, c4, c5, c6, c7, c8, c9, c10, c11, c12⟩ := srt2_cells hF.1
      obtain ⟨m0, m1, m2, m3, m4, m5, m6, m7⟩ := pli_cells hF.2.1
      go_simp
      with_reducible rfl
    refine And.intro ?_ ?_
    · refine Reg.ob_pure (fun _ => rfl) rfl rfl rfl rfl (fun x w1 hF => ?_)
      obtain ⟨c3, c4, c5, c6, c7, c8, c9, c10, c11, c12⟩ := srt2_cells hF.1
      obtain ⟨m0, m1, m2, m3, m4, m5, m6, m7⟩ := pli_cells hF.2.1
      go_simp
      with_reducible rfl
    refine And.intro ?_ ?_
    · refine Reg.ob_pure (fun _ => rfl) rfl rfl rfl rfl (fun x w1 hF => ?_)
      obtain ⟨c3, c4, c5, c6, c7, c8, c9, c10, c11, c12⟩ := srt2_cells hF.1
      obtain ⟨m0, m1, m2, m3, m4, m5, m6, m7⟩ := pli_cells hF.2.1
      go_simp
      with_reducible rfl
    refine And.intro ?_ ?_
    · refine Reg.ob_pure (fun _ => rfl) rfl rfl rfl rfl (fun x w1 hF => ?_)
      obtain ⟨c3, c4, c5, c6, c7, c8, c9, c10, c11, c12⟩ := srt2_cells hF.1
      obtain ⟨m0, m1, m2, m3, m4, m5, m6, m7⟩ := pli_cells hF.2.1
      go_simp
      with_reducible rfl
    refine And.intro ?_ ?_
    · refine Reg.ob_known (fun _ => rfl) rfl rfl (fun x w1 hF hU K hK => ?_)
      obtain ⟨h1, h2, h3⟩ := hF rfl
      go_simp
      refine (holds_yes _ _ _ w1 (by decide) (by decide)).mono ?_
      rintro e w3 ⟨rfl, ho⟩
      exact hK w3 (fun _ _ _ => ⟨h1.only ho (by simp), h2.only ho (by simp), only_more h3 ho⟩) trivial
    refine And.intro ?_ ?_
    · refine Reg.ob_pure (fun _ => rfl) rfl rfl rfl rfl (fun x w1 hF => ?_)
      obtain ⟨c3, c4, c5, c6, c7, c8, c9, c10, c11, c12⟩ := srt2_cells hF.1
      obtain ⟨m0, m1, m2, m3, m4, m5, m6, m7⟩ := pli_cells hF.2.1
      go_simp
      with_reducible rfl
    refine And.intro ?_ ?_
    · refine Reg.ob_pure (fun _ => rfl) rfl rfl rfl rfl (fun x w1 hF => ?_)
      obtain ⟨c3, c4, c5, c6, c7, c8, c9, c10, c11, c12⟩ := srt2_cells hF.1
      obtain ⟨m0, m1, m2, m3, m4, m5, m6, m7⟩ := pli_cells hF.2.1
      go_simp
      with_reducible rfl
    refine And.intro ?_ ?_
    · refine Reg.ob_pure (fun _ => rfl) rfl rfl rfl rfl (fun x w1 hF => ?_)
      obtain ⟨c3, c4, c5, c6, c7, c8, c9, c10, c11, c12⟩ := srt2_cells hF.1
      obtain ⟨m0, m1, m2, m3, m4, m5, m6, m7⟩ := pli_cells hF.2.1
      go_simp
      with_reducible rfl
    refine And.intro ?_ ?_
    · refine Reg.ob_pure (fun _ => rfl) rfl rfl rfl rfl (fun x w1 hF => ?_)
      obtain ⟨c3, c4, c5, c6, c7, c8, c9, c10, c11, c12⟩ := srt2_cells hF.1
      obtain ⟨m0, m1, m2, m3, m4, m5, m6, m7⟩ := pli_cells hF.2.1
      go_simp
      with_reducible rfl
    refine And.intro ?_ ?_
    · refine Reg.ob_pure (fun _ => rfl) rfl rfl rfl rfl (fun x w1 hF => ?_)
      obtain ⟨c3, c4, c5, c6, c7, c8, c9, c10, c11, c12⟩ := srt2_cells hF.1
      obtain ⟨m0, m1, m2, m3, m4, m5, m6, m7⟩ := pli_cells hF.2.1
      go_simp
      with_reducible rfl
    refine And.intro ?_ ?_
    · refine Reg.ob_pure (fun _ => rfl) rfl rfl rfl rfl (fun x w1 hF => ?_)
      obtain ⟨c3, c4, c5, c6, c7, c8, c9, c10, c11, c12⟩ := srt2_cells hF.1
      obtain ⟨m0, m1, m2, m3, m4, m5, m6, m7⟩ := pli_cells hF.2.1
      go_simp
      with_reducible rfl
    refine And.intro ?_ ?_
    · refine Reg.ob_pure (fun _ => rfl) rfl rfl rfl rfl (fun x w1 hF => ?_)
      obtain ⟨c3, c4, c5, c6, c7, c8, c9, c10, c11, c12⟩ := srt2_cells hF.1
      obtain ⟨m0, m1, m2, m3, m4, m5, m6, m7⟩ := pli_cells hF.2.1
      go_simp
      with_reducible rfl
    refine And.intro ?_ ?_
    · refine Reg.ob_known (fun _ => rfl) rfl rfl (fun x w1 hF hU K hK => ?_)
      obtain ⟨h1, h2, h3⟩ := hF rfl
      go_simp
      refine (holds_yes _ _ _ w1 (by decide) (by decide)).mono ?_
      rintro e w3 ⟨rfl, ho⟩
      exact hK w3 (fun _ _ _ => ⟨h1.only ho (by simp), h2.only ho (by simp), only_more h3 ho⟩) trivial
    refine And.intro ?_ ?_
    · refine Reg.ob_pure (fun _ => rfl) rfl rfl rfl rfl (fun x w1 hF => ?_)
      obtain ⟨c3, c4, c5, c6, c7, c8, c9, c10, c11, c12⟩ := srt2_cells hF.1
      obtain ⟨m0, m1, m2, m3, m4, m5, m6, m7⟩ := pli_cells hF.2.1
      go_simp
      with_reducible rfl
    refine And.intro ?_ ?_
    · refine Reg.ob_pure (fun _ => rfl) rfl rfl rfl rfl (fun x w1 hF => ?_)
      obtain ⟨c3, c4, c5, c6, c7, c8, c9, c10, c11, c12⟩ := srt2_cells hF.1
      obtain ⟨m0, m1, m2, m3, m4, m5, m6, m7⟩ := pli_cells hF.2.1
      go_simp
      with_reducible rfl
    refine And.intro ?_ ?_
    · refine Reg.ob_pure (fun _ => rfl) rfl rfl rfl rfl (fun x w1 hF => ?_)
      obtain ⟨c3, c4, c5, c6, c7, c8, c9, c10, c11, c12⟩ := srt2_cells hF.1
      obtain ⟨m0, m1, m2, m3, m4, m5, m6, m7⟩ := pli_cells hF.2.1
      go_simp
      with_reducible rfl
    refine And.intro ?_ ?_
    · refine Reg.ob_pure (fun _ => rfl) rfl rfl rfl rfl (fun x w1 hF => ?_)
      obtain ⟨c3, c4, c5, c6, c7, c8, c9, c10, c11, c12⟩ := srt2_cells hF.1
      obtain ⟨m0, m1, m2, m3, m4, m5, m6, m7⟩ := pli_cells hF.2.1
      go_simp
      with_reducible rfl
    refine And.intro ?_ ?_
    · refine Reg.ob_pure (fun _ => rfl) rfl rfl rfl rfl (fun x w1 hF => ?_)
      obtain ⟨c3, c4, c5, c6, c7, c8, c9, c10, c11, c12⟩ := srt2_cells hF.1
      obtain ⟨m0, m1, m2, m3, m4, m5, m6, m7⟩ := pli_cells hF.2.1
      go_simp
      with_reducible rfl
    refine And.intro ?_ ?_
    · refine Reg.ob_pure (fun _ => rfl) rfl rfl rfl rfl (fun x w1 hF => ?_)
      obtain ⟨c3, c4, c5, c6, c7, c8, c9, c10, c11, c12⟩ := srt2_cells hF.1
      obtain ⟨m0, m1, m2, m3, m4, m5, m6, m7⟩ := pli_cells hF.2.1
      go_simp
      with_reducible rfl
    refine And.intro ?_ ?_
    · refine Reg.ob_pure (fun _ => rfl) rfl rfl rfl rfl (fun x w1 hF => ?_)
      obtain ⟨c3, c4, c5, c6, c7, c8, c9, c10, c11, c12⟩ := srt2_cells hF.1
      obtain ⟨m0, m1, m2, m3, m4, m5, m6, m7⟩ := pli_cells hF.2.1
      go_simp
      with_reducible rfl
    refine And.intro ?_ ?_
    · refine Reg.ob_known (fun _ => rfl) rfl rfl (fun x w1 hF hU K hK => ?_)
      obtain ⟨h1, h2, h3⟩ := hF rfl
      go_simp
      refine (holds_yes _ _ _ w1 (by decide) (by decide)).mono ?_
      rintro e w3 ⟨rfl, ho⟩
      exact hK w3 (fun _ _ _ => ⟨h1.only ho (by simp), h2.only ho (by simp), only_more h3 ho⟩) trivial
    refine And.intro ?_ ?_
    · refine Reg.ob_pure (fun _ => rfl) rfl rfl rfl rfl (fun x w1 hF => ?_)
      obtain ⟨c3, c4, c5, c6, c7, c8, c9, c10, c11, c12⟩ := srt2_cells hF.1
      obtain ⟨m0, m1, m2, m3, m4, m5, m6, m7⟩ := pli_cells hF.2.1
      go_simp
      with_reducible rfl
    refine And.intro ?_ ?_
    · refine Reg.ob_pure (fun _ => rfl) rfl rfl rfl rfl (fun x w1 hF => ?_)
      obtain ⟨c3, c4, c5, c6, c7, c8, c9, c10, c11, c12⟩ := srt2_cells hF.1
      obtain ⟨m0, m1, m2, m3, m4, m5, m6, m7⟩ := pli_cells hF.2.1
      go_simp
      with_reducible rfl
    refine And.intro ?_ ?_
    · refine Reg.ob_pure (fun _ => rfl) rfl rfl rfl rfl (fun x w1 hF => ?_)
      obtain ⟨c3, c4, c5, c6, c7, c8, c9, c10, c11, c12⟩ := srt2_cells hF.1
      obtain ⟨m0, m1, m2, m3, m4, m5, m6, m7⟩ := pli_cells hF.2.1
      go_simp
      with_reducible rfl
    refine And.intro ?_ ?_
    · refine Reg.ob_pure (fun _ => rfl) rfl rfl rfl rfl (fun x w1 hF => ?_)
      obtain ⟨c3, c4, c5, c6, c7, c8, c9, c10, c11, c12⟩ := srt2_cells hF.1
      obtain ⟨m0, m1, m2, m3, m4, m5, m6, m7⟩ := pli_cells hF.2.1
      go_simp
      with_reducible rfl
    refine And.intro ?_ ?_
    · refine Reg.ob_pure (fun _ => rfl) rfl rfl rfl rfl (fun x w1 hF => ?_)
      obtain ⟨c3, c4, c5, c6, c7, c8, c9, c10, c11, c12⟩ := srt2_cells hF.1
      obtain ⟨m0, m1, m2, m3, m4, m5, m6, m7⟩ := pli_cells hF.2.1
      go_simp
      with_reducible rfl
    refine And.intro ?_ ?_
    · refine Reg.ob_pure (fun _ => rfl) rfl rfl rfl rfl (fun x w1 hF => ?_)
      obtain ⟨c3, c4, c5, c6, c7, c8, c9, c10, c11, c12⟩ := srt2_cells hF.1
      obtain ⟨m0, m1, m2, m3, m4, m5, m6, m7⟩ := pli_cells hF.2.1
      go_simp
      with_reducible rfl
    refine And.intro ?_ ?_
    · refine Reg.ob_pure (fun _ => rfl) rfl rfl rfl rfl (fun x w1 hF => ?_)
      obtain ⟨c3, c4, c5, c6, c7, c8, c9, c10, c11, c12⟩ := srt2_cells hF.1
      obtain ⟨m0, m1, m2, m3, m4, m5, m6, m7⟩ := pli_cells hF.2.1
      go_simp
      with_reducible rfl
    refine And.intro ?_ ?_
    · refine Reg.ob_known (fun _ => rfl) rfl rfl (fun x w1 hF hU K hK => ?_)
      obtain ⟨h1, h2, h3⟩ := hF rfl
      go_simp
      refine (holds_yes _ _ _ w1 (by decide) (by decide)).mono ?_
      rintro e w3 ⟨rfl, ho⟩
      exact hK w3 (fun _ _ _ => ⟨h1.only ho (by simp), h2.only ho (by simp), only_more h3 ho⟩) trivial
    refine And.intro ?_ ?_
    · refine Reg.ob_pure (fun _ => rfl) rfl rfl rfl rfl (fun x w1 hF => ?_)
      obtain ⟨c3, c4, c5, c6, c7, c8, c9, c10, c11, c12⟩ := srt2_cells hF.1
      obtain ⟨m0, m1, m2, m3, m4, m5, m6, m7⟩ := pli_cells hF.2.1
      go_simp
      with_reducible rfl
    refine And.intro ?_ ?_
    · refine Reg.ob_pure (fun _ => rfl) rfl rfl rfl rfl (fun x w1 hF => ?_)
      obtain ⟨c3, c4, c5, c6, c7, c8, c9, c10, c11, c12⟩ := srt2_cells hF.1
      obtain ⟨m0, m1, m2, m3, m4, m5, m6, m7⟩ := pli_cells hF.2.1
      go_simp
      with_reducible rfl
    refine And.intro ?_ ?_
    · refine Reg.ob_pure (fun _ => rfl) rfl rfl rfl rfl (fun x w1 hF => ?_)
      obtain ⟨c3, c4, c5, c6, c7, c8, c9, c10, c11, c12⟩ := srt2_cells hF.1
      obtain ⟨m0, m1, m2, m3, m4, m5, m6, m7⟩ := pli_cells hF.2.1
      go_simp
      with_reducible rfl
    refine And.intro ?_ ?_
    · refine Reg.ob_pure (fun _ => rfl) rfl rfl rfl rfl (fun x w1 hF => ?_)
      obtain ⟨c3, c4, c5, c6, c7, c8, c9, c10, c11, c12⟩ := srt2_cells hF.1
      obtain ⟨m0, m1, m2, m3, m4, m5, m6, m7⟩ := pli_cells hF.2.1
      go_simp
      with_reducible rfl
    refine And.intro ?_ ?_
    · refine Reg.ob_pure (fun _ => rfl) rfl rfl rfl rfl (fun x w1 hF => ?_)
      obtain ⟨c3, c4, c5, c6, c7, c8, c9, c10, c11, c12⟩ := srt2_cells hF.1
      obtain ⟨m0, m1, m2, m3, m4, m5, m6, m7⟩ := pli_cells hF.2.1
      go_simp
      with_reducible rfl
    refine And.intro ?_ ?_
    · refine Reg.ob_pure (fun _ => rfl) rfl rfl rfl rfl (fun x w1 hF => ?_)
      obtain ⟨c3, c4, c5, c6, c7, c8, c9, c10, c11, c12⟩ := srt2_cells hF.1
      obtain ⟨m0, m1, m2, m3, m4, m5, m6, m7⟩ := pli_cells hF.2.1
      go_simp
      with_reducible rfl
    refine And.intro ?_ ?_
    · refine Reg.ob_pure (fun _ => rfl) rfl rfl rfl rfl (fun x w1 hF => ?_)
      obtain ⟨c3, c4, c5, c6, c7, c8, c9, c10, c11, c12⟩ := srt2_cells hF.1
      obtain ⟨m0, m1, m2, m3, m4, m5, m6, m7⟩ := pli_cells hF.2.1
      go_simp
      with_reducible rfl
    refine And.intro ?_ ?_
    · refine Reg.ob_known (fun _ => rfl) rfl rfl (fun x w1 hF hU K hK => ?_)
      obtain ⟨h1, h2, h3⟩ := hF rfl
      go_simp
      refine (holds_yes _ _ _ w1 (by decide) (by decide)).mono ?_
      rintro e w3 ⟨rfl, ho⟩
      exact hK w3 (fun _ _ _ => ⟨h1.only ho (by simp), h2.only ho (by simp), only_more h3 ho⟩) trivial
    refine And.intro ?_ ?_
    · refine Reg.ob_pure (fun _ => rfl) rfl rfl rfl rfl (fun x w1 hF => ?_)
      obtain ⟨c3, c4, c5, c6, c7, c8, c9, c10, c11, c12⟩ := srt2_cells hF.1
      obtain ⟨m0, m1, m2, m3, m4, m5, m6, m7⟩ := pli_cells hF.2.1
      go_simp
      with_reducible rfl
    refine And.intro ?_ ?_
    · refine Reg.ob_pure (fun _ => rfl) rfl rfl rfl rfl (fun x w1 hF => ?_)
      obtain ⟨c3, c4, c5, c6, c7, c8, c9, c10, c11, c12⟩ := srt2_cells hF.1
      obtain ⟨m0, m1, m2, m3, m4, m5, m6, m7⟩ := pli_cells hF.2.1
      go_simp
      with_reducible rfl
    exact trivial
  case hF =>
    exact ⟨S2.out, I2.out, Only.refl _ _⟩
  case hini =>
    exact trivial
  case pres =>
    intro i hi j hj hc x w1 w2 hF hE hW
    trivial
  case fin =>
    rintro x w9 hF -
    have O9 := Lib.hid (hF rfl).2.2
    clear hF
    go_wp2
    go_ret
    exact ⟨rfl, only_more P2.out O9.out⟩
end Go.Proofs.Ytefcimkopgcagaa

/- feedback.Right. Conditions: as it says. -/
set_option linter.unusedVariables false
namespace Go.Proofs.Ytefcimkopgcagaa
open Go.RowKit

set_option maxRecDepth 100000 in
set_option maxHeartbeats 1000000 in
theorem holds_is (a b n : Int) (w : World) : Calls Try.prog 49 #[.agg #[.int .i64 a, .int .i64 b], .int .i64 n] w fun e w' => e = .returned (.bool (decide (a ≤ n) && decide (n ≤ b))) ∧ Only (fun _ => False) w w' := by
  by_cases h1 : a ≤ n
  · by_cases h2 : n ≤ b
    · rw [decide_eq_true h1, decide_eq_true h2]
      exact holds_yes a b n w h1 h2
    · rw [decide_eq_true h1, decide_eq_false h2]
      go_enter Try.func49, Try.ntmps49
      go_wp2
      go_ret
      exact ⟨rfl, (Only.refl _ w).alloc _⟩
  · rw [decide_eq_false h1]
    go_enter Try.func49, Try.ntmps49
    go_wp2
    go_ret
    exact ⟨rfl, (Only.refl _ w).alloc _⟩
set_option maxRecDepth 100000 in
set_option maxHeartbeats 4000000 in
theorem fright_1 (m : Ms) (p1 o1 s1 : Value) (w : World) (h1 : RdM m p1 o1 s1 w) (hs : m.sort = 1) (hl : m.pairs.length ≤ 1000000 ∧ m.orders.length ≤ 1000000 ∧ m.srcs.length ≤ 1000000) (hm : m.mant < 4294967296) (he : m.exp < 256) :
    Calls Try.prog 15 #[.agg (m.cls p1 o1 s1)] w fun e w' => e = .returned (.bool (rightMs m)) ∧ Only (fun _ => False) w w' := by
  obtain ⟨P1, d1, rfl, -, -⟩ := h1.p
  obtain ⟨O1, e1, rfl, -, -⟩ := h1.o
  obtain ⟨S1, f1, rfl, -, -⟩ := h1.s
  rw [nats_length]
  have HSO := Lib.hid (fun w => sortof_is 1 w (by omega) (by omega))
  have HC := Lib.hid (fun b wx => @cls_cells m (.slice P1 m.pairs.length d1) (.slice O1 m.orders.length e1) (.slice S1 m.srcs.length f1) wx b 27)
  obtain ⟨r, hr⟩ : ∃ r, rightMs m = r := ⟨_, rfl⟩
  rw [hr]
  unfold rightMs at hr
  rw [hs] at HC hr
  obtain ⟨A, hA⟩ : ∃ a, m.cls (.slice P1 m.pairs.length d1) (.slice O1 m.orders.length e1) (.slice S1 m.srcs.length f1) = a := ⟨_, rfl⟩
  rw [hA] at HC ⊢
  clear hA h1 hs
  generalize m.pairs.length = P at *
  generalize m.orders.length = O at *
  generalize m.srcs.length = S at *
  generalize m.exp = e at *
  generalize m.mant = t at *
  obtain ⟨hP, hO, hS⟩ := hl
  have HT := Lib.hid (fun (h : okMs 1 P O S e t) => (show true = r from by rw [← hr]; exact (decide_eq_true h).symm))
  have HF := Lib.hid (fun (h : ¬ okMs 1 P O S e t) => (show false = r from by rw [← hr]; exact (decide_eq_false h).symm))
  clear hr
  have wt : IntKind.i64.wrap (t : Int) = (t : Int) := by rw [IntKind.wrap_i64]; omega
  have we : IntKind.i64.wrap (e : Int) = (e : Int) := by rw [IntKind.wrap_i64]; omega
  go_enter Try.func15, Try.ntmps15
  go_upto_region 1 with (fail)
  generalize hw0 : World.alloc _ _ = w0
  have I0 := Lib.hid (show Is w0 w.heap.size 27 A from by rw [← hw0]; exact Is.made _ _ _)
  have T0 := Lib.hid (show Only (fun _ => False) w w0 from by rw [← hw0]; exact (Only.refl _ w).alloc _)
  obtain ⟨mb, hmb⟩ : ∃ k, w.heap.size = k := ⟨_, rfl⟩
  rw [hmb] at I0 ⊢
  clear hw0 hmb
  obtain ⟨m0, -, -, -, -, -, -, -⟩ := HC.out mb w0 I0.out
  go_upto_region 2 with (first
    | (go_at_call 43; refine (HSO.out _).mono ?_; rintro e w1 ⟨rfl, ho1⟩; have O1' := Lib.hid ho1; clear ho1)
    | (refine wpList_store_is rfl 93 _ _ rfl w1.heap.size (srtV 1) rfl rfl 93 (srtV 0) (Is.made w1 _ (srtV 0)) (srt_size 1 (by omega) (by omega)) (srt_hold 1 (by omega) (by omega)) (srt_one 1 (by omega) (by omega)) ?_; intro w2 hi2 ho2; have O2' := Lib.hid (fb_made ho2); have S2 := Lib.hid hi2; clear hi2 ho2))
  clear m0
  have I2 := Lib.hid (I0.out.only (only_more O1'.out O2'.out) (by simp))
  have P2 := Lib.hid (only_more T0.out (only_more O1'.out O2'.out))
  generalize w1.heap.size = sb at *
  have HE := Lib.hid (fun wx (ho : Only (fun _ => False) w2 wx) => HC.out mb wx (I2.out.only ho (by simp)))
  have HG := Lib.hid (fun wx (ho : Only (fun _ => False) w2 wx) => (show wx.cell? ⟨sb, 3, none⟩ = some (.int .i64 1) ∧ wx.cell? ⟨sb, 4, none⟩ = some (.int .i64 65533) ∧ wx.cell? ⟨sb, 5, none⟩ = some (.int .i64 0) ∧ wx.cell? ⟨sb, 6, none⟩ = some (.int .i64 0) ∧ wx.cell? ⟨sb, 7, none⟩ = some (.int .i64 0) ∧ wx.cell? ⟨sb, 8, none⟩ = some (.int .i64 0) ∧ wx.cell? ⟨sb, 9, none⟩ = some (.int .i64 0) ∧ wx.cell? ⟨sb, 10, none⟩ = some (.int .i64 0) ∧ wx.cell? ⟨sb, 11, none⟩ = some (.int .i64 0) ∧ wx.cell? ⟨sb, 12, none⟩ = some (.int .i64 0) from
    have h := S2.out.only ho (by simp)
    ⟨h.cell 3, h.cell 4, h.cell 5, h.cell 6, h.cell 7, h.cell 8, h.cell 9, h.cell 10, h.cell 11, h.cell 12⟩))
  have OA := Lib.hid (Only.refl (fun _ => False) w2)
  clear I0 T0 O1' O2' S2 I2 HC HSO
  obtain ⟨-, -, -, m3, m4, m5, m6, m7⟩ := HE.out _ OA.out
  obtain ⟨c3, c4, c5, c6, c7, c8, c9, c10, c11, c12⟩ := HG.out _ OA.out
  generalize ht : (t : Int) = T at *
  go_wp2_with (go_at_call 49; refine (holds_is _ _ _ _).mono ?_; rintro e w9 ⟨rfl, ho9⟩; have OA := Lib.hid (only_more OA.out ho9); clear m3 m4 m5 m6 m7 c3 c4 c5 c6 c7 c8 c9 c10 c11 c12 ho9; obtain ⟨-, -, -, m3, m4, m5, m6, m7⟩ := HE.out _ OA.out; obtain ⟨c3, c4, c5, c6, c7, c8, c9, c10, c11, c12⟩ := HG.out _ OA.out)
  all_goals first
    | (go_ret; rw [← HF.out (by unfold okMs; omega)]; exact ⟨rfl, only_more P2.out OA.out⟩)
    | (go_ret
       refine ⟨?_, only_more P2.out OA.out⟩
       show Ending.returned (Value.bool (decide (0 ≤ T) && decide (T ≤ 0))) = _
       by_cases gT : T ≤ 0
       · rw [← HT.out (by unfold okMs; omega), decide_eq_true (show 0 ≤ T by omega), decide_eq_true gT]
         rfl
       · rw [← HF.out (by unfold okMs; omega), decide_eq_true (show 0 ≤ T by omega), decide_eq_false gT]
         rfl)
set_option maxRecDepth 100000 in
set_option maxHeartbeats 4000000 in
theorem fright_2 (m : Ms) (p1 o1 s1 : Value) (w : World) (h1 : RdM m p1 o1 s1 w) (hs : m.sort = 2) (hl : m.pairs.length ≤ 1000000 ∧ m.orders.length ≤ 1000000 ∧ m.srcs.length ≤ 1000000) (hm : m.mant < 4294967296) (he : m.exp < 256) :
    Calls Try.prog 15 #[.agg (m.cls p1 o1 s1)] w fun e w' => e = .returned (.bool (rightMs m)) ∧ Only (fun _ => False) w w' := by
  obtain ⟨P1, d1, rfl, -, -⟩ := h1.p
  obtain ⟨O1, e1, rfl, -, -⟩ := h1.o
  obtain ⟨S1, f1, rfl, -, -⟩ := h1.s
  rw [nats_length]
  have HSO := Lib.hid (fun w => sortof_is 2 w (by omega) (by omega))
  have HC := Lib.hid (fun b wx => @cls_cells m (.slice P1 m.pairs.length d1) (.slice O1 m.orders.length e1) (.slice S1 m.srcs.length f1) wx b 27)
  obtain ⟨r, hr⟩ : ∃ r, rightMs m = r := ⟨_, rfl⟩
  rw [hr]
  unfold rightMs at hr
  rw [hs] at HC hr
  obtain ⟨A, hA⟩ : ∃ a, m.cls (.slice P1 m.pairs.length d1) (.slice O1 m.orders.length e1) (.slice S1 m.srcs.length f1) = a := ⟨_, rfl⟩
  rw [hA] at HC ⊢
  clear hA h1 hs
  generalize m.pairs.length = P at *
  generalize m.orders.length = O at *
  generalize m.srcs.length = S at *
  generalize m.exp = e at *
  generalize m.mant = t at *
  obtain ⟨hP, hO, hS⟩ := hl
  have HT := Lib.hid (fun (h : okMs 2 P O S e t) => (show true = r from by rw [← hr]; exact (decide_eq_true h).symm))
  have HF := Lib.hid (fun (h : ¬ okMs 2 P O S e t) => (show false = r from by rw [← hr]; exact (decide_eq_false h).symm))
  clear hr
  have wt : IntKind.i64.wrap (t : Int) = (t : Int) := by rw [IntKind.wrap_i64]; omega
  have we : IntKind.i64.wrap (e : Int) = (e : Int) := by rw [IntKind.wrap_i64]; omega
  go_enter Try.func15, Try.ntmps15
  go_upto_region 1 with (fail)
  generalize hw0 : World.alloc _ _ = w0
  have I0 := Lib.hid (show Is w0 w.heap.size 27 A from by rw [← hw0]; exact Is.made _ _ _)
  have T0 := Lib.hid (show Only (fun _ => False) w w0 from by rw [← hw0]; exact (Only.refl _ w).alloc _)
  obtain ⟨mb, hmb⟩ : ∃ k, w.heap.size = k := ⟨_, rfl⟩
  rw [hmb] at I0 ⊢
  clear hw0 hmb
  obtain ⟨m0, -, -, -, -, -, -, -⟩ := HC.out mb w0 I0.out
  go_upto_region 2 with (first
    | (go_at_call 43; refine (HSO.out _).mono ?_; rintro e w1 ⟨rfl, ho1⟩; have O1' := Lib.hid ho1; clear ho1)
    | (refine wpList_store_is rfl 93 _ _ rfl w1.heap.size (srtV 2) rfl rfl 93 (srtV 0) (Is.made w1 _ (srtV 0)) (srt_size 2 (by omega) (by omega)) (srt_hold 2 (by omega) (by omega)) (srt_one 2 (by omega) (by omega)) ?_; intro w2 hi2 ho2; have O2' := Lib.hid (fb_made ho2); have S2 := Lib.hid hi2; clear hi2 ho2))
  clear m0
  have I2 := Lib.hid (I0.out.only (only_more O1'.out O2'.out) (by simp))
  have P2 := Lib.hid (only_more T0.out (only_more O1'.out O2'.out))
  generalize w1.heap.size = sb at *
  have HE := Lib.hid (fun wx (ho : Only (fun _ => False) w2 wx) => HC.out mb wx (I2.out.only ho (by simp)))
  have HG := Lib.hid (fun wx (ho : Only (fun _ => False) w2 wx) => (show wx.cell? ⟨sb, 3, none⟩ = some (.int .i64 0) ∧ wx.cell? ⟨sb, 4, none⟩ = some (.int .i64 0) ∧ wx.cell? ⟨sb, 5, none⟩ = some (.int .i64 0) ∧ wx.cell? ⟨sb, 6, none⟩ = some (.int .i64 0) ∧ wx.cell? ⟨sb, 7, none⟩ = some (.int .i64 0) ∧ wx.cell? ⟨sb, 8, none⟩ = some (.int .i64 0) ∧ wx.cell? ⟨sb, 9, none⟩ = some (.int .i64 0) ∧ wx.cell? ⟨sb, 10, none⟩ = some (.int .i64 0) ∧ wx.cell? ⟨sb, 11, none⟩ = some (.int .i64 0) ∧ wx.cell? ⟨sb, 12, none⟩ = some (.int .i64 0) from
    have h := S2.out.only ho (by simp)
    ⟨h.cell 3, h.cell 4, h.cell 5, h.cell 6, h.cell 7, h.cell 8, h.cell 9, h.cell 10, h.cell 11, h.cell 12⟩))
  have OA := Lib.hid (Only.refl (fun _ => False) w2)
  clear I0 T0 O1' O2' S2 I2 HC HSO
  obtain ⟨-, -, -, m3, m4, m5, m6, m7⟩ := HE.out _ OA.out
  obtain ⟨c3, c4, c5, c6, c7, c8, c9, c10, c11, c12⟩ := HG.out _ OA.out
  generalize ht : (t : Int) = T at *
  go_wp2_with (go_at_call 49; refine (holds_is _ _ _ _).mono ?_; rintro e w9 ⟨rfl, ho9⟩; have OA := Lib.hid (only_more OA.out ho9); clear m3 m4 m5 m6 m7 c3 c4 c5 c6 c7 c8 c9 c10 c11 c12 ho9; obtain ⟨-, -, -, m3, m4, m5, m6, m7⟩ := HE.out _ OA.out; obtain ⟨c3, c4, c5, c6, c7, c8, c9, c10, c11, c12⟩ := HG.out _ OA.out)
  all_goals first
    | (go_ret; rw [← HF.out (by unfold okMs; omega)]; exact ⟨rfl, only_more P2.out OA.out⟩)
    | (go_ret
       refine ⟨?_, only_more P2.out OA.out⟩
       show Ending.returned (Value.bool (decide (0 ≤ T) && decide (T ≤ 0))) = _
       by_cases gT : T ≤ 0
       · rw [← HT.out (by unfold okMs; omega), decide_eq_true (show 0 ≤ T by omega), decide_eq_true gT]
         rfl
       · rw [← HF.out (by unfold okMs; omega), decide_eq_true (show 0 ≤ T by omega), decide_eq_false gT]
         rfl)
set_option maxRecDepth 100000 in
set_option maxHeartbeats 4000000 in
theorem fright_3 (m : Ms) (p1 o1 s1 : Value) (w : World) (h1 : RdM m p1 o1 s1 w) (hs : m.sort = 3) (hl : m.pairs.length ≤ 1000000 ∧ m.orders.length ≤ 1000000 ∧ m.srcs.length ≤ 1000000) (hm : m.mant < 4294967296) (he : m.exp < 256) :
    Calls Try.prog 15 #[.agg (m.cls p1 o1 s1)] w fun e w' => e = .returned (.bool (rightMs m)) ∧ Only (fun _ => False) w w' := by
  obtain ⟨P1, d1, rfl, -, -⟩ := h1.p
  obtain ⟨O1, e1, rfl, -, -⟩ := h1.o
  obtain ⟨S1, f1, rfl, -, -⟩ := h1.s
  rw [nats_length]
  have HSO := Lib.hid (fun w => sortof_is 3 w (by omega) (by omega))
  have HC := Lib.hid (fun b wx => @cls_cells m (.slice P1 m.pairs.length d1) (.slice O1 m.orders.length e1) (.slice S1 m.srcs.length f1) wx b 27)
  obtain ⟨r, hr⟩ : ∃ r, rightMs m = r := ⟨_, rfl⟩
  rw [hr]
  unfold rightMs at hr
  rw [hs] at HC hr
  obtain ⟨A, hA⟩ : ∃ a, m.cls (.slice P1 m.pairs.length d1) (.slice O1 m.orders.length e1) (.slice S1 m.srcs.length f1) = a := ⟨_, rfl⟩
  rw [hA] at HC ⊢
  clear hA h1 hs
  generalize m.pairs.length = P at *
  generalize m.orders.length = O at *
  generalize m.srcs.length = S at *
  generalize m.exp = e at *
  generalize m.mant = t at *
  obtain ⟨hP, hO, hS⟩ := hl
  have HT := Lib.hid (fun (h : okMs 3 P O S e t) => (show true = r from by rw [← hr]; exact (decide_eq_true h).symm))
  have HF := Lib.hid (fun (h : ¬ okMs 3 P O S e t) => (show false = r from by rw [← hr]; exact (decide_eq_false h).symm))
  clear hr
  have wt : IntKind.i64.wrap (t : Int) = (t : Int) := by rw [IntKind.wrap_i64]; omega
  have we : IntKind.i64.wrap (e : Int) = (e : Int) := by rw [IntKind.wrap_i64]; omega
  go_enter Try.func15, Try.ntmps15
  go_upto_region 1 with (fail)
  generalize hw0 : World.alloc _ _ = w0
  have I0 := Lib.hid (show Is w0 w.heap.size 27 A from by rw [← hw0]; exact Is.made _ _ _)
  have T0 := Lib.hid (show Only (fun _ => False) w w0 from by rw [← hw0]; exact (Only.refl _ w).alloc _)
  obtain ⟨mb, hmb⟩ : ∃ k, w.heap.size = k := ⟨_, rfl⟩
  rw [hmb] at I0 ⊢
  clear hw0 hmb
  obtain ⟨m0, -, -, -, -, -, -, -⟩ := HC.out mb w0 I0.out
  go_upto_region 2 with (first
    | (go_at_call 43; refine (HSO.out _).mono ?_; rintro e w1 ⟨rfl, ho1⟩; have O1' := Lib.hid ho1; clear ho1)
    | (refine wpList_store_is rfl 93 _ _ rfl w1.heap.size (srtV 3) rfl rfl 93 (srtV 0) (Is.made w1 _ (srtV 0)) (srt_size 3 (by omega) (by omega)) (srt_hold 3 (by omega) (by omega)) (srt_one 3 (by omega) (by omega)) ?_; intro w2 hi2 ho2; have O2' := Lib.hid (fb_made ho2); have S2 := Lib.hid hi2; clear hi2 ho2))
  clear m0
  have I2 := Lib.hid (I0.out.only (only_more O1'.out O2'.out) (by simp))
  have P2 := Lib.hid (only_more T0.out (only_more O1'.out O2'.out))
  generalize w1.heap.size = sb at *
  have HE := Lib.hid (fun wx (ho : Only (fun _ => False) w2 wx) => HC.out mb wx (I2.out.only ho (by simp)))
  have HG := Lib.hid (fun wx (ho : Only (fun _ => False) w2 wx) => (show wx.cell? ⟨sb, 3, none⟩ = some (.int .i64 0) ∧ wx.cell? ⟨sb, 4, none⟩ = some (.int .i64 0) ∧ wx.cell? ⟨sb, 5, none⟩ = some (.int .i64 1) ∧ wx.cell? ⟨sb, 6, none⟩ = some (.int .i64 32766) ∧ wx.cell? ⟨sb, 7, none⟩ = some (.int .i64 0) ∧ wx.cell? ⟨sb, 8, none⟩ = some (.int .i64 0) ∧ wx.cell? ⟨sb, 9, none⟩ = some (.int .i64 0) ∧ wx.cell? ⟨sb, 10, none⟩ = some (.int .i64 0) ∧ wx.cell? ⟨sb, 11, none⟩ = some (.int .i64 0) ∧ wx.cell? ⟨sb, 12, none⟩ = some (.int .i64 0) from
    have h := S2.out.only ho (by simp)
    ⟨h.cell 3, h.cell 4, h.cell 5, h.cell 6, h.cell 7, h.cell 8, h.cell 9, h.cell 10, h.cell 11, h.cell 12⟩))
  have OA := Lib.hid (Only.refl (fun _ => False) w2)
  clear I0 T0 O1' O2' S2 I2 HC HSO
  obtain ⟨-, -, -, m3, m4, m5, m6, m7⟩ := HE.out _ OA.out
  obtain ⟨c3, c4, c5, c6, c7, c8, c9, c10, c11, c12⟩ := HG.out _ OA.out
  generalize ht : (t : Int) = T at *
  go_wp2_with (go_at_call 49; refine (holds_is _ _ _ _).mono ?_; rintro e w9 ⟨rfl, ho9⟩; have OA := Lib.hid (only_more OA.out ho9); clear m3 m4 m5 m6 m7 c3 c4 c5 c6 c7 c8 c9 c10 c11 c12 ho9; obtain ⟨-, -, -, m3, m4, m5, m6, m7⟩ := HE.out _ OA.out; obtain ⟨c3, c4, c5, c6, c7, c8, c9, c10, c11, c12⟩ := HG.out _ OA.out)
  all_goals first
    | (go_ret; rw [← HF.out (by unfold okMs; omega)]; exact ⟨rfl, only_more P2.out OA.out⟩)
    | (go_ret
       refine ⟨?_, only_more P2.out OA.out⟩
       show Ending.returned (Value.bool (decide (0 ≤ T) && decide (T ≤ 0))) = _
       by_cases gT : T ≤ 0
       · rw [← HT.out (by unfold okMs; omega), decide_eq_true (show 0 ≤ T by omega), decide_eq_true gT]
         rfl
       · rw [← HF.out (by unfold okMs; omega), decide_eq_true (show 0 ≤ T by omega), decide_eq_false gT]
         rfl)
set_option maxRecDepth 100000 in
set_option maxHeartbeats 4000000 in
theorem fright_4 (m : Ms) (p1 o1 s1 : Value) (w : World) (h1 : RdM m p1 o1 s1 w) (hs : m.sort = 4) (hl : m.pairs.length ≤ 1000000 ∧ m.orders.length ≤ 1000000 ∧ m.srcs.length ≤ 1000000) (hm : m.mant < 4294967296) (he : m.exp < 256) :
    Calls Try.prog 15 #[.agg (m.cls p1 o1 s1)] w fun e w' => e = .returned (.bool (rightMs m)) ∧ Only (fun _ => False) w w' := by
  obtain ⟨P1, d1, rfl, -, -⟩ := h1.p
  obtain ⟨O1, e1, rfl, -, -⟩ := h1.o
  obtain ⟨S1, f1, rfl, -, -⟩ := h1.s
  rw [nats_length]
  have HSO := Lib.hid (fun w => sortof_is 4 w (by omega) (by omega))
  have HC := Lib.hid (fun b wx => @cls_cells m (.slice P1 m.pairs.length d1) (.slice O1 m.orders.length e1) (.slice S1 m.srcs.length f1) wx b 27)
  obtain ⟨r, hr⟩ : ∃ r, rightMs m = r := ⟨_, rfl⟩
  rw [hr]
  unfold rightMs at hr
  rw [hs] at HC hr
  obtain ⟨A, hA⟩ : ∃ a, m.cls (.slice P1 m.pairs.length d1) (.slice O1 m.orders.length e1) (.slice S1 m.srcs.length f1) = a := ⟨_, rfl⟩
  rw [hA] at HC ⊢
  clear hA h1 hs
  generalize m.pairs.length = P at *
  generalize m.orders.length = O at *
  generalize m.srcs.length = S at *
  generalize m.exp = e at *
  generalize m.mant = t at *
  obtain ⟨hP, hO, hS⟩ := hl
  have HT := Lib.hid (fun (h : okMs 4 P O S e t) => (show true = r from by rw [← hr]; exact (decide_eq_true h).symm))
  have HF := Lib.hid (fun (h : ¬ okMs 4 P O S e t) => (show false = r from by rw [← hr]; exact (decide_eq_false h).symm))
  clear hr
  have wt : IntKind.i64.wrap (t : Int) = (t : Int) := by rw [IntKind.wrap_i64]; omega
  have we : IntKind.i64.wrap (e : Int) = (e : Int) := by rw [IntKind.wrap_i64]; omega
  go_enter Try.func15, Try.ntmps15
  go_upto_region 1 with (fail)
  generalize hw0 : World.alloc _ _ = w0
  have I0 := Lib.hid (show Is w0 w.heap.size 27 A from by rw [← hw0]; exact Is.made _ _ _)
  have T0 := Lib.hid (show Only (fun _ => False) w w0 from by rw [← hw0]; exact (Only.refl _ w).alloc _)
  obtain ⟨mb, hmb⟩ : ∃ k, w.heap.size = k := ⟨_, rfl⟩
  rw [hmb] at I0 ⊢
  clear hw0 hmb
  obtain ⟨m0, -, -, -, -, -, -, -⟩ := HC.out mb w0 I0.out
  go_upto_region 2 with (first
    | (go_at_call 43; refine (HSO.out _).mono ?_; rintro e w1 ⟨rfl, ho1⟩; have O1' := Lib.hid ho1; clear ho1)
    | (refine wpList_store_is rfl 93 _ _ rfl w1.heap.size (srtV 4) rfl rfl 93 (srtV 0) (Is.made w1 _ (srtV 0)) (srt_size 4 (by omega) (by omega)) (srt_hold 4 (by omega) (by omega)) (srt_one 4 (by omega) (by omega)) ?_; intro w2 hi2 ho2; have O2' := Lib.hid (fb_made ho2); have S2 := Lib.hid hi2; clear hi2 ho2))
  clear m0
  have I2 := Lib.hid (I0.out.only (only_more O1'.out O2'.out) (by simp))
  have P2 := Lib.hid (only_more T0.out (only_more O1'.out O2'.out))
  generalize w1.heap.size = sb at *
  have HE := Lib.hid (fun wx (ho : Only (fun _ => False) w2 wx) => HC.out mb wx (I2.out.only ho (by simp)))
  have HG := Lib.hid (fun wx (ho : Only (fun _ => False) w2 wx) => (show wx.cell? ⟨sb, 3, none⟩ = some (.int .i64 0) ∧ wx.cell? ⟨sb, 4, none⟩ = some (.int .i64 0) ∧ wx.cell? ⟨sb, 5, none⟩ = some (.int .i64 0) ∧ wx.cell? ⟨sb, 6, none⟩ = some (.int .i64 0) ∧ wx.cell? ⟨sb, 7, none⟩ = some (.int .i64 0) ∧ wx.cell? ⟨sb, 8, none⟩ = some (.int .i64 255) ∧ wx.cell? ⟨sb, 9, none⟩ = some (.int .i64 0) ∧ wx.cell? ⟨sb, 10, none⟩ = some (.int .i64 63) ∧ wx.cell? ⟨sb, 11, none⟩ = some (.int .i64 0) ∧ wx.cell? ⟨sb, 12, none⟩ = some (.int .i64 262143) from
    have h := S2.out.only ho (by simp)
    ⟨h.cell 3, h.cell 4, h.cell 5, h.cell 6, h.cell 7, h.cell 8, h.cell 9, h.cell 10, h.cell 11, h.cell 12⟩))
  have OA := Lib.hid (Only.refl (fun _ => False) w2)
  clear I0 T0 O1' O2' S2 I2 HC HSO
  obtain ⟨-, -, -, m3, m4, m5, m6, m7⟩ := HE.out _ OA.out
  obtain ⟨c3, c4, c5, c6, c7, c8, c9, c10, c11, c12⟩ := HG.out _ OA.out
  generalize ht : (t : Int) = T at *
  go_wp2_with (go_at_call 49; refine (holds_is _ _ _ _).mono ?_; rintro e w9 ⟨rfl, ho9⟩; have OA := Lib.hid (only_more OA.out ho9); clear m3 m4 m5 m6 m7 c3 c4 c5 c6 c7 c8 c9 c10 c11 c12 ho9; obtain ⟨-, -, -, m3, m4, m5, m6, m7⟩ := HE.out _ OA.out; obtain ⟨c3, c4, c5, c6, c7, c8, c9, c10, c11, c12⟩ := HG.out _ OA.out)
  all_goals first
    | (go_ret; rw [← HF.out (by unfold okMs; omega)]; exact ⟨rfl, only_more P2.out OA.out⟩)
    | (go_ret
       refine ⟨?_, only_more P2.out OA.out⟩
       show Ending.returned (Value.bool (decide (0 ≤ T) && decide (T ≤ 262143))) = _
       by_cases gT : T ≤ 262143
       · rw [← HT.out (by unfold okMs; omega), decide_eq_true (show 0 ≤ T by omega), decide_eq_true gT]
         rfl
       · rw [← HF.out (by unfold okMs; omega), decide_eq_true (show 0 ≤ T by omega), decide_eq_false gT]
         rfl)
end Go.Proofs.Ytefcimkopgcagaa

/- feedback.Right, of every number of a sort. Conditions: as it says. -/
set_option linter.unusedVariables false
namespace Go.Proofs.Ytefcimkopgcagaa
open Go.RowKit

theorem srt0_size : (Try.prog.info? 93).map (·.size) = some (srtV 0).size := by
  rw [Try.sizeSort]
  rfl
theorem srt0_one : (srtV 0).all (·.oneCell') = true := by simp [srtV, srt, mkSrt, Value.oneCell']
set_option maxRecDepth 100000 in
set_option maxHeartbeats 1000000 in
theorem sortof_bad (s : Nat) (w : World) (h : s < 1 ∨ 4 < s) : Calls Try.prog 43 #[.int .u8 s] w fun e w' => e = .returned (.tuple #[.agg (srtV 0), .bool false]) ∧ Only (fun _ => False) w w' := by
  go_enter Try.func43, Try.ntmps43
  by_cases h1 : s < 1
  · have z1 : (s : Int) < 1 := by omega
    clear h
    go_wp2_with (first
      | (refine wpList_build_is (o := ⟨some 10, _, _, _, _, _⟩) rfl _ _ rfl (srtV 0) (by kernel_rfl) ?_)
      | (refine wpList_store_is rfl 93 _ _ rfl w.heap.size (srtV 0) rfl rfl 93 (srtV 0) (Is.made w _ (srtV 0)) srt0_size rfl srt0_one ?_; intro w5 hi5 ho5; have O5 := Lib.hid (fb_made ho5); have I5 := Lib.hid hi5; clear hi5 ho5))
    exact bodyPost_ret (res_pair Try.results43 _ w5 w.heap.size 93 (srtV 0) _ (.bool false) rfl rfl I5.out Try.underlying93 rfl srt0_size) rfl ⟨rfl, O5.out⟩
  · have z1 : ¬ (s : Int) < 1 := by omega
    have z4 : (4 : Int) < (s : Int) := by omega
    clear h h1
    go_wp2_with (first
      | (refine wpList_build_is (o := ⟨some 10, _, _, _, _, _⟩) rfl _ _ rfl (srtV 0) (by kernel_rfl) ?_)
      | (refine wpList_store_is rfl 93 _ _ rfl w.heap.size (srtV 0) rfl rfl 93 (srtV 0) (Is.made w _ (srtV 0)) srt0_size rfl srt0_one ?_; intro w5 hi5 ho5; have O5 := Lib.hid (fb_made ho5); have I5 := Lib.hid hi5; clear hi5 ho5))
    exact bodyPost_ret (res_pair Try.results43 _ w5 w.heap.size 93 (srtV 0) _ (.bool false) rfl rfl I5.out Try.underlying93 rfl srt0_size) rfl ⟨rfl, O5.out⟩
set_option maxRecDepth 100000 in
set_option maxHeartbeats 2000000 in
theorem fright_is (m : Ms) (p1 o1 s1 : Value) (w : World) (h1 : RdM m p1 o1 s1 w) (hl : m.pairs.length ≤ 1000000 ∧ m.orders.length ≤ 1000000 ∧ m.srcs.length ≤ 1000000) (hm : m.mant < 4294967296) (he : m.exp < 256) :
    Calls Try.prog 15 #[.agg (m.cls p1 o1 s1)] w fun e w' => e = .returned (.bool (rightMs m)) ∧ Only (fun _ => False) w w' := by
  by_cases g1 : m.sort = 1
  · exact fright_1 m p1 o1 s1 w h1 g1 hl hm he
  by_cases g2 : m.sort = 2
  · exact fright_2 m p1 o1 s1 w h1 g2 hl hm he
  by_cases g3 : m.sort = 3
  · exact fright_3 m p1 o1 s1 w h1 g3 hl hm he
  by_cases g4 : m.sort = 4
  · exact fright_4 m p1 o1 s1 w h1 g4 hl hm he
  have hf : rightMs m = false := decide_eq_false (by unfold okMs; omega)
  rw [hf]
  have HSO := Lib.hid (fun w => sortof_bad m.sort w (by omega))
  have HC := Lib.hid (fun b wx => @cls_cells m p1 o1 s1 wx b 27)
  generalize m.sort = s at *
  obtain ⟨A, hA⟩ : ∃ a, m.cls p1 o1 s1 = a := ⟨_, rfl⟩
  rw [hA] at HC ⊢
  clear hA h1 hf hl hm he g1 g2 g3 g4
  go_enter Try.func15, Try.ntmps15
  go_upto_region 1 with (fail)
  generalize hw0 : World.alloc _ _ = w0
  have I0 := Lib.hid (show Is w0 w.heap.size 27 A from by rw [← hw0]; exact Is.made _ _ _)
  have T0 := Lib.hid (show Only (fun _ => False) w w0 from by rw [← hw0]; exact (Only.refl _ w).alloc _)
  obtain ⟨mb, hmb⟩ : ∃ k, w.heap.size = k := ⟨_, rfl⟩
  rw [hmb] at I0 ⊢
  clear hw0 hmb
  obtain ⟨m0, -, -, -, -, -, -, -⟩ := HC.out mb w0 I0.out
  go_wp2_with (first
    | (go_at_call 43; refine (HSO.out _).mono ?_; rintro e w1 ⟨rfl, ho1⟩; have O1' := Lib.hid ho1; clear ho1)
    | (refine wpList_store_is rfl 93 _ _ rfl w1.heap.size (srtV 0) rfl rfl 93 (srtV 0) (Is.made w1 _ (srtV 0)) srt0_size rfl srt0_one ?_; intro w2 hi2 ho2; have O2' := Lib.hid (fb_made ho2); clear hi2 ho2))
  go_ret
  exact ⟨rfl, only_more T0.out (only_more O1'.out O2'.out)⟩
end Go.Proofs.Ytefcimkopgcagaa

/- easellaw07.ref: a message told anew. Conditions: as it says. -/
set_option linter.unusedVariables false
namespace Go.Proofs.Ytefcimkopgcagaa
open Go.RowKit

theorem Try.infoRo : (Try.prog.info? 86).map (fun i => (i.zero, i.size, i.bytes)) = some (some (.agg #[.int .u32 0, .int .u8 0]), 2, 8) := by kernel_rfl
theorem sty_ro : Sty 31 86 2 8 := by
  obtain ⟨i0, hi, hz0, hz1, hz2⟩ := info_parts Try.infoRo
  exact ⟨Try.underlying31, ⟨i0, _, hi, hz0, hz1, hz2, rfl⟩, by decide⟩
def OwnO (B : Nat) (v : Value) (l : List Od) (w : World) : Prop := OwnS w B 86 2 v (l.map Od.lst)
theorem OwnO.only {B : Nat} {v : Value} {l : List Od} {w w1 : World} {S : Nat → Prop} (h : OwnO B v l w) (ho : Only S w w1) (hs : ∀ k, v.ownBlock = some k → ¬ S k) : OwnO B v l w1 := OwnS.only h ho hs
theorem OwnO.nil (w : World) (B : Nat) : OwnO B (.slice none 0 0) [] w := OwnS.nil w B 86 2
theorem OwnO.slice {B : Nat} {v : Value} {l : List Od} {w : World} (h : OwnO B v l w) : ∃ A c, v = .slice A l.length c ∧ l.length ≤ c := by
  obtain ⟨A, c, rfl, hc⟩ := OwnS.slice h
  rw [List.length_map] at hc ⊢
  exact ⟨A, c, rfl, hc⟩
theorem OwnO.rd {B : Nat} {v : Value} {l : List Od} {w : World} (h : OwnO B v l w) : RdO w v l := by
  obtain ⟨A, c, rfl, hc⟩ := OwnS.slice h
  rw [List.length_map] at hc ⊢
  refine ⟨A, c, rfl, hc, fun hp => ?_⟩
  obtain ⟨g, c', e, -, -, -, hcell⟩ := OwnS.at_ h (by simpa using hp)
  injection e with e1
  subst e1
  refine ⟨g, 0, rfl, fun i p hi => ?_⟩
  have h0 := hcell i 0 p.lst (by simp [hi]) (by omega)
  have h1 := hcell i 1 p.lst (by simp [hi]) (by omega)
  rw [Nat.add_zero] at h0
  exact ⟨by rw [Nat.zero_add]; exact h0, by rw [Nat.zero_add]; exact h1⟩
theorem Ms.one (m : Ms) {vp vo vs : Value} (h1 : ∃ A n c, vp = .slice A n c) (h2 : ∃ A n c, vo = .slice A n c) (h3 : ∃ A n c, vs = .slice A n c) : (m.cls vp vo vs).all (·.oneCell') = true := by
  obtain ⟨_, _, _, rfl⟩ := h1
  obtain ⟨_, _, _, rfl⟩ := h2
  obtain ⟨_, _, _, rfl⟩ := h3
  simp [Ms.cls, Value.oneCell']
theorem Try.sizeRme : (Try.prog.info? 33).map (·.size) = some 8 := by kernel_rfl
end Go.Proofs.Ytefcimkopgcagaa
