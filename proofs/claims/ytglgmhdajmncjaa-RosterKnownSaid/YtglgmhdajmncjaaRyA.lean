/- roster: a roster plainly, and in memory; its smallest calls. Conditions: as each says. -/
import Derived.Test.YtglgmhdajmncjaaRowS
import Derived.Test.YtglgmhdajmncjaaMapE
import Derived.Test.YtglgmhdajmncjaaAppW
import Derived.Test.YtglgmhdajmncjaaRegT
import Derived.Test.YtglgmhdajmncjaaRegL
import Derived.Test.YtglgmhdajmncjaaPick
import Derived.Test.YtglgmhdajmncjaaFew
import Derived.Deep.DeepCutAuto
set_option linter.unusedVariables false
set_option linter.unusedSimpArgs false
namespace Go.Proofs.Ytglgmhdajmncjaa
open Go Go.RowKit

def zeroMb : Array Value := #[.int .i64 0, .int .u32 0, .int .u32 0, .bool false]
theorem Try.infoMb : (Try.prog.info? 58).map (fun i => (i.zero, i.size, i.bytes)) = some (some (.agg zeroMb), 4, 24) := by kernel_rfl
theorem Try.sizeMb : (Try.prog.info? 58).map (·.size) = some 4 := by kernel_rfl
theorem sty_mb : Sty 69 58 4 24 := by
  obtain ⟨i0, hi, hz0, hz1, hz2⟩ := info_parts Try.infoMb
  exact ⟨Try.underlying69, ⟨i0, _, hi, hz0, hz1, hz2, rfl⟩, by decide⟩

/-- A member. -/
structure Mb where
  id : Int
  co : Nat
  ca : Nat
  mo : Bool
def mbCells (m : Mb) : List Value := [.int .i64 m.id, .int .u32 (m.co : Int), .int .u32 (m.ca : Int), .bool m.mo]
abbrev mbV (m : Mb) : Value := .agg #[.int .i64 m.id, .int .u32 (m.co : Int), .int .u32 (m.ca : Int), .bool m.mo]
def mbRows (l : List Mb) : List (List Value) := l.map mbCells
abbrev mb0 : Mb := ⟨0, 0, 0, false⟩
def getM (l : List Mb) (id : Int) : Option Mb := l.find? fun x => x.id == id
def ownM (l : List Mb) (s : Nat) : Option Mb := l.find? fun x => x.co == s || x.ca == s
def Mb.right (m : Mb) : Bool := decide (0 ≤ m.id) && decide (m.co ≠ 0) && decide (m.ca ≠ 0) && decide (m.co ≠ m.ca)
structure Mb.Fits (m : Mb) : Prop where
  lo : -9223372036854775808 ≤ m.id
  hi : m.id ≤ 9223372036854775807
  co : m.co < 4294967296
  ca : m.ca < 4294967296
def owV (l : List Mb) : List (Nat × Value) := l.flatMap fun m => [(m.co, .int .i64 m.id), (m.ca, .int .i64 m.id)]
/-- A roster. -/
structure Ro where
  most : Nat
  l : List Mb
def roCells (r : Ro) (mb : Nat) (vl : Value) : Array Value := #[.int .i64 (r.most : Int), vl, .map (some mb)]
def Ro.join (r : Ro) (m : Mb) : Ro × Nat :=
  if m.right = false then (r, 2) else if (getM r.l m.id).isSome then (r, 132) else if (ownM r.l m.co).isSome || (ownM r.l m.ca).isSome then (r, 140) else if r.most ≤ r.l.length then (r, 131) else ({ r with l := r.l ++ [m] }, 0)
def Ro.leave (r : Ro) (id : Int) : Ro × Nat := if (getM r.l id).isSome then ({ r with l := r.l.filter fun x => x.id != id }, 0) else (r, 130)
/-- What a roster keeps. -/
structure Ro.Fit (r : Ro) : Prop where
  most : r.most ≤ 32
  few : r.l.length ≤ r.most
  fits : ∀ m ∈ r.l, m.Fits
  right : ∀ m ∈ r.l, m.right = true
  ids : (r.l.map (·.id)).Nodup
  apart : ∀ x ∈ r.l, ∀ y ∈ r.l, x.id ≠ y.id → x.co ≠ y.co ∧ x.co ≠ y.ca ∧ x.ca ≠ y.co ∧ x.ca ≠ y.ca

theorem mbRows_length (l : List Mb) : (mbRows l).length = l.length := by simp [mbRows]
theorem mbRows_one (l : List Mb) : ∀ xs ∈ mbRows l, xs.length = 4 := by
  intro xs hx
  obtain ⟨n, _, rfl⟩ := List.mem_map.1 hx
  rfl
theorem mbRows_cells (l : List Mb) : ∀ u ∈ (mbRows l).flatten, u.oneCell' = true := by
  intro u hu
  obtain ⟨xs, hx, hu⟩ := List.mem_flatten.1 hu
  simp only [mbRows, List.mem_map] at hx
  obtain ⟨g, _, rfl⟩ := hx
  simp only [mbCells, List.mem_cons, List.not_mem_nil, or_false] at hu
  rcases hu with rfl | rfl | rfl | rfl <;> rfl
theorem mbRows_get {l : List Mb} {i : Nat} {x : Mb} (h : l[i]? = some x) : (mbRows l)[i]? = some (mbCells x) := by simp [mbRows, h]
theorem mbRows_snoc (l : List Mb) (m : Mb) : mbRows (l ++ [m]) = mbRows l ++ [mbCells m] := by simp [mbRows]
theorem owV_snoc (l : List Mb) (m : Mb) : owV (l ++ [m]) = (owV l ++ [(m.co, .int .i64 m.id)]) ++ [(m.ca, .int .i64 m.id)] := by simp [owV]
theorem mget_own : ∀ (l : List Mb) (s : Nat), mget (owV l) s = (ownM l s).map fun m => Value.int .i64 m.id
  | [], s => rfl
  | m :: l, s => by
    have ih := mget_own l s
    unfold mget ownM at ih ⊢
    have e : owV (m :: l) = (m.co, .int .i64 m.id) :: (m.ca, .int .i64 m.id) :: owV l := by simp [owV]
    rw [e, List.find?_cons, List.find?_cons, List.find?_cons]
    rcases h1 : (m.co == s) with _ | _
    · rcases h2 : (m.ca == s) with _ | _
      · simpa using ih
      · rfl
    · rfl
theorem ids_inj : ∀ {l : List Mb}, (l.map (·.id)).Nodup → ∀ {x y : Mb}, x ∈ l → y ∈ l → x.id = y.id → x = y
  | [], _, x, y, hx, _, _ => by simp at hx
  | z :: l, hd, x, y, hx, hy, he => by
    simp only [List.map_cons, List.nodup_cons] at hd
    rcases List.mem_cons.1 hx with ex | hx1
    · rcases List.mem_cons.1 hy with ey | hy1
      · rw [ex, ey]
      · exact absurd (List.mem_map.2 ⟨y, hy1, by rw [← he, ex]⟩) hd.1
    · rcases List.mem_cons.1 hy with ey | hy1
      · exact absurd (List.mem_map.2 ⟨x, hx1, by rw [he, ey]⟩) hd.1
      · exact ids_inj hd.2 hx1 hy1 he
theorem getM_mem {l : List Mb} {id : Int} {m : Mb} (h : getM l id = some m) : m ∈ l ∧ m.id = id := by
  unfold getM at h
  exact ⟨List.mem_of_find?_eq_some h, by simpa using List.find?_some h⟩
theorem getM_none {l : List Mb} {id : Int} (h : getM l id = none) : ∀ m ∈ l, m.id ≠ id := by
  intro m hm e
  unfold getM at h
  rw [List.find?_eq_none] at h
  exact h m hm (by simpa using e)
theorem getM_of {l : List Mb} (hd : (l.map (·.id)).Nodup) {m : Mb} (hm : m ∈ l) : getM l m.id = some m := by
  rcases h : getM l m.id with _ | x
  · exact absurd rfl (getM_none h m hm)
  · obtain ⟨h1, h2⟩ := getM_mem h
    rw [ids_inj hd h1 hm h2]
theorem ownM_mem {l : List Mb} {s : Nat} {m : Mb} (h : ownM l s = some m) : m ∈ l ∧ (m.co = s ∨ m.ca = s) := by
  unfold ownM at h
  exact ⟨List.mem_of_find?_eq_some h, by simpa using List.find?_some h⟩
theorem ownM_none {l : List Mb} {s : Nat} (h : ownM l s = none) : ∀ m ∈ l, m.co ≠ s ∧ m.ca ≠ s := by
  intro m hm
  unfold ownM at h
  rw [List.find?_eq_none] at h
  have := h m hm
  simp only [Bool.or_eq_true, beq_iff_eq, not_or] at this
  exact this
theorem Ro.Fit.leave {r : Ro} (h : r.Fit) (id : Int) : (r.leave id).1.Fit := by
  unfold Ro.leave
  split
  · exact ⟨h.most, Nat.le_trans (List.length_filter_le _ _) h.few, fun m hm => h.fits m (List.mem_filter.1 hm).1, fun m hm => h.right m (List.mem_filter.1 hm).1,
      ((List.filter_sublist).map _).nodup h.ids, fun x hx y hy => h.apart x (List.mem_filter.1 hx).1 y (List.mem_filter.1 hy).1⟩
  · exact h
theorem Ro.Fit.join {r : Ro} (h : r.Fit) {m : Mb} (hm : m.Fits) : (r.join m).1.Fit := by
  unfold Ro.join
  split
  · exact h
  · rename_i h1
    split
    · exact h
    · rename_i h2
      split
      · exact h
      · rename_i h3
        split
        · exact h
        · rename_i h4
          have e2 : getM r.l m.id = none := by simpa using h2
          have h3' : ownM r.l m.co = none ∧ ownM r.l m.ca = none := by simpa using h3
          have hr : m.right = true := by simpa using h1
          have hne := getM_none e2
          have ha : ∀ x ∈ r.l, x.co ≠ m.co ∧ x.co ≠ m.ca ∧ x.ca ≠ m.co ∧ x.ca ≠ m.ca := fun x hx =>
            ⟨(ownM_none h3'.1 x hx).1, (ownM_none h3'.2 x hx).1, (ownM_none h3'.1 x hx).2, (ownM_none h3'.2 x hx).2⟩
          refine ⟨h.most, by simp only [List.length_append, List.length_cons, List.length_nil]; omega, fun x hx => ?_, fun x hx => ?_, ?_, fun x hx y hy hxy => ?_⟩
          · rcases List.mem_append.1 hx with hx | hx
            · exact h.fits x hx
            · rw [List.mem_singleton.1 hx]; exact hm
          · rcases List.mem_append.1 hx with hx | hx
            · exact h.right x hx
            · rw [List.mem_singleton.1 hx]; exact hr
          · rw [List.map_append]
            refine List.nodup_append.2 ⟨h.ids, by simp, fun a ha c hc e1 => ?_⟩
            obtain ⟨x, hx, rfl⟩ := List.mem_map.1 ha
            simp only [List.map_cons, List.map_nil, List.mem_singleton] at hc
            exact hne x hx (e1.trans hc)
          · rcases List.mem_append.1 hx with hx | hx
            · rcases List.mem_append.1 hy with hy | hy
              · exact h.apart x hx y hy hxy
              · rw [List.mem_singleton.1 hy]; exact ha x hx
            · rw [List.mem_singleton.1 hx] at hxy ⊢
              rcases List.mem_append.1 hy with hy | hy
              · obtain ⟨q1, q2, q3, q4⟩ := ha y hy
                exact ⟨fun e => q1 e.symm, fun e => q3 e.symm, fun e => q2 e.symm, fun e => q4 e.symm⟩
              · rw [List.mem_singleton.1 hy] at hxy
                exact absurd rfl hxy
/-- Whose sources are struck. -/
theorem owV_gone {r : Ro} (h : r.Fit) {m : Mb} (hm : m ∈ r.l) : ((owV r.l).filter (fun x => x.1 != m.co)).filter (fun x => x.1 != m.ca) = owV (r.l.filter fun x => x.id != m.id) := by
  have key : ∀ l : List Mb, (∀ x ∈ l, x ∈ r.l) → ((owV l).filter (fun x => x.1 != m.co)).filter (fun x => x.1 != m.ca) = owV (l.filter fun x => x.id != m.id) := by
    intro l
    induction l with
    | nil => intro _; rfl
    | cons x l ih =>
      intro hl
      have ih := ih (fun y hy => hl y (List.mem_cons_of_mem _ hy))
      have e : owV (x :: l) = (x.co, .int .i64 x.id) :: (x.ca, .int .i64 x.id) :: owV l := by simp [owV]
      rw [e]
      by_cases hx : x.id = m.id
      · have e2 : x = m := ids_inj h.ids (hl x (by simp)) hm hx
        subst e2
        rw [List.filter_cons_of_neg (p := fun y : Mb => y.id != x.id) (by simp), ← ih]
        by_cases hc : x.ca = x.co
        · simp [hc]
        · simp [hc]
      · obtain ⟨q1, q2, q3, q4⟩ := h.apart x (hl x (by simp)) m hm hx
        rw [List.filter_cons_of_pos (p := fun y : Mb => y.id != m.id) (by simpa using hx)]
        have e2 : owV (x :: l.filter fun y => y.id != m.id) = (x.co, .int .i64 x.id) :: (x.ca, .int .i64 x.id) :: owV (l.filter fun y => y.id != m.id) := by simp [owV]
        rw [e2, ← ih]
        simp [q1, q2, q3, q4]
  exact key r.l (fun _ h => h)

/-- A roster lies there. -/
structure Ror (w : World) (B b mb : Nat) (r : Ro) (vl : Value) : Prop where
  is : Is w b 109 (roCells r mb vl)
  mp : MapAt w mb .u32 (owV r.l)
  row : OwnS w B 58 4 vl (mbRows r.l)
  lo : B ≤ b ∧ B ≤ mb
/-- The blocks of a roster. -/
def RFoot (b mb : Nat) (vl : Value) (k : Nat) : Prop := k = b ∨ k = mb ∨ vl.ownBlock = some k
/-- A call has made of a roster another one, in the same blocks, or in new ones. -/
def RTurned (w w' : World) (B b mb : Nat) (vl : Value) (r' : Ro) : Prop :=
  ∃ vl', Ror w' B b mb r' vl' ∧ Only (RFoot b mb vl) w w' ∧ ∀ k, RFoot b mb vl' k → RFoot b mb vl k ∨ w.heap.size ≤ k
section
variable {w w1 : World} {B b mb : Nat} {r : Ro} {vl : Value}
theorem Ror.lt (h : Ror w B b mb r vl) : b < w.heap.size := h.is.lt
theorem Ror.cell (h : Ror w B b mb r vl) (i : Nat) : w.cell? ⟨b, i, none⟩ = (roCells r mb vl)[i]? := h.is.cell i
theorem Ror.only (h : Ror w B b mb r vl) {S : Nat → Prop} (ho : Only S w w1) (hs : ∀ k, RFoot b mb vl k → ¬ S k) : Ror w1 B b mb r vl :=
  ⟨h.is.only ho (hs b (.inl rfl)), h.mp.only ho (hs mb (.inr (.inl rfl))), OwnS.only h.row ho (fun k hk => hs k (.inr (.inr hk))), h.lo⟩
theorem Ror.pure (h : Ror w B b mb r vl) (ho : Only (fun _ => False) w w1) : Ror w1 B b mb r vl := h.only ho (by simp)
theorem Ror.turned (h : Ror w1 B b mb r vl) (ho : Only (fun _ => False) w w1) : RTurned w w1 B b mb vl r := ⟨vl, h, ho.mono (fun _ _ e => e.elim), fun _ hk => .inl hk⟩
theorem Ror.foot (h : Ror w B b mb r vl) {k : Nat} (hk : RFoot b mb vl k) : B ≤ k ∧ k < w.heap.size := by
  rcases hk with rfl | rfl | hk
  · exact ⟨h.lo.1, h.lt⟩
  · exact ⟨h.lo.2, h.mp.lt⟩
  · exact h.row.lt k hk
/-- The map's block is no other one. -/
theorem Ror.mb_ne (h : Ror w B b mb r vl) : mb ≠ b ∧ ∀ k, vl.ownBlock = some k → k ≠ mb ∧ k ≠ b := by
  obtain ⟨es, c, hb, _⟩ := h.mp
  have hI : w.heap[b]? = some (.cells (roCells r mb vl) 109 (0, 0)) := h.is
  refine ⟨fun e => ?_, fun k hk => ⟨fun e => ?_, fun e => ?_⟩⟩
  · rw [e, hI] at hb; cases hb
  · subst e
    rcases h.row.1.2 with ⟨e, _⟩ | ⟨g, cap, cur, e, _, hg, _⟩
    · rw [e] at hk; cases hk
    · rw [e] at hk; cases hk; rw [hb] at hg; cases hg
  · subst e; exact owned_off h.row.1 h.is (by decide) hk
end
theorem wfU32 {n : Nat} (h : n < 4294967296) : (Lit.int .u32 (n : Int)).wf = true := by
  simp [Lit.wf, IntKind.min, IntKind.max, IntKind.signed, IntKind.bits]
  omega
/-- What is answered, and nothing that was there is written. -/
def SaysR (v : Value) (w : World) (e : Ending) (w' : World) : Prop := e = .returned v ∧ Only (fun _ => False) w w'

set_option maxRecDepth 20000 in
set_option maxHeartbeats 400000 in
theorem rthere_nil (w : World) : Calls Try.prog 55 #[.pointer none] w fun e w' => e = .returned (.bool false) ∧ w = w' := by
  go_enter Try.func55, Try.ntmps55
  go_wp2
  go_ret
  exact ⟨rfl, rfl⟩
theorem rmap_nil (w : World) (r : Option Nat) : (binOp .neq 107 (.map r) (.map none)).run Try.prog w = .ok (.bool (!r.isNone)) w := run_neq_map_nil w _ _ _ r Try.underlying107
set_option maxRecDepth 20000 in
set_option maxHeartbeats 400000 in
theorem rthere_is (B b mb : Nat) (r : Ro) (vl : Value) (w : World) (h : Ror w B b mb r vl) : Calls Try.prog 55 #[ptr b] w fun e w' => e = .returned (.bool true) ∧ w = w' := by
  have c0 : w.cell? ⟨b, 2, none⟩ = some (.map (some mb)) := h.cell 2
  have q0 := rmap_nil w (some mb)
  clear h
  go_enter Try.func55, Try.ntmps55
  go_wp2
  go_ret
  exact ⟨rfl, rfl⟩
theorem zero_int (w : World) : (zeroValue 3).run Try.prog w = .ok (.int .i64 0) w := by kernel_rfl
set_option maxRecDepth 20000 in
set_option maxHeartbeats 400000 in
theorem owned_is (B b mb n : Nat) (r : Ro) (vl : Value) (w : World) (h : Ror w B b mb r vl) (hn : n < 4294967296) : Calls Try.prog 60 #[ptr b, .int .u32 (n : Int)] w fun e w' => e = .returned (.bool (ownM r.l n).isSome) ∧ w = w' := by
  have c0 : w.cell? ⟨b, 2, none⟩ = some (.map (some mb)) := h.cell 2
  have hm := Lib.hid h.mp
  have h1 := Lib.hid (show (mget (owV r.l) n).isSome = (ownM r.l n).isSome from by rw [mget_own, Option.isSome_map])
  have h2 := Lib.hid (show ∃ z, (mget (owV r.l) n).getD (.int .i64 0) = .int .i64 z from by
    rw [mget_own]
    cases ownM r.l n <;> exact ⟨_, rfl⟩)
  have h3 := Lib.hid (wfU32 hn)
  obtain ⟨z, hz⟩ := h2.out
  replace h2 := Lib.hid hz
  generalize (ownM r.l n).isSome = s at *
  clear h hz
  go_enter Try.func60, Try.ntmps60
  go_wp2_with (at_lookup; refine wpList_mlookT rfl _ _ 107 rfl 30 3 Try.underlying107 Try.underlying30 (zero_int _) rfl hm.out rfl h3.out h2.out h1.out ?_)
  go_ret
  exact ⟨rfl, rfl⟩
set_option maxRecDepth 20000 in
set_option maxHeartbeats 400000 in
theorem mright_is (m : Mb) (w : World) : Calls Try.prog 58 #[mbV m] w (SaysR (.bool m.right) w) := by
  obtain ⟨id, co, ca, mo⟩ := m
  unfold Mb.right
  go_enter Try.func58, Try.ntmps58
  go_wp2
  all_goals (go_ret; exact ⟨congrArg Ending.returned (congrArg Value.bool (by rw [Bool.eq_iff_iff]; simp; omega)), (Only.refl _ w).alloc _⟩)
set_option maxRecDepth 20000 in
set_option maxHeartbeats 400000 in
theorem rlen_nil (w : World) : Calls Try.prog 31 #[.pointer none] w fun e w' => e = .returned (.int .i64 0) ∧ w = w' := by
  go_enter Try.func31, Try.ntmps31
  go_wp2_with fail
  refine (rthere_nil _).mono ?_
  rintro e w1 ⟨rfl, rfl⟩
  go_wp2
  go_ret
  exact ⟨rfl, rfl⟩
set_option maxRecDepth 20000 in
set_option maxHeartbeats 400000 in
theorem rlen_is (B b mb : Nat) (r : Ro) (vl : Value) (w : World) (h : Ror w B b mb r vl) : Calls Try.prog 31 #[ptr b] w fun e w' => e = .returned (.int .i64 (r.l.length : Int)) ∧ w = w' := by
  have HF := Lib.hid h
  obtain ⟨A, c, rfl, -⟩ := h.row.slice
  rw [mbRows_length] at HF h
  have c1 : w.cell? ⟨b, 1, none⟩ = some (.slice A r.l.length c) := h.cell 1
  clear h
  go_enter Try.func31, Try.ntmps31
  go_wp2_with fail
  refine (rthere_is B b mb r _ w HF.out).mono ?_
  rintro e w1 ⟨rfl, rfl⟩
  go_wp2
  go_ret
  exact ⟨rfl, rfl⟩
end Go.Proofs.Ytglgmhdajmncjaa
