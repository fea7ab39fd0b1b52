/- append of noughts (of a made row), and of a string, to a row of bytes that is owned. Conditions: as each says. -/
import Derived.Test.YtiacjgnngdpohaaFew
import Derived.Laws.AppendOwn
import Derived.Laws.OwnMore
import Derived.Laws.CopyRow
set_option linter.unusedVariables false
namespace Go.Proofs.Ytiacjgnngdpohaa
open Go Go.RowKit

theorem zeros_list (m : Nat) : (Builtin.zeroCells #[Value.int .u8 0] m).toList = cellsOf (List.replicate m 0) := by
  simp [Builtin.zeroCells, cellsOf]
  rw [show (fun i : Nat => [Value.int IntKind.u8 0][i % 1]?.getD default) = fun _ => Value.int .u8 0 from by funext i; simp [Nat.mod_one]]
  rw [List.map_const']
  simp
theorem zeros_size (m : Nat) : (Builtin.zeroCells #[Value.int .u8 0] m).size = m := by simp [Builtin.zeroCells]
/-- What is behind an append that grew. -/
theorem grown_row (w : World) (B : Nat) (bs news : List Nat) (old : Nat) (hB : B ≤ w.heap.size) (hl : bs.length + news.length ≤ 1000000000) (row : Option Nat) :
    (w.drew.alloc (.cells ((cellsOf bs).toArray ++ (cellsOf news).toArray ++ Builtin.zeroCells #[Value.int .u8 0] (grownCap w (bs.length + news.length) old 5 - (bs.length + news.length))) 5)).ownsRow B 5 1
        (.slice (some ⟨w.heap.size, 0, none⟩) (bs.length + news.length) (grownCap w (bs.length + news.length) old 5)) (bs.length + news.length) (cellsOf (bs ++ news)) ∧
      w.grownBy (w.drew.alloc (.cells ((cellsOf bs).toArray ++ (cellsOf news).toArray ++ Builtin.zeroCells #[Value.int .u8 0] (grownCap w (bs.length + news.length) old 5 - (bs.length + news.length))) 5)) row := by
  have hge := grownCap_ge w (bs.length + news.length) old 5
  have hcm : grownCap w (bs.length + news.length) old 5 ≤ maxLen := grownCap_le_maxLen w (bs.length + news.length) old 5 (by unfold maxLen; omega)
  refine ⟨⟨by rw [length_cellsOf, List.length_append, Nat.mul_one], .inr ⟨w.heap.size, _, _, rfl, hB, heap_alloc_new w.drew _, hge, hcm, ?_, ?_⟩⟩, ⟨rfl, rfl, rfl, by simp, fun k hk _ => Below.heap_alloc w.drew _ k hk⟩⟩
  · simp only [Array.size_append, List.size_toArray, zeros_size, length_cellsOf]
    omega
  · simp only [Array.toList_append, List.append_assoc]
    rw [← List.append_assoc, ← cellsOf_append]
    have : (bs.length + news.length) * 1 = (cellsOf (bs ++ news)).length := by rw [length_cellsOf, List.length_append, Nat.mul_one]
    rw [this]
    exact List.take_left
theorem room_row (w : World) (B : Nat) (bs news : List Nat) (g cap : Nat) (cur : Array Value) (hbg : B ≤ g) (hg : w.heap[g]? = some (.cells cur 5 (0, 0))) (hcm : cap ≤ maxLen) (hcs : cur.size = cap * 1) (htake : cur.toList.take (bs.length * 1) = cellsOf bs) (hroom : bs.length + news.length ≤ cap) :
    (w.setRow g (cur.toList.take bs.length ++ cellsOf news ++ cur.toList.drop (bs.length + (cellsOf news).length)).toArray).ownsRow B 5 1 (.slice (some ⟨g, 0, none⟩) (bs.length + news.length) cap) (bs.length + news.length) (cellsOf (bs ++ news)) ∧
      w.grownBy (w.setRow g (cur.toList.take bs.length ++ cellsOf news ++ cur.toList.drop (bs.length + (cellsOf news).length)).toArray) (some g) := by
  rw [Nat.mul_one] at htake hcs
  refine ⟨⟨by rw [length_cellsOf, List.length_append, Nat.mul_one], .inr ⟨g, cap, _, rfl, hbg, setRow_heap w g cur _ _ _ hg, hroom, hcm, ?_, ?_⟩⟩, ⟨rfl, rfl, rfl, by simp, fun k _ hk => setRow_other w g k _ (fun e => hk (by rw [e]))⟩⟩
  · simp only [List.size_toArray, List.length_append, List.length_take, List.length_drop, Array.length_toList, length_cellsOf]
    omega
  · rw [htake, ← cellsOf_append]
    have : (bs.length + news.length) * 1 = (cellsOf (bs ++ news)).length := by rw [length_cellsOf, List.length_append, Nat.mul_one]
    rw [this]
    exact List.take_left

theorem arr3 (a b : List Value) (z : Array Value) : a.toArray ++ (b.toArray ++ z) = (a ++ b).toArray ++ z := by
  apply Array.ext'
  simp
/-- Noughts, as many as a number tells. -/
theorem run_append_noughts (w : World) (B : Nat) (tx ty : TypeId) (kd : IntKind) (htx : Try.prog.underlying tx = some (.int kd)) (v : Value) (bs : List Nat) (hown : w.ownsRow B 5 1 v bs.length (cellsOf bs)) (m : Nat) (hl : bs.length + m ≤ 1000000000) (hB : B ≤ w.heap.size) :
    ∃ v' w', (Builtin.append_ #[35, tx] ty #[v, .int kd m]).run Try.prog w = .ok v' w' ∧ w'.ownsRow B 5 1 v' (bs.length + m) (cellsOf (bs ++ List.replicate m 0)) ∧ w.grownBy w' v.ownBlock := by
  obtain ⟨i, hi, hz, hsize, hby⟩ := info_parts Try.infoU8
  have ht := Try.underlying35
  have wm : IntKind.i64.wrap (m : Int) = (m : Int) := IntWalk.i64_in _ (by omega)
  have n1 : ¬ (m : Int) < 0 := by omega
  have n2 : ¬ ((281474976710656 : Int) < (m : Int)) := by omega
  have hm' : (List.replicate m 0).length = m := by simp
  have hz' := zeros_list m
  have hvc : (Value.int IntKind.u8 0).cells = #[Value.int .u8 0] := rfl
  have n3 : ¬ ((9223372036854775807 : Int) < (m : Int)) := by omega
  have hzc : Builtin.zeroCells #[Value.int .u8 0] m = (cellsOf (List.replicate m 0)).toArray := by rw [← hz']
  rcases hown.2 with ⟨rfl, h0⟩ | ⟨g, cap, cur, rfl, hbg, hg, hnc, hcm, hcs, htake⟩
  · have hb : bs = [] := List.eq_nil_of_length_eq_zero h0
    subst hb
    by_cases hm : m = 0
    · subst hm
      refine ⟨.slice none 0 0, w, ?_, by simpa [cellsOf] using World.ownsRow_nil w B 5 1, World.grownBy.refl _ _⟩
      simp [Builtin.append_, run_underlying ht, run_underlying htx, sizeOf, typeInfo, hi, hby, asInt, asIntOf, show IntKind.i64.wrap 0 = 0 from rfl]
    · have hgr := grown_row w B [] (List.replicate m 0) 0 hB (by simp; omega) (Value.ownBlock (.slice none 0 0))
      rw [hm'] at hgr
      simp only [List.length_nil, Nat.zero_add] at hgr
      refine ⟨_, _, ?_, by simpa using hgr.1, hgr.2⟩
      have h48' : ¬ (281474976710656 < Builtin.nextslicecap m 0) := by rw [nextslicecap_zero (by omega)]; omega
      simp [Builtin.append_, run_underlying ht, run_underlying htx, sizeOf, typeInfo, zeroValue, hi, hz, hsize, hby, asInt, asIntOf, wm, n1, n2, hm, h48', Question.forced, run_firstCells_none, newRow, grownCap, hvc, hzc, n3]
      rfl
  · by_cases hroom : bs.length + m ≤ cap
    · have hr := room_row w B bs (List.replicate m 0) g cap cur hbg hg hcm hcs htake (by rw [hm']; exact hroom)
      rw [hm'] at hr
      refine ⟨_, _, ?_, hr.1, hr.2⟩
      have hst := run_storeCells_at Try.prog g bs.length 5 (cellsOf (List.replicate m 0)) 0 cur w hg (by rw [length_cellsOf, hm', hcs]; omega) (cellsOf_one _)
      simp only [Nat.add_zero] at hst
      simp [Builtin.append_, run_underlying ht, run_underlying htx, sizeOf, typeInfo, zeroValue, hi, hz, hsize, hby, asInt, asIntOf, wm, n1, n2, hroom, hvc, hzc, Addr.add_lit]
      by_cases hm : m = 0
      · subst hm
        simp only [List.replicate_zero, cellsOf, List.map_nil] at hst ⊢
        rw [if_pos trivial, hst]
        simp
      · rw [if_neg hm, hst]
        simp
    · have holds : ∀ j u, (cellsOf bs)[j]? = some u → w.cell? ((⟨g, 0, none⟩ : Addr).add j) = some u := hown.cells (g := g) rfl
      have hfo := run_firstCells_some (P := Try.prog) w.drew 1 bs.length ⟨g, 0, none⟩ bs.length cap (cellsOf bs) (by rw [length_cellsOf, Nat.mul_one]) (by simpa using holds)
      have h48' : ¬ (281474976710656 < Builtin.nextslicecap (bs.length + m) cap) := by
        have := growslice_fits (need := bs.length + m) (old := cap) (bytes := 1) (by omega) (by omega)
        omega
      have h63' : ¬ (9223372036854775807 < ((bs.length : Int) + (m : Int))) := by omega
      have hgr := grown_row w B bs (List.replicate m 0) cap hB (by rw [hm']; exact hl) (Value.ownBlock (.slice (some ⟨g, 0, none⟩) bs.length cap))
      rw [hm'] at hgr
      refine ⟨_, _, ?_, hgr.1, hgr.2⟩
      have hm0 : ¬ m = 0 := fun h => hroom (by omega)
      simp [Builtin.append_, run_underlying ht, run_underlying htx, sizeOf, typeInfo, zeroValue, hi, hz, hsize, hby, asInt, asIntOf, wm, n1, n2, hroom, h48', h63', hm0, Question.forced, hfo, newRow, grownCap, hvc, hzc]
      rw [arr3]

/-- The bytes of a string. -/
def strB (x : ByteArray) : List Nat := x.data.toList.map UInt8.toNat
theorem strB_len (x : ByteArray) : (strB x).length = x.size := by simp [strB]
theorem strB_cells (x : ByteArray) : x.data.map (fun b : UInt8 => Value.int .u8 (b.toNat : Int)) = (cellsOf (strB x)).toArray := by
  apply Array.ext'
  simp [strB, cellsOf]
theorem strB_cut (x : ByteArray) : (Array.map (fun b : UInt8 => Value.int IntKind.u8 (b.toNat : Int)) x.data).extract 0 x.size = Array.map (fun b : UInt8 => Value.int IntKind.u8 (b.toNat : Int)) x.data := by
  have hs : x.size = (Array.map (fun b : UInt8 => Value.int IntKind.u8 (b.toNat : Int)) x.data).size := by rw [Array.size_map]; rfl
  rw [hs, Array.extract_size]
theorem run_append_text (w : World) (B : Nat) (tx ty : TypeId) (htx : Try.prog.underlying tx = some .string) (v : Value) (bs : List Nat) (hown : w.ownsRow B 5 1 v bs.length (cellsOf bs)) (x : ByteArray) (hl : bs.length + x.size ≤ 1000000000) (hB : B ≤ w.heap.size) :
    ∃ v' w', (Builtin.append_ #[35, tx] ty #[v, .string x]).run Try.prog w = .ok v' w' ∧ w'.ownsRow B 5 1 v' (bs.length + x.size) (cellsOf (bs ++ strB x)) ∧ w.grownBy w' v.ownBlock := by
  obtain ⟨i, hi, hz, hsize, hby⟩ := info_parts Try.infoU8
  have ht := Try.underlying35
  have hvc : (Value.int IntKind.u8 0).cells = #[Value.int .u8 0] := rfl
  have hm' := strB_len x
  have hzc := strB_cells x
  rcases hown.2 with ⟨rfl, h0⟩ | ⟨g, cap, cur, rfl, hbg, hg, hnc, hcm, hcs, htake⟩
  · have hb : bs = [] := List.eq_nil_of_length_eq_zero h0
    subst hb
    by_cases hm : x.size = 0
    · have hsb : strB x = [] := List.eq_nil_of_length_eq_zero (by rw [hm', hm])
      refine ⟨.slice none 0 0, w, ?_, by rw [hsb, hm]; simpa [cellsOf] using World.ownsRow_nil w B 5 1, World.grownBy.refl _ _⟩
      simp [Builtin.append_, run_underlying ht, run_underlying htx, sizeOf, typeInfo, hi, hby, Builtin.lenOf, Builtin.firstCells, hm]
    · have hgr := grown_row w B [] (strB x) 0 hB (by rw [hm']; exact hl) (Value.ownBlock (.slice none 0 0))
      rw [hm'] at hgr
      simp only [List.length_nil, Nat.zero_add] at hgr
      refine ⟨_, _, ?_, by simpa using hgr.1, hgr.2⟩
      have hnil : cellsOf [] = [] := rfl
      rw [run_append_nil_string (P := Try.prog) w 35 tx ty 5 i (.int .u8 0) ht htx hi hz x (by omega) (by simp only [List.length_nil] at hl; omega) (by rw [hby]; simp only [List.length_nil] at hl; omega), hzc, hvc, hnil]
      simp
  · by_cases hroom : bs.length + x.size ≤ cap
    · have hr := room_row w B bs (strB x) g cap cur hbg hg hcm hcs htake (by rw [hm']; exact hroom)
      rw [hm'] at hr
      refine ⟨_, _, ?_, hr.1, hr.2⟩
      have hst := run_storeCells_at Try.prog g bs.length 5 (cellsOf (strB x)) 0 cur w hg (by rw [length_cellsOf, hm', hcs]; omega) (cellsOf_one _)
      simp only [Nat.add_zero] at hst
      have htk : List.take x.size (cellsOf (strB x)) = cellsOf (strB x) := List.take_of_length_le (by rw [length_cellsOf, hm']; exact Nat.le_refl _)
      simp [Builtin.append_, run_underlying ht, run_underlying htx, sizeOf, typeInfo, zeroValue, hi, hz, hsize, hby, Builtin.lenOf, Builtin.firstCells, hroom, hzc, Addr.add_lit, htk, hst]
    · have holds : ∀ j u, (cellsOf bs)[j]? = some u → w.cell? ((⟨g, 0, none⟩ : Addr).add j) = some u := hown.cells (g := g) rfl
      have hfo := run_firstCells_some (P := Try.prog) w.drew 1 bs.length ⟨g, 0, none⟩ bs.length cap (cellsOf bs) (by rw [length_cellsOf, Nat.mul_one]) (by simpa using holds)
      have h48' : ¬ (281474976710656 < Builtin.nextslicecap (bs.length + x.size) cap) := by
        have := growslice_fits (need := bs.length + x.size) (old := cap) (bytes := 1) (by omega) (by omega)
        omega
      have h63' : ¬ (9223372036854775807 < ((bs.length : Int) + (x.size : Int))) := by omega
      have hgr := grown_row w B bs (strB x) cap hB (by rw [hm']; exact hl) (Value.ownBlock (.slice (some ⟨g, 0, none⟩) bs.length cap))
      rw [hm'] at hgr
      refine ⟨_, _, ?_, hgr.1, hgr.2⟩
      have htk : List.take x.size (cellsOf (strB x)) = cellsOf (strB x) := List.take_of_length_le (by rw [length_cellsOf, hm']; exact Nat.le_refl _)
      simp only [Builtin.firstCells, Nat.mul_one] at hfo
      simp [Builtin.append_, run_underlying ht, run_underlying htx, sizeOf, typeInfo, zeroValue, hi, hz, hsize, hby, Builtin.lenOf, hroom, h48', h63', Question.forced, hfo, Builtin.firstCells, newRow, grownCap, hvc, hzc, htk]
      rw [arr3]

theorem src_is {w : World} {g n c : Nat} {t : TypeId} {ys : List Nat} (h : Is w g t (cellsOf ys).toArray) (hn : ys.length = n) (hc : n ≤ c) : Src w (.slice (some ⟨g, 0, none⟩) n c) ys := by
  subst hn
  refine .inr ⟨_, c, rfl, hc, fun j u hu => ?_⟩
  rw [add_plain, Nat.zero_add, h.cell j]
  simpa using hu
/-- A row of bytes in the making, in new memory of w0. -/
structure Acc (w0 : World) (v : Value) (out : List Nat) (w : World) : Prop where
  own : w.ownsRow w0.heap.size 5 1 v out.length (cellsOf out)
  pure : Only (fun _ => False) w0 w
theorem Acc.slice {w0 w : World} {v : Value} {out : List Nat} (h : Acc w0 v out w) : ∃ A c, v = .slice A out.length c := by
  obtain ⟨A, c, h, _⟩ := own_slice h.own
  exact ⟨A, c, h⟩
theorem Acc.go {w0 w w1 : World} {v : Value} {out : List Nat} (h : Acc w0 v out w) (ho : Only (fun _ => False) w w1) : Acc w0 v out w1 := ⟨own_only h.own ho (by simp), only_more h.pure ho⟩
theorem Acc.grown {w0 w w1 : World} {v v1 : Value} {out out1 : List Nat} (h : Acc w0 v out w) (hown : w1.ownsRow w0.heap.size 5 1 v1 out1.length (cellsOf out1)) (hg : w.grownBy w1 v.ownBlock) : Acc w0 v1 out1 w1 :=
  ⟨hown, h.pure.trans ((Only.refl (fun k => v.ownBlock = some k) w).grown hg (fun i hi _ => hi)) (fun i hi e => by have := (h.own.lt i e).1; omega)⟩
section
variable {ops : Array Oper} {rest : List Oper} {o : Oper} {a : Act} {K : Act → World → Prop} {Q : Exit → Act → World → Prop} {w0 w : World} {v : Value} {out : List Nat}
theorem grown_step {w w' : World} {v : Value} (h : w.grownBy w' v.ownBlock) : Only (fun k => v.ownBlock = some k) w w' := (Only.refl _ w).grown h (fun i hi _ => hi)
theorem acc_src (s x : Operand) (ho : o.op = .call { callee := .builtin .append, args := #[s, x], argTypes := #[35, 35] })
    (hacc : Acc w0 v out w) (hs : a.eval s = v) (vx : Value) (news : List Nat) (hx : a.eval x = vx) (hsrc : Src w vx news) (hl : out.length + news.length ≤ 1000000000)
    (h : ∀ v' w', Acc w0 v' (out ++ news) w' → Only (fun k => v.ownBlock = some k) w w' → K (a.put o.dst v') w') : Oper.wp Try.prog o a w K Q :=
  wp_append_src w s x ho w0.heap.size v out hs hacc.own vx news hx hsrc (by omega) hacc.pure.size (fun v' w' h1 h2 => h v' w' (hacc.grown (by rw [List.length_append, cellsOf_append]; exact h1) h2) (grown_step h2))
theorem acc_noughts (s x : Operand) (tx : TypeId) (kd : IntKind) (htx : Try.prog.underlying tx = some (.int kd)) (ho : o.op = .call { callee := .builtin .append, args := #[s, x], argTypes := #[35, tx] })
    (hacc : Acc w0 v out w) (hs : a.eval s = v) (m : Nat) (hx : a.eval x = .int kd m) (hl : out.length + m ≤ 1000000000)
    (h : ∀ v' w', Acc w0 v' (out ++ List.replicate m 0) w' → Only (fun k => v.ownBlock = some k) w w' → K (a.put o.dst v') w') : Oper.wp Try.prog o a w K Q := by
  obtain ⟨v', w', hr, h1, h2⟩ := run_append_noughts w w0.heap.size tx o.type kd htx v out hacc.own m hl hacc.pure.size
  unfold Oper.wp execOp
  simp only [ho, resolve, invoke, builtin, Sem.run_bind, Sem.run_pure, Result.andThen_ok, List.map_toArray, List.map_cons, List.map_nil, hs, hx, hr]
  exact h v' w' (hacc.grown (by rw [List.length_append, List.length_replicate]; exact h1) h2) (grown_step h2)
theorem acc_text (s x : Operand) (tx : TypeId) (htx : Try.prog.underlying tx = some .string) (ho : o.op = .call { callee := .builtin .append, args := #[s, x], argTypes := #[35, tx] })
    (hacc : Acc w0 v out w) (hs : a.eval s = v) (t : ByteArray) (hx : a.eval x = .string t) (hl : out.length + t.size ≤ 1000000000)
    (h : ∀ v' w', Acc w0 v' (out ++ strB t) w' → Only (fun k => v.ownBlock = some k) w w' → K (a.put o.dst v') w') : Oper.wp Try.prog o a w K Q := by
  obtain ⟨v', w', hr, h1, h2⟩ := run_append_text w w0.heap.size tx o.type htx v out hacc.own t hl hacc.pure.size
  unfold Oper.wp execOp
  simp only [ho, resolve, invoke, builtin, Sem.run_bind, Sem.run_pure, Result.andThen_ok, List.map_toArray, List.map_cons, List.map_nil, hs, hx, hr]
  exact h v' w' (hacc.grown (by rw [List.length_append, strB_len]; exact h1) h2) (grown_step h2)
theorem acc_lit (s x : Operand) (ho : o.op = .call { callee := .builtin .append, args := #[s, x], argTypes := #[35, 35] })
    (hacc : Acc w0 v out w) (hs : a.eval s = v) (ys : List Nat) (hx : a.eval x = .slice (some ⟨w.heap.size, 0, none⟩) ys.length ys.length) (hl : out.length + ys.length ≤ 1000000000)
    (h : ∀ v' w', Acc w0 v' (out ++ ys) w' → Only (fun k => v.ownBlock = some k) w w' → K (a.put o.dst v') w') : Oper.wp Try.prog o a (w.alloc (.cells (cellsOf ys).toArray 5)) K Q :=
  acc_src s x ho (hacc.go ((Only.refl _ w).alloc _)) hs _ ys hx (src_lit w ys) hl (fun v' w' h1 h2 => h v' w' h1 (((Only.refl _ w).alloc _).trans h2 (fun _ _ e => e)))
theorem wpList_acc_src (hgd : o.guard = none) (s x : Operand) (ho : o.op = .call { callee := .builtin .append, args := #[s, x], argTypes := #[35, 35] })
    (hacc : Acc w0 v out w) (hs : a.eval s = v) (vx : Value) (news : List Nat) (hx : a.eval x = vx) (hsrc : Src w vx news) (hl : out.length + news.length ≤ 1000000000)
    (h : ∀ v' w', Acc w0 v' (out ++ news) w' → Only (fun k => v.ownBlock = some k) w w' → wpList Try.prog ops Q rest (a.put o.dst v') w') : wpList Try.prog ops Q (o :: rest) a w :=
  wpList_plain hgd fun _ hK => acc_src s x ho hacc hs vx news hx hsrc hl fun v' w' h1 h2 => hK _ _ (h v' w' h1 h2)
theorem wpList_acc_noughts (hgd : o.guard = none) (s x : Operand) (tx : TypeId) (kd : IntKind) (htx : Try.prog.underlying tx = some (.int kd)) (ho : o.op = .call { callee := .builtin .append, args := #[s, x], argTypes := #[35, tx] })
    (hacc : Acc w0 v out w) (hs : a.eval s = v) (m : Nat) (hx : a.eval x = .int kd m) (hl : out.length + m ≤ 1000000000)
    (h : ∀ v' w', Acc w0 v' (out ++ List.replicate m 0) w' → Only (fun k => v.ownBlock = some k) w w' → wpList Try.prog ops Q rest (a.put o.dst v') w') : wpList Try.prog ops Q (o :: rest) a w :=
  wpList_plain hgd fun _ hK => acc_noughts s x tx kd htx ho hacc hs m hx hl fun v' w' h1 h2 => hK _ _ (h v' w' h1 h2)
theorem wpList_acc_text (hgd : o.guard = none) (s x : Operand) (tx : TypeId) (htx : Try.prog.underlying tx = some .string) (ho : o.op = .call { callee := .builtin .append, args := #[s, x], argTypes := #[35, tx] })
    (hacc : Acc w0 v out w) (hs : a.eval s = v) (t : ByteArray) (hx : a.eval x = .string t) (hl : out.length + t.size ≤ 1000000000)
    (h : ∀ v' w', Acc w0 v' (out ++ strB t) w' → Only (fun k => v.ownBlock = some k) w w' → wpList Try.prog ops Q rest (a.put o.dst v') w') : wpList Try.prog ops Q (o :: rest) a w :=
  wpList_plain hgd fun _ hK => acc_text s x tx htx ho hacc hs t hx hl fun v' w' h1 h2 => hK _ _ (h v' w' h1 h2)
theorem wpList_acc_lit (hgd : o.guard = none) (s x : Operand) (ho : o.op = .call { callee := .builtin .append, args := #[s, x], argTypes := #[35, 35] })
    (hacc : Acc w0 v out w) (hs : a.eval s = v) (ys : List Nat) (hx : a.eval x = .slice (some ⟨w.heap.size, 0, none⟩) ys.length ys.length) (hl : out.length + ys.length ≤ 1000000000)
    (h : ∀ v' w', Acc w0 v' (out ++ ys) w' → Only (fun k => v.ownBlock = some k) w w' → wpList Try.prog ops Q rest (a.put o.dst v') w') : wpList Try.prog ops Q (o :: rest) a (w.alloc (.cells (cellsOf ys).toArray 5)) :=
  wpList_plain hgd fun _ hK => acc_lit s x ho hacc hs ys hx hl fun v' w' h1 h2 => hK _ _ (h v' w' h1 h2)
end
end Go.Proofs.Ytiacjgnngdpohaa
