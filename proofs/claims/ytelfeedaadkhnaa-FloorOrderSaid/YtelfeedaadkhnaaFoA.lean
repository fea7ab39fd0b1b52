/- floor: a row of numbers that gives up its first ones (asked); the statements' has and same. Conditions: as each says. -/
import Derived.Test.YtelfeedaadkhnaaFmC
import Derived.ArgAppend
set_option linter.unusedVariables false
set_option linter.unusedSimpArgs false
namespace Go.Proofs.Ytelfeedaadkhnaa
open Go Go.RowKit

/-- A row of numbers, which may begin amid its block. -/
def Tl (w : World) (B : Nat) (v : Value) (l : List Nat) : Prop := ∃ ao cap, v = .slice ao l.length cap ∧ l.length ≤ cap ∧ cap ≤ maxLen ∧ (∀ k, v.ownBlock = some k → B ≤ k ∧ k < w.heap.size) ∧
  (0 < cap → ∃ b off cur, ao = some ⟨b, off, none⟩ ∧ Is w b 30 cur ∧ cur.size = off + cap ∧ ∀ j (x : Nat), l[j]? = some x → cur[off + j]? = some (.int .u32 (x : Int)))
theorem Tl.nil (w : World) (B : Nat) : Tl w B (.slice none 0 0) [] := ⟨none, 0, rfl, by simp, by decide, fun k hk => by simp [Value.ownBlock] at hk, fun h => by omega⟩
theorem Tl.only {w w1 : World} {B : Nat} {v : Value} {l : List Nat} (h : Tl w B v l) {S : Nat → Prop} (ho : Only S w w1) (hs : ∀ k, v.ownBlock = some k → ¬ S k) : Tl w1 B v l := by
  obtain ⟨ao, cap, rfl, h1, h2, h3, h4⟩ := h
  refine ⟨ao, cap, rfl, h1, h2, fun k hk => ⟨(h3 k hk).1, Nat.lt_of_lt_of_le (h3 k hk).2 ho.size⟩, fun hc => ?_⟩
  obtain ⟨b, off, cur, rfl, h5, h6, h7⟩ := h4 hc
  exact ⟨b, off, cur, rfl, h5.only ho (hs b rfl), h6, h7⟩
theorem Tl.of_own {w : World} {B : Nat} {v : Value} {l : List Nat} (h : OwnS w B 30 1 v (rows32 l)) : Tl w B v l := by
  have hlt := h.lt
  rcases h.1.2 with ⟨rfl, h0⟩ | ⟨g, cap, cur, rfl, _⟩
  · rw [rows32_length] at h0
    obtain rfl := List.eq_nil_of_length_eq_zero h0
    exact Tl.nil w B
  · obtain ⟨cur', hI, hcs, h1, h2, h3⟩ := own_is h
    rw [rows32_length] at h1 h3 hlt h ⊢
    refine ⟨_, cap, rfl, h1, h2, hlt, fun _ => ⟨g, 0, cur', rfl, hI, by omega, fun j x hx => ?_⟩⟩
    rw [← hI.cell, Nat.zero_add]
    exact own32_cell h hx
theorem Tl.rd {w : World} {B : Nat} {v : Value} {l : List Nat} (h : Tl w B v l) : Rd .u32 w v (nats l) := by
  obtain ⟨ao, cap, rfl, h1, h2, h3, h4⟩ := h
  refine ⟨ao, cap, by rw [nats_length], by rw [nats_length]; exact h1, fun hp => ?_⟩
  rw [nats_length] at hp
  obtain ⟨b, off, cur, rfl, h5, h6, h7⟩ := h4 (by omega)
  refine ⟨b, off, rfl, fun j hj => ?_⟩
  have hj' : j < l.length := by rw [← nats_length]; exact hj
  rw [h5.cell, h7 j _ (List.getElem?_eq_getElem hj')]
  simp [nats]
theorem Tl.lt {w : World} {B : Nat} {v : Value} {l : List Nat} (h : Tl w B v l) : ∀ k, v.ownBlock = some k → B ≤ k ∧ k < w.heap.size := by
  obtain ⟨ao, cap, rfl, h1, h2, h3, h4⟩ := h
  exact h3
/-- An append of one number. -/
theorem run_tl_append (w : World) (B : Nat) (v : Value) (l : List Nat) (h : Tl w B v l) (ty : TypeId) (g n : Nat) (hc : w.cell? ⟨g, 0, none⟩ = some (.int .u32 (n : Int))) (hl : l.length ≤ 1000) (hB : B ≤ w.heap.size) :
    ∃ v' w', (Builtin.append_ #[33, 33] ty #[v, .slice (some ⟨g, 0, none⟩) 1 1]).run Try.prog w = .ok v' w' ∧ Tl w' B v' (l ++ [n]) ∧ Only (fun k => v.ownBlock = some k) w w' ∧ ∀ k, v'.ownBlock = some k → v.ownBlock = some k ∨ w.heap.size ≤ k := by
  obtain ⟨i0, hi, hz0, hz1, hz2⟩ := info_parts Try.infoU32
  obtain ⟨ao, cap, rfl, h1, h2, h3, h4⟩ := h
  have hnews : ∀ j u, [Value.int .u32 (n : Int)][j]? = some u → w.cell? ((⟨g, 0, none⟩ : Addr).add j) = some u := by
    intro j u hu
    rw [add_plain, Nat.zero_add]
    match j, hu with
    | 0, hu => rw [hc]; simpa using hu
  have h1c : ∀ u ∈ [Value.int .u32 (n : Int)], u.oneCell' = true := by simp [Value.oneCell']
  have hgrown : ∀ (a : Addr) (olds : List Value), ao = some a → cap < l.length + 1 → olds = cells32 l → (∀ j u, olds[j]? = some u → w.cell? (a.add j) = some u) → ∃ v' w', (Builtin.append_ #[33, 33] ty #[.slice (some a) l.length cap, .slice (some ⟨g, 0, none⟩) 1 1]).run Try.prog w = .ok v' w' ∧ Tl w' B v' (l ++ [n]) ∧ Only (fun k => (Value.slice ao l.length cap).ownBlock = some k) w w' ∧ ∀ k, v'.ownBlock = some k → (Value.slice ao l.length cap).ownBlock = some k ∨ w.heap.size ≤ k := by
    intro a olds ha hcap hol hcl
    obtain ⟨v', w', hr, h5, h6⟩ := run_append_arg_grows (P := Try.prog) w 33 ty 30 i0 (.int .u32 0) 1 4 Try.underlying33 hi hz0 hz1 hz2 rfl (by decide) a l.length cap olds (by rw [hol, length_cells32, Nat.mul_one]) hcl ⟨g, 0, none⟩ 1 1 [.int .u32 (n : Int)] rfl hnews hcap (by unfold maxLen; omega) (by omega)
    have hS : OwnS w' w.heap.size 30 1 v' (rows32 (l ++ [n])) := by
      refine own_rows32 ?_
      rw [hol] at h5
      simpa [cells32] using h5
    refine ⟨v', w', hr, ?_, (Only.refl _ w).grown h6 (fun i hi => by cases hi), fun k hk => .inr (hS.lt k hk).1⟩
    obtain ⟨ao', cap', e, k1, k2, k3, k4⟩ := Tl.of_own hS
    exact ⟨ao', cap', e, k1, k2, fun k hk => ⟨Nat.le_trans hB (k3 k hk).1, (k3 k hk).2⟩, k4⟩
  rcases Nat.eq_zero_or_pos cap with h0 | hp
  · subst h0
    obtain rfl : l = [] := List.eq_nil_of_length_eq_zero (by omega)
    cases ao with
    | some a => exact hgrown a [] rfl (by simp) rfl (by simp)
    | none =>
      obtain ⟨v', w', hr, h5, h6, _⟩ := run_append_own (P := Try.prog) w w.heap.size 33 ty 30 i0 (.int .u32 0) 1 4 Try.underlying33 hi hz0 hz1 hz2 rfl (by decide) (.slice none 0 0) 0 [] (World.ownsRow_nil w _ _ 1) ⟨g, 0, none⟩ 1 1 [.int .u32 (n : Int)] rfl hnews h1c (by decide) (by decide) (Nat.le_refl _)
      have hS : OwnS w' w.heap.size 30 1 v' (rows32 ([] ++ [n])) := own_rows32 (by simpa [cells32] using h5)
      refine ⟨v', w', hr, ?_, (Only.refl _ w).grown h6 (fun i hi => by simp [Value.ownBlock] at hi), fun k hk => .inr (hS.lt k hk).1⟩
      obtain ⟨ao', cap', e, k1, k2, k3, k4⟩ := Tl.of_own hS
      exact ⟨ao', cap', e, k1, k2, fun k hk => ⟨Nat.le_trans hB (k3 k hk).1, (k3 k hk).2⟩, k4⟩
  · obtain ⟨b, off, cur, rfl, h5, h6, h7⟩ := h4 hp
    by_cases hroom : l.length + 1 ≤ cap
    · have hr := run_append_room_cells (P := Try.prog) w 33 ty 30 i0 Try.underlying33 hi b off l.length cap ⟨g, 0, none⟩ 1 1 [.int .u32 (n : Int)] (by rw [hz1]; rfl) hnews h1c hroom
        (fun j hj => by
          rw [h5.cell, hz1]
          rw [List.length_singleton] at hj
          rw [Array.getElem?_eq_getElem (by omega)]; rfl) (fun j hj => h5.free _)
      rw [hz1, Nat.mul_one] at hr
      refine ⟨_, _, hr, ⟨_, cap, by rw [List.length_append, List.length_singleton], by simpa using hroom, h2, fun k hk => ?_, fun _ => ⟨b, off, setA cur (off + l.length) [.int .u32 (n : Int)], rfl, Is.many _ _ _ _ _ h5, by rw [setA_size]; exact h6, fun j x hx => ?_⟩⟩, Only.many _ _ _ (Only.refl _ w) (fun _ => rfl), fun k hk => .inl hk⟩
      · have := h3 k hk
        have hs := (Only.many (b := b) (S := fun k => k = b) [Value.int .u32 (n : Int)] (off + l.length) w (Only.refl _ w) (fun _ => rfl)).size
        exact ⟨this.1, by omega⟩
      · rw [setA_get _ _ _ _ (by rw [List.length_singleton]; omega), List.length_singleton]
        rcases Nat.lt_trichotomy j l.length with hj | hj | hj
        · rw [List.getElem?_append_left hj] at hx
          rw [if_neg (by omega)]
          exact h7 j x hx
        · subst hj
          rw [List.getElem?_append_right (Nat.le_refl _), Nat.sub_self] at hx
          simp at hx
          subst hx
          rw [if_pos (by omega), Nat.sub_self]
          rfl
        · rw [List.getElem?_eq_none (by simp; omega)] at hx
          cases hx
    · refine hgrown ⟨b, off, none⟩ (cells32 l) rfl (by omega) rfl (fun j u hu => ?_)
      rw [add_plain, h5.cell]
      have hj : j < l.length := by rw [← length_cells32]; exact (List.getElem?_eq_some_iff.1 hu).1
      rw [h7 j _ (List.getElem?_eq_getElem hj), ← hu]
      simp [cells32, hj]
theorem wpList_tl_append {ops : Array Oper} {rest : List Oper} {o : Oper} {a : Act} {Q : Exit → Act → World → Prop} (w : World) (hgd : o.guard = none) (s x : Operand)
    (ho : o.op = .call { callee := .builtin .append, args := #[s, x], argTypes := #[33, 33] })
    (B : Nat) (v : Value) (l : List Nat) (hs : a.eval s = v) (h : Tl w B v l) (g n : Nat) (hx : a.eval x = .slice (some ⟨g, 0, none⟩) 1 1) (hc : w.cell? ⟨g, 0, none⟩ = some (.int .u32 (n : Int))) (hl : l.length ≤ 1000) (hB : B ≤ w.heap.size)
    (hn : ∀ v' w', Tl w' B v' (l ++ [n]) → Only (fun k => v.ownBlock = some k) w w' → (∀ k, v'.ownBlock = some k → v.ownBlock = some k ∨ w.heap.size ≤ k) → wpList Try.prog ops Q rest (a.put o.dst v') w') :
    wpList Try.prog ops Q (o :: rest) a w :=
  wpList_plain hgd fun _ hK => by
    obtain ⟨v', w', hr, h1, h2, h3⟩ := run_tl_append w B v l h o.type g n hc hl hB
    unfold Oper.wp execOp
    simp only [ho, resolve, invoke, builtin, Sem.run_bind, Sem.run_pure, Result.andThen_ok, List.map_toArray, List.map_cons, List.map_nil, hs, hx, hr]
    exact hK _ _ (hn v' w' h1 h2 h3)
set_option maxRecDepth 20000 in
set_option maxHeartbeats 1000000 in
theorem has_is (n : Nat) (v : Value) (l : List Nat) (w : World) (hv : Rd .u32 w v (nats l)) (hl : l.length ≤ 1000000) :
    Calls Try.prog 18 #[v, .int .u32 (n : Int)] w fun e w' => e = .returned (.bool (decide (n ∈ l))) ∧ w = w' := by
  obtain ⟨A, c, rfl, hlc, hh⟩ := hv
  rw [nats_length] at hlc
  rw [nats_length]
  obtain ⟨N, hN⟩ : ∃ N, l.length = N := ⟨_, rfl⟩
  have HN := Lib.hid hN
  have HH := Lib.hid hh
  rw [hN] at hl hlc ⊢
  clear hN hh
  go_enter Try.func18, Try.ntmps18
  go_wp2
  go_loopw [5] (fun s5 wr => ∃ k : Nat, k ≤ N ∧ s5 = .int .i64 k ∧ wr = w ∧ n ∉ l.take k) (fun s5 _ => N - (intOf s5).toNat)
  case atStart => exact ⟨0, by omega, rfl, rfl, by simp⟩
  case round =>
    obtain ⟨k, hk, rfl, rfl, hno⟩ := hrel
    have HNO := Lib.hid hno
    clear hno
    by_cases hkl : k < N
    · have hkI : (k : Int) < (N : Int) := by omega
      obtain ⟨g1, o1, rfl, hc1⟩ := HH.out (by rw [nats_length, HN.out]; omega)
      have hkn : k < (nats l).length := by rw [nats_length, HN.out]; exact hkl
      have hkx : k < l.length := by rw [HN.out]; exact hkl
      have r1 := hc1 k hkn
      rw [show (nats l)[k] = ((l[k] : Nat) : Int) from by simp [nats]] at r1
      have HT := Lib.hid (show l[k] ≠ n → n ∉ l.take (k + 1) from fun hne => by
        rw [take_snoc l k hkx, List.mem_append, List.mem_singleton, not_or]
        exact ⟨HNO.out, fun e => hne e.symm⟩)
      have HG := Lib.hid (show l[k] = n → n ∈ l from fun e => e ▸ List.getElem_mem hkx)
      generalize l[k] = x at *
      clear hc1 hkn hkx
      by_cases hx : x = n
      · have HX := Lib.hid (HG.out hx)
        have hxb : ((x : Int) == (n : Int)) = true := by rw [beq_nat, decide_eq_true hx]
        clear hx
        go_wp2
        go_ret
        exact ⟨by rw [decide_eq_true HX.out]; rfl, rfl⟩
      · have HX := Lib.hid (HT.out hx)
        have hxb : ((x : Int) == (n : Int)) = false := by rw [beq_nat, decide_eq_false hx]
        clear hx
        go_wp2
        exact ⟨⟨k + 1, by omega, by go_num, by trivial, HX.out⟩, by simp [intOf]; omega⟩
    · obtain rfl : k = N := by omega
      go_wp2
      go_ret
      have := HNO.out
      rw [← HN.out, List.take_length] at this
      exact ⟨by rw [decide_eq_false this]; rfl, rfl⟩
/-- Two rows, up to a place. -/
theorem same_take {l r : List Nat} {k : Nat} (h1 : k < l.length) (h2 : k < r.length) (h : l.take k = r.take k) (e : l[k] = r[k]) : l.take (k + 1) = r.take (k + 1) := by
  rw [take_snoc l k h1, take_snoc r k h2, h, e]
set_option maxRecDepth 20000 in
set_option maxHeartbeats 1000000 in
theorem fsame_is (va vb : Value) (l r : List Nat) (w : World) (ha : Rd .u32 w va (nats l)) (hb : Rd .u32 w vb (nats r)) (hl : l.length ≤ 1000000) :
    Calls Try.prog 19 #[va, vb] w (SaysF (.bool (decide (l = r))) w) := by
  obtain ⟨A1, c1, rfl, hlc1, hh1⟩ := ha
  obtain ⟨A2, c2, rfl, hlc2, hh2⟩ := hb
  rw [nats_length] at hlc1 hlc2
  rw [nats_length, nats_length]
  obtain ⟨N, hN⟩ : ∃ N, l.length = N := ⟨_, rfl⟩
  obtain ⟨M, hM⟩ : ∃ M, r.length = M := ⟨_, rfl⟩
  have HN := Lib.hid hN
  have HM := Lib.hid hM
  have H1 := Lib.hid hh1
  have H2 := Lib.hid hh2
  rw [hN] at hl hlc1 ⊢
  rw [hM] at hlc2 ⊢
  clear hN hM hh1 hh2
  by_cases hNM : N = M
  · subst hNM
    have en : ((N : Int) != (N : Int)) = false := by simp
    go_enter Try.func19, Try.ntmps19
    go_wp2
    go_loopw [5] (fun s5 wr => ∃ k : Nat, k ≤ N ∧ s5 = .int .i64 k ∧ Only (fun _ => False) w wr ∧ l.take k = r.take k) (fun s5 _ => N - (intOf s5).toNat)
    case atStart => exact ⟨0, by omega, rfl, Only.refl _ _, by simp⟩
    case round =>
      obtain ⟨k, hk, rfl, ho, hno⟩ := hrel
      have HO := Lib.hid ho
      have HNO := Lib.hid hno
      clear hno ho
      by_cases hkl : k < N
      · have hkI : (k : Int) < (N : Int) := by omega
        obtain ⟨g1, o1, rfl, hc1⟩ := H1.out (by rw [nats_length, HN.out]; omega)
        obtain ⟨g2, o2, rfl, hc2⟩ := H2.out (by rw [nats_length, HM.out]; omega)
        have hkn1 : k < (nats l).length := by rw [nats_length, HN.out]; exact hkl
        have hkn2 : k < (nats r).length := by rw [nats_length, HM.out]; exact hkl
        have hkx1 : k < l.length := by rw [HN.out]; exact hkl
        have hkx2 : k < r.length := by rw [HM.out]; exact hkl
        have r1 := hc1 k hkn1
        have r2 := hc2 k hkn2
        rw [show (nats l)[k] = ((l[k] : Nat) : Int) from by simp [nats]] at r1
        rw [show (nats r)[k] = ((r[k] : Nat) : Int) from by simp [nats]] at r2
        have q1 := (HO.out.cell (World.block_lt_of_cell? w _ r1) (by simp)).trans r1
        have q2 := (HO.out.cell (World.block_lt_of_cell? w _ r2) (by simp)).trans r2
        have HT := Lib.hid (fun e => same_take hkx1 hkx2 HNO.out e)
        have HF := Lib.hid (show l[k] ≠ r[k] → l ≠ r from fun hne e => hne (by subst e; rfl))
        generalize l[k] = x at *
        generalize r[k] = y at *
        clear hc1 hc2 hkn1 hkn2 hkx1 hkx2 r1 r2
        go_upto_region 6 with (fail)
        by_cases hx : x = y
        · have HX := Lib.hid (HT.out hx)
          have hxb : ((x : Int) != (y : Int)) = false := by simp [hx]
          clear hx
          go_quiet (fail)
          all_goals go_wp2
          all_goals exact ⟨⟨k + 1, by omega, by go_num, HO.out.drewN _, HX.out⟩, by simp [intOf]; omega⟩
        · have HX := Lib.hid (HF.out hx)
          have hxb : ((x : Int) != (y : Int)) = true := by simp; omega
          clear hx
          go_quiet (fail)
          all_goals go_wp2
          all_goals go_ret
          all_goals exact ⟨by rw [decide_eq_false HX.out]; rfl, HO.out.drewN _⟩
      · obtain rfl : k = N := by omega
        go_wp2
        go_ret
        have := HNO.out
        rw [← HN.out, List.take_length, HN.out, ← HM.out, List.take_length] at this
        exact ⟨by rw [decide_eq_true this]; rfl, HO.out⟩
  · have en : ((N : Int) != (M : Int)) = true := by simp; omega
    have hne : l ≠ r := fun e => hNM (by rw [← HN.out, ← HM.out, e])
    have HX := Lib.hid hne
    clear hNM hne
    go_enter Try.func19, Try.ntmps19
    go_wp2
    go_ret
    exact ⟨by rw [decide_eq_false HX.out]; rfl, Only.refl _ _⟩
end Go.Proofs.Ytelfeedaadkhnaa
