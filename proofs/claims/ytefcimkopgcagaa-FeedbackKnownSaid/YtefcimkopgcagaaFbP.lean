/- FeedbackNumbers' walk. Conditions: as it says. -/
import Derived.Test.YtefcimkopgcagaaFbO
import Derived.Test.YtefcimkopgcagaaFbC
import Derived.Test.YtefcimkopgcagaaFbJ
set_option linter.unusedVariables false
namespace Go.Proofs.Ytefcimkopgcagaa
open Go.RowKit

def cells16 (l : List Nat) : List Value := l.map fun (n : Nat) => .int .u16 (n : Int)
theorem length_cells16 (l : List Nat) : (cells16 l).length = l.length := by simp [cells16]
theorem own16_rd {w : World} {B : Nat} {v : Value} {ns : List Nat} (h : w.ownsRow B 75 1 v ns.length (cells16 ns)) : Rd .u16 w v (nats ns) := by
  rcases h.2 with ⟨rfl, h0⟩ | ⟨g, cap, cur, rfl, hb, hg, hc, _⟩
  · obtain rfl := List.eq_nil_of_length_eq_zero h0
    exact Rd.nil _ _
  · refine ⟨some ⟨g, 0, none⟩, cap, by rw [nats_length], by rw [nats_length]; exact hc, fun hp => ⟨g, 0, rfl, fun j hj => ?_⟩⟩
    rw [nats_length] at hj
    have h1 := h.cells (g := g) rfl j (.int .u16 (ns[j] : Nat)) (by simp [cells16, hj])
    rw [add_plain] at h1
    rw [h1]
    simp [nats]
set_option maxRecDepth 100000 in
/-- Numbers are appended to nothing. -/
theorem app16 {o : Oper} {a : Act} {K : Act → World → Prop} {Q : Exit → Act → World → Prop} (w : World) (s x : Operand) (ho : o.op = .call { callee := .builtin .append, args := #[s, x], argTypes := #[62, 62] })
    (B : Nat) (vx : Value) (ns : List Nat) (hs : a.eval s = .slice none 0 0) (hx : a.eval x = vx) (hn0 : vx = .slice none 0 0 ∨ ∃ ad n c, vx = .slice (some ad) n c) (hr : Rd .u16 w vx (nats ns)) (hl : ns.length ≤ 1000000) (hB : B ≤ w.heap.size)
    (h : ∀ A c w', w'.ownsRow B 75 1 (.slice A ns.length c) ns.length (cells16 ns) → Only (fun _ => False) w w' → K (a.put o.dst (.slice A ns.length c)) w') : Oper.wp Try.prog o a w K Q := by
  obtain ⟨i0, hi, hz0, hz1, hz2⟩ := info_parts Try.infoU16
  obtain ⟨A, c, rfl, hc, hh⟩ := hr
  rw [nats_length] at hc hx
  have fin : ∀ v' w', w'.ownsRow B 75 1 v' ns.length (cells16 ns) → Only (fun _ => False) w w' → K (a.put o.dst v') w' := fun v' w' h1 h2 => by
    obtain ⟨A', c', rfl, _⟩ := own_slice h1
    exact h A' c' w' h1 h2
  rcases A with _ | ad
  · have h0 : ns.length = 0 := by
      rcases Nat.eq_zero_or_pos ns.length with e | e
      · exact e
      · obtain ⟨b, o, e1, _⟩ := hh (by rw [nats_length]; exact e)
        cases e1
    obtain rfl := List.eq_nil_of_length_eq_zero h0
    have hrun := run_append_owned_none (P := Try.prog) w B 62 o.type 75 i0 1 Try.underlying62 hi (.slice none 0 0) 0 [] (World.ownsRow_nil w B 75 1)
    obtain rfl : c = 0 := by rcases hn0 with e | ⟨_, _, _, e⟩ <;> cases e; rfl
    unfold Oper.wp
    simp [execOp, ho, resolve, invoke, builtin, hs, hx, hrun, Result.andThen]
    exact fin _ w (World.ownsRow_nil w B 75 1) (Only.refl _ w)
  · have hn : ∀ j u, (cells16 ns)[j]? = some u → w.cell? (ad.add j) = some u := by
      intro j u hu
      have hj : j < ns.length := by rw [← length_cells16]; exact (List.getElem?_eq_some_iff.1 hu).1
      obtain ⟨b, o, e1, hcell⟩ := hh (by rw [nats_length]; omega)
      injection e1 with e1
      subst e1
      have h1 := hcell j (by rw [nats_length]; exact hj)
      rw [add_plain, h1, ← hu]
      simp [cells16, nats, hj]
    exact wp_append_own w s x 62 ho B 75 i0 (.int .u16 0) 1 2 Try.underlying62 hi hz0 hz1 hz2 rfl (by decide) (.slice none 0 0) 0 [] hs (World.ownsRow_nil w B 75 1) ad ns.length c (cells16 ns) hx (by rw [length_cells16, Nat.mul_one]) hn (by simp [cells16, Value.oneCell']) (by unfold maxLen; omega) (by omega) hB
      (fun v' w' h1 h2 _ => fin v' w' (by simpa using h1) ((Only.refl _ w).grown h2 (fun i hi _ => by simp [Value.ownBlock] at hi)))
theorem wpList_app16 {ops : Array Oper} {rest : List Oper} {o : Oper} {a : Act} {Q : Exit → Act → World → Prop} (w : World) (hgd : o.guard = none) (s x : Operand) (ho : o.op = .call { callee := .builtin .append, args := #[s, x], argTypes := #[62, 62] })
    (B : Nat) (vx : Value) (ns : List Nat) (hs : a.eval s = .slice none 0 0) (hx : a.eval x = vx) (hn0 : vx = .slice none 0 0 ∨ ∃ ad n c, vx = .slice (some ad) n c) (hr : Rd .u16 w vx (nats ns)) (hl : ns.length ≤ 1000000) (hB : B ≤ w.heap.size)
    (h : ∀ A c w', w'.ownsRow B 75 1 (.slice A ns.length c) ns.length (cells16 ns) → Only (fun _ => False) w w' → wpList Try.prog ops Q rest (a.put o.dst (.slice A ns.length c)) w') : wpList Try.prog ops Q (o :: rest) a w :=
  wpList_plain hgd fun _ hK => app16 w s x ho B vx ns hs hx hn0 hr hl hB fun A c w' h1 h2 => hK _ _ (h A c w' h1 h2)
/-- Amid the comparisons. -/
structure Fn8 (ps : List Pr) (ns : List Nat) (vl vr vn vo : Value) (w wx : World) : Prop where
  l : RdP wx vl ps
  r : RdP wx vr ps
  n : Rd .u16 wx vn (nats ns)
  o : Rd .u16 wx vo (nats ns)
  pure : Only (fun _ => False) w wx
theorem Fn8.go {ps : List Pr} {ns : List Nat} {vl vr vn vo : Value} {w wx wy : World} (h : Fn8 ps ns vl vr vn vo w wx) (ho : Only (fun _ => False) wx wy) : Fn8 ps ns vl vr vn vo w wy :=
  ⟨h.l.only ho, h.r.only ho, h.n.only ho (by simp), h.o.only ho (by simp), only_more h.pure ho⟩
theorem pairsOf_len (ns : List Nat) (hf : ∀ x ∈ ns, x < 65536) : (pairsOf ns).length ≤ ns.length := by
  have := (pairsOf_all ns hf ns.length).1
  rwa [List.take_length] at this

set_option maxRecDepth 100000 in
set_option maxHeartbeats 4000000 in
theorem fnumbers_any (ps : List Pr) (vl : Value) (ns : List Nat) (vn : Value) (r : Nat) (w : World) (hp : RdP w vl ps) (hpf : ∀ p ∈ ps, p.Fit) (hn : Rd .u16 w vn (nats ns)) (hnf : ∀ x ∈ ns, x < 65536)
    (hn0 : vn = .slice none 0 0 ∨ ∃ ad n c, vn = .slice (some ad) n c) (hr : r < 18446744073709551616) (hll : ps.length ≤ 9223372036854775807 ∧ ns.length ≤ 9223372036854775807) :
    Calls Try.prog 5 #[vl, vn, .int .u64 r] w fun e w' => e = .returned (.bool true) ∧ Only (fun _ => False) w w' := by
  have HWK := Lib.hid (fun w => fworks_any w)
  have HP := Lib.hid hp
  have HN := Lib.hid hn
  obtain ⟨A1, c1, rfl, -, -⟩ := hp
  obtain ⟨A2, c2, rfl, -, -⟩ := hn
  rw [nats_length] at HN hn0 ⊢
  by_cases hbig : 100 < ps.length ∨ 100 < ns.length
  · obtain ⟨L, hL⟩ : ∃ L, ps.length = L := ⟨_, rfl⟩
    obtain ⟨M, hM⟩ : ∃ L, ns.length = L := ⟨_, rfl⟩
    rw [hL, hM] at hbig hll
    rw [hL, hM]
    clear hL hM HP HN hn0 hpf hnf
    rcases Nat.lt_or_ge 100 L with h | h
    · have z1 : (100 : Int) < (L : Int) := by omega
      clear hbig h
      go_enter Try.func5, Try.ntmps5
      go_wp2_with (go_at_call 9; refine (HWK.out _).mono ?_; rintro e w1 ⟨rfl, ho1⟩; have O1 := Lib.hid ho1; clear ho1)
      go_ret
      exact ⟨rfl, O1.out⟩
    · have z1 : ¬ (100 : Int) < (L : Int) := by omega
      have z2 : (100 : Int) < (M : Int) := by omega
      clear hbig h
      go_enter Try.func5, Try.ntmps5
      go_wp2_with (go_at_call 9; refine (HWK.out _).mono ?_; rintro e w1 ⟨rfl, ho1⟩; have O1 := Lib.hid ho1; clear ho1)
      go_ret
      exact ⟨rfl, O1.out⟩
  have HPF := Lib.hid hpf
  have HNF := Lib.hid hnf
  have HN0 := Lib.hid hn0
  have HLN := Lib.hid (show ps.length ≤ 100 ∧ ns.length ≤ 100 from by omega)
  have z1 : ¬ (100 : Int) < (ps.length : Int) := by omega
  have z2 : ¬ (100 : Int) < (ns.length : Int) := by omega
  have HOR := Lib.hid (fun w => ofrate_is r w hr)
  have HRO := Lib.hid (fun w => rofrate_is r w hr)
  have HPL := Lib.hid (pairsOf_len ns hnf)
  generalize r / 2 ^ rexp r = q at *
  generalize rexp r = ex at *
  clear hbig hll hpf hnf hn0 hr
  go_enter Try.func5, Try.ntmps5
  go_upto_region 6 with (first
    | (go_at_call 27; refine (pairs_is _ ps w HP.out (by have := HLN.out; omega)).mono ?_; rintro e w1 ⟨v1, rfl, hown1, ho1⟩; have R1 := Lib.hid (OwnP.rd hown1); have O1 := Lib.hid ho1; clear hown1 ho1)
    | (refine wpList_app16 w1 rfl (.tmp 24) (.tmp 25) rfl w1.heap.size (.slice A2 ns.length c2) ns rfl rfl HN0.out (HN.out.only O1.out (by simp)) (by have := HLN.out; omega) (Nat.le_refl _) ?_; intro A4 c4 w4 h4 ho4; have R4 := Lib.hid (own16_rd h4); have O4 := Lib.hid ho4; clear h4 ho4))
  go_upto_region 8 with (first
    | (go_at_call 28; refine (HOR.out _).mono ?_; rintro e w5 ⟨rfl, ho5⟩; have O5 := Lib.hid ho5; clear ho5)
    | (go_at_call 29; refine (HRO.out _).mono ?_; rintro e w6 ⟨rfl, ho6⟩; have O6 := Lib.hid ho6; clear ho6))
  have B6 := Lib.hid (only_more O4.out (only_more O5.out O6.out))
  have T6 := Lib.hid (only_more O1.out B6.out)
  have K6 := Lib.hid (show Fn8 ps ns (.slice A1 ps.length c1) v1 (.slice A2 ns.length c2) (.slice A4 ns.length c4) w6 w6 from ⟨HP.out.only T6.out, R1.out.only B6.out, HN.out.only T6.out (by simp), R4.out.only (only_more O5.out O6.out) (by simp), Only.refl _ _⟩)
  clear R1 R4 O1 O4 O5 O6 B6
  refine wp_region_text [[], [0], [], [2, 1, 0], [1, 3, 0, 2], [4, 1, 3, 0, 2], [5, 4, 1, 3, 0, 2], [6, 5, 4, 1, 3, 0, 2], [5, 4, 1, 3, 0, 2], [8, 7, 5, 4, 1, 3, 0, 2, 6], [7, 9, 5, 6, 4, 1, 3, 0, 2, 8], [5, 10, 4, 1, 3, 0, 2, 7, 9, 6, 8], [11, 10, 5, 4, 1, 3, 0, 2, 7, 9, 6, 8], [12, 11, 10, 5, 4, 1, 3, 0, 2, 7, 9, 6, 8], [12, 11, 10, 5, 4, 1, 3, 0, 2, 7, 9, 6, 8], [13, 14, 12, 11, 10, 5, 4, 1, 3, 0, 2, 7, 9, 6, 8], [12, 15, 11, 10, 5, 4, 1, 3, 0, 2, 7, 9, 6, 8, 13, 14], [16, 15, 12, 11, 10, 5, 4, 1, 3, 0, 2, 7, 9, 6, 8, 13, 14], [17, 16, 15, 12, 11, 10, 5, 4, 1, 3, 0, 2, 7, 9, 6, 8, 13, 14], [17, 16, 15, 12, 11, 10, 5, 4, 1, 3, 0, 2, 7, 9, 6, 8, 13, 14], [18, 19, 17, 16, 15, 12, 11, 10, 5, 4, 1, 3, 0, 2, 7, 9, 6, 8, 13, 14], [17, 20, 16, 15, 12, 11, 10, 5, 4, 1, 3, 0, 2, 7, 9, 6, 8, 13, 14, 18, 19], [21, 20, 17, 16, 15, 12, 11, 10, 5, 4, 1, 3, 0, 2, 7, 9, 6, 8, 13, 14, 18, 19], [22, 21, 20, 17, 16, 15, 12, 11, 10, 5, 4, 1, 3, 0, 2, 7, 9, 6, 8, 13, 14, 18, 19], [22, 21, 20, 17, 16, 15, 12, 11, 10, 5, 4, 1, 3, 0, 2, 7, 9, 6, 8, 13, 14, 18, 19], [23, 24, 22, 21, 20, 17, 16, 15, 12, 11, 10, 5, 4, 1, 3, 0, 2, 7, 9, 6, 8, 13, 14, 18, 19], [22, 25, 21, 20, 17, 16, 15, 12, 11, 10, 5, 4, 1, 3, 0, 2, 7, 9, 6, 8, 13, 14, 18, 19, 23, 24], [26, 22, 25, 21, 20, 17, 16, 15, 12, 11, 10, 5, 4, 1, 3, 0, 2, 7, 9, 6, 8, 13, 14, 18, 19, 23, 24], [27, 26, 22, 25, 21, 20, 17, 16, 15, 12, 11, 10, 5, 4, 1, 3, 0, 2, 7, 9, 6, 8, 13, 14, 18, 19, 23, 24], [27, 26, 22, 25, 21, 20, 17, 16, 15, 12, 11, 10, 5, 4, 1, 3, 0, 2, 7, 9, 6, 8, 13, 14, 18, 19, 23, 24], [28, 29, 27, 26, 22, 25, 21, 20, 17, 16, 15, 12, 11, 10, 5, 4, 1, 3, 0, 2, 7, 9, 6, 8, 13, 14, 18, 19, 23, 24], [27, 30, 26, 22, 25, 21, 20, 17, 16, 15, 12, 11, 10, 5, 4, 1, 3, 0, 2, 7, 9, 6, 8, 13, 14, 18, 19, 23, 24, 28, 29], [31, 27, 30, 26, 22, 25, 21, 20, 17, 16, 15, 12, 11, 10, 5, 4, 1, 3, 0, 2, 7, 9, 6, 8, 13, 14, 18, 19, 23, 24, 28, 29], [32, 31, 27, 30, 26, 22, 25, 21, 20, 17, 16, 15, 12, 11, 10, 5, 4, 1, 3, 0, 2, 7, 9, 6, 8, 13, 14, 18, 19, 23, 24, 28, 29], [32, 33, 31, 27, 30, 26, 22, 25, 21, 20, 17, 16, 15, 12, 11, 10, 5, 4, 1, 3, 0, 2, 7, 9, 6, 8, 13, 14, 18, 19, 23, 24, 28, 29], [34, 33, 0, 1, 2, 3, 4, 5, 6, 7, 8, 9, 10, 11, 12, 13, 14, 15, 16, 17, 18, 19, 20, 21, 22, 23, 24, 25, 26, 27, 28, 29, 30, 31, 32]] [1, 3, 4, 7, 9, 10, 15, 20, 33] [1, 3, 7, 9] [[], [], [], [], [], [], [], [], [], [], [], [], [], [], [], [], [], [], [], [], [], [], [], [], [], [], [], [], [], [], [], [], [], [], [], []] [[], [], [], [], [1, 3], [], [], [], [], [], [7, 9], [], [], [], [], [], [], [], [], [], [], [], [], [], [], [], [], [], [], [], [], [], [], [], [], []] [] [] [] []
      [some ?v0, none, some ?v2, none, some (.bool true), some ?v5, some ?v6, none, some ?v8, none, some (.bool true), some ?v11, some ?v12, some ?v13, some ?v14, some (.bool true), some ?v16, some ?v17, some ?v18, some ?v19, some (.bool true), some ?v21, some ?v22, some ?v23, some ?v24, some ?v25, some ?v26, some ?v27, some ?v28, some ?v29, some ?v30, some ?v31, some ?v32, some (.bool true), some ?v34, some ?v35]
      ?T (fun wx => Fn8 ps ns (.slice A1 ps.length c1) v1 (.slice A2 ns.length c2) (.slice A4 ns.length c4) w6 wx) ?W ?E (by kernel_rfl) (by kernel_rfl) (by kernel_rfl) (fun x => ?hT) ?hF ?hini (Reg.all_ops ?runs) ?pres ?fin
  case W => exact fun j x w' => match j with | 1 => Rd .u16 w' (x 1) (nats (numsOf ps)) | 3 => Rd .u16 w' (x 3) (nats (numsOf ps)) | 7 => RdP w' (x 7) (pairsOf ns) | 9 => RdP w' (x 9) (pairsOf ns) | _ => True
  case E => exact fun _ w' w'' => Only (fun _ => False) w' w''
  case hT =>
    simp only [Reg.fillV, Act.put, List.setIfInBounds_toArray, List.set_cons_zero, List.set_cons_succ]
    rfl
  case runs =>
    refine And.intro ?_ ?_
    · refine Reg.ob_pure (fun _ => rfl) rfl rfl rfl rfl (fun x w1 hF => ?_)
      go_simp
      with_reducible rfl
    refine And.intro ?_ ?_
    · refine Reg.ob_some (fun _ => rfl) rfl (fun x w1 hF hU K hK => ?_)
      replace hF := hF rfl
      go_simp
      refine (numbers_is _ ps w1 hF.l (by have := HLN.out; omega) HPF.out).mono ?_
      rintro e w9 ⟨u, rfl, hown, ho⟩
      exact hK _ w9 (fun _ _ _ => hF.go ho) ho hown.rd
    refine And.intro ?_ ?_
    · refine Reg.ob_pure (fun _ => rfl) rfl rfl rfl rfl (fun x w1 hF => ?_)
      go_simp
      with_reducible rfl
    refine And.intro ?_ ?_
    · refine Reg.ob_some (fun _ => rfl) rfl (fun x w1 hF hU K hK => ?_)
      replace hF := hF rfl
      go_simp
      refine (rnumbers_is _ ps w1 hF.r (by have := HLN.out; omega) HPF.out).mono ?_
      rintro e w9 ⟨u, rfl, hown, ho⟩
      exact hK _ w9 (fun _ _ _ => hF.go ho) ho hown.rd
    refine And.intro ?_ ?_
    · refine Reg.ob_known (fun _ => rfl) rfl rfl (fun x w1 hF hU K hK => ?_)
      replace hF := hF rfl
      obtain ⟨h1, h3, -⟩ := hU
      have h1 : Rd .u16 w1 (x 1) (nats (numsOf ps)) := h1
      have h3 : Rd .u16 w1 (x 3) (nats (numsOf ps)) := h3
      go_simp
      refine (samenums_yes _ _ (numsOf ps) w1 h1 h3 (by have := numsOf_len ps; have := HLN.out; omega)).mono ?_
      rintro e w9 ⟨rfl, ho⟩
      exact hK w9 (fun _ _ _ => hF.go ho) ho
    refine And.intro ?_ ?_
    · refine Reg.ob_pure (fun _ => rfl) rfl rfl rfl rfl (fun x w1 hF => ?_)
      go_simp
      with_reducible rfl
    refine And.intro ?_ ?_
    · refine Reg.ob_pure (fun _ => rfl) rfl rfl rfl rfl (fun x w1 hF => ?_)
      go_simp
      with_reducible rfl
    refine And.intro ?_ ?_
    · refine Reg.ob_some (fun _ => rfl) rfl (fun x w1 hF hU K hK => ?_)
      replace hF := hF rfl
      go_simp
      refine (fpairs_is _ ns w1 hF.n (by have := HLN.out; omega) HNF.out).mono ?_
      rintro e w9 ⟨u, rfl, hown, ho⟩
      exact hK _ w9 (fun _ _ _ => hF.go ho) ho hown.rd
    refine And.intro ?_ ?_
    · refine Reg.ob_pure (fun _ => rfl) rfl rfl rfl rfl (fun x w1 hF => ?_)
      go_simp
      with_reducible rfl
    refine And.intro ?_ ?_
    · refine Reg.ob_some (fun _ => rfl) rfl (fun x w1 hF hU K hK => ?_)
      replace hF := hF rfl
      go_simp
      refine (rpairs_is _ ns w1 hF.o (by have := HLN.out; omega) HNF.out).mono ?_
      rintro e w9 ⟨u, rfl, hown, ho⟩
      exact hK _ w9 (fun _ _ _ => hF.go ho) ho hown.rd
    refine And.intro ?_ ?_
    · refine Reg.ob_known (fun _ => rfl) rfl rfl (fun x w1 hF hU K hK => ?_)
      replace hF := hF rfl
      obtain ⟨h1, h3, -⟩ := hU
      have h1 : RdP w1 (x 7) (pairsOf ns) := h1
      have h3 : RdP w1 (x 9) (pairsOf ns) := h3
      go_simp
      refine (samepairs_yes _ _ (pairsOf ns) w1 h1 h3 (by have := HPL.out; have := HLN.out; omega)).mono ?_
      rintro e w9 ⟨rfl, ho⟩
      exact hK w9 (fun _ _ _ => hF.go ho) ho
    refine And.intro ?_ ?_
    · refine Reg.ob_pure (fun _ => rfl) rfl rfl rfl rfl (fun x w1 hF => ?_)
      go_simp
      with_reducible rfl
    refine And.intro ?_ ?_
    · refine Reg.ob_pure (fun _ => rfl) rfl rfl rfl rfl (fun x w1 hF => ?_)
      go_simp
      with_reducible rfl
    refine And.intro ?_ ?_
    · refine Reg.ob_pure (fun _ => rfl) rfl rfl rfl rfl (fun x w1 hF => ?_)
      go_simp
      with_reducible rfl
    refine And.intro ?_ ?_
    · refine Reg.ob_pure (fun _ => rfl) rfl rfl rfl rfl (fun x w1 hF => ?_)
      go_simp
      with_reducible rfl
    refine And.intro ?_ ?_
    · refine Reg.ob_known (fun _ => rfl) rfl rfl (fun x w1 hF hU K hK => ?_)
      replace hF := hF rfl
      go_simp
      refine (samenums_yes _ _ ns w1 hF.n hF.o (by have := HLN.out; omega)).mono ?_
      rintro e w9 ⟨rfl, ho⟩
      exact hK w9 (fun _ _ _ => hF.go ho) ho
    refine And.intro ?_ ?_
    · refine Reg.ob_pure (fun _ => rfl) rfl rfl rfl rfl (fun x w1 hF => ?_)
      go_simp
      with_reducible rfl
    refine And.intro ?_ ?_
    · refine Reg.ob_pure (fun _ => rfl) rfl rfl rfl rfl (fun x w1 hF => ?_)
      go_simp
      with_reducible rfl
    refine And.intro ?_ ?_
    · refine Reg.ob_pure (fun _ => rfl) rfl rfl rfl rfl (fun x w1 hF => ?_)
      go_simp
      with_reducible rfl
    refine And.intro ?_ ?_
    · refine Reg.ob_pure (fun _ => rfl) rfl rfl rfl rfl (fun x w1 hF => ?_)
      go_simp
      with_reducible rfl
    refine And.intro ?_ ?_
    · refine Reg.ob_known (fun _ => rfl) rfl rfl (fun x w1 hF hU K hK => ?_)
      replace hF := hF rfl
      go_simp
      refine (samepairs_yes _ _ ps w1 hF.l hF.r (by have := HLN.out; omega)).mono ?_
      rintro e w9 ⟨rfl, ho⟩
      exact hK w9 (fun _ _ _ => hF.go ho) ho
    refine And.intro ?_ ?_
    · refine Reg.ob_pure (fun _ => rfl) rfl rfl rfl rfl (fun x w1 hF => ?_)
      go_simp
      with_reducible rfl
    refine And.intro ?_ ?_
    · refine Reg.ob_pure (fun _ => rfl) rfl rfl rfl rfl (fun x w1 hF => ?_)
      go_simp
      with_reducible rfl
    refine And.intro ?_ ?_
    · refine Reg.ob_pure (fun _ => rfl) rfl rfl rfl rfl (fun x w1 hF => ?_)
      go_simp
      with_reducible rfl
    refine And.intro ?_ ?_
    · refine Reg.ob_pure (fun _ => rfl) rfl rfl rfl rfl (fun x w1 hF => ?_)
      go_simp
      with_reducible rfl
    refine And.intro ?_ ?_
    · refine Reg.ob_pure (fun _ => rfl) rfl rfl rfl rfl (fun x w1 hF => ?_)
      go_simp
      with_reducible rfl
    refine And.intro ?_ ?_
    · refine Reg.ob_pure (fun _ => rfl) rfl rfl rfl rfl (fun x w1 hF => ?_)
      go_simp
      with_reducible rfl
    refine And.intro ?_ ?_
    · refine Reg.ob_pure (fun _ => rfl) rfl rfl rfl rfl (fun x w1 hF => ?_)
      go_simp
      with_reducible rfl
    refine And.intro ?_ ?_
    · refine Reg.ob_pure (fun _ => rfl) rfl rfl rfl rfl (fun x w1 hF => ?_)
      go_simp
      with_reducible rfl
    refine And.intro ?_ ?_
    · refine Reg.ob_pure (fun _ => rfl) rfl rfl rfl rfl (fun x w1 hF => ?_)
      go_simp
      with_reducible rfl
    refine And.intro ?_ ?_
    · refine Reg.ob_pure (fun _ => rfl) rfl rfl rfl rfl (fun x w1 hF => ?_)
      go_simp
      with_reducible rfl
    refine And.intro ?_ ?_
    · refine Reg.ob_pure (fun _ => rfl) rfl rfl rfl rfl (fun x w1 hF => ?_)
      go_simp
      with_reducible rfl
    refine And.intro ?_ ?_
    · refine Reg.ob_pure (fun _ => rfl) rfl rfl rfl rfl (fun x w1 hF => ?_)
      go_simp
      with_reducible rfl
    refine And.intro ?_ ?_
    · refine Reg.ob_known (fun _ => rfl) rfl rfl (fun x w1 hF hU K hK => ?_)
      replace hF := hF rfl
      go_simp
      refine (HWK.out _).mono ?_
      rintro e w9 ⟨rfl, ho⟩
      exact hK w9 (fun _ _ _ => hF.go ho) ho
    refine And.intro ?_ ?_
    · refine Reg.ob_pure (fun _ => rfl) rfl rfl rfl rfl (fun x w1 hF => ?_)
      go_simp
      with_reducible rfl
    refine And.intro ?_ ?_
    · refine Reg.ob_pure (fun _ => rfl) rfl rfl rfl rfl (fun x w1 hF => ?_)
      go_simp
      with_reducible rfl
    exact trivial
  case hF =>
    exact K6.out
  case hini =>
    exact trivial
  case pres =>
    intro i hi j hj hc x w1 w2 hF hE hW
    simp only [List.mem_cons, List.mem_nil_iff, or_false] at hj
    rcases hj with rfl | rfl | rfl | rfl
    · exact Rd.only (S := fun _ => False) hW hE (by simp)
    · exact Rd.only (S := fun _ => False) hW hE (by simp)
    · exact RdP.only hW hE
    · exact RdP.only hW hE
  case fin =>
    rintro x w9 hF -
    have O9 := Lib.hid (hF rfl).pure
    clear hF
    go_wp2
    go_ret
    exact ⟨rfl, only_more T6.out O9.out⟩
end Go.Proofs.Ytefcimkopgcagaa
