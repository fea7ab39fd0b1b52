/- A writer's Fill up to 32 digits, of whole bytes. Conditions: as it says. -/
import Derived.Test.YtcgfmjdlningpaaWBytes
import Derived.Test.YtcgfmjdlningpaaBase
set_option linter.unusedVariables false
namespace Go.Proofs.Ytcgfmjdlningpaa
open Go.RowKit

theorem D_noughts (z : Nat) : D (List.replicate z 0) = List.replicate (8 * z) 0 := by
  induction z with
  | zero => rfl
  | succ z ih =>
    rw [List.replicate_succ, D_cons, ih, show 8 * (z + 1) = 8 + 8 * z from by omega, ← List.replicate_append_replicate]
    rfl
/-- Noughts are appended. -/
theorem wp_noughts {o : Oper} {a : Act} {K : Act → World → Prop} {Q : Exit → Act → World → Prop} (w : World) (s x : Operand) (tx : TypeId) (kd : IntKind) (htx : Try.prog.underlying tx = some (.int kd)) (ho : o.op = .call { callee := .builtin .append, args := #[s, x], argTypes := #[22, tx] })
    (B : Nat) (v : Value) (bs : List Nat) (hown : w.ownsRow B 5 1 v bs.length (cellsOf bs)) (hs : a.eval s = v) (m : Nat) (hx : a.eval x = .int kd m) (hl : bs.length + m ≤ 1000000000) (hB : B ≤ w.heap.size)
    (h : ∀ v' w', w'.ownsRow B 5 1 v' (bs.length + m) (cellsOf (bs ++ List.replicate m 0)) → w.grownBy w' v.ownBlock → K (a.put o.dst v') w') : Oper.wp Try.prog o a w K Q := by
  obtain ⟨v', w', hr, h1, h2⟩ := run_append_noughts w B tx o.type kd htx v bs hown m hl hB
  unfold Oper.wp execOp
  simp only [ho, resolve, invoke, builtin, Sem.run_bind, Sem.run_pure, Result.andThen_ok, List.map_toArray, List.map_cons, List.map_nil, hs, hx, hr]
  exact h v' w' h1 h2
/-- How many digits are lacking. -/
def fill32 (n : Nat) : Nat := (32 - n % 32) % 32
set_option maxRecDepth 100000 in
set_option maxHeartbeats 2000000 in
theorem fill_is (b B : Nat) (d bs : List Nat) (v : Value) (w : World) (h : Wr w b d bs v B) (h8 : d.length % 8 = 0) (hB : B ≤ w.heap.size) (hd : d.length ≤ 8000000) :
    Calls Try.prog 73 #[ptr b, .int .i64 32] w (DidBytes w b (d ++ List.replicate (fill32 d.length) 0) v B) := by
  obtain ⟨Av, cv, rfl, _⟩ := own_slice h.row
  have hrow := h.wrote.rows
  have HH := Lib.hid h
  have HBB := Lib.hid hB
  obtain ⟨n, hn⟩ : ∃ n, d.length = n := ⟨_, rfl⟩
  obtain ⟨L, hL⟩ : ∃ n, bs.length = n := ⟨_, rfl⟩
  have hnL : n = 8 * L := by omega
  have c0 := h.is.cell 0
  have c1 := h.is.cell 1
  rw [hn, hL] at c0 c1
  simp at c0 c1
  have HN := Lib.hid hn
  have HL := Lib.hid hL
  rw [hn] at hd h8 ⊢
  rw [hL] at HH ⊢
  by_cases h32 : n % 32 = 0
  · have hz : fill32 n = 0 := by unfold fill32; omega
    have e1 : ((n : Int) % 32 == 0) = true := by simp; omega
    rw [hz, List.replicate_zero, List.append_nil]
    clear h hrow hn hL hnL hz h32 h8
    go_enter Try.func73, Try.ntmps73
    go_wp2
    go_ret
    exact ⟨rfl, bs, _, HH.out, Only.refl _ _⟩
  · obtain ⟨z, hz⟩ : ∃ z, 4 - L % 4 = z := ⟨_, rfl⟩
    obtain ⟨n2, hn2⟩ : ∃ m, n + 8 * z = m := ⟨_, rfl⟩
    have hz3 : 1 ≤ z ∧ z ≤ 3 := by omega
    have hf : fill32 n = 8 * z := by unfold fill32; omega
    have hm : (n : Int) % 32 = 32 - 8 * (z : Int) := by omega
    have FIN := Lib.hid (show ∀ w' A1, Is w' b 140 #[A1, .int .i64 (n2 : Nat)] → w'.ownsRow B 5 1 A1 (L + z) (cellsOf (bs ++ List.replicate z 0)) → Wr w' b (d ++ List.replicate (fill32 n) 0) (bs ++ List.replicate z 0) A1 B from by
      intro w' A1 h1 h2
      rw [hf, ← D_noughts]
      refine ⟨?_, ?_, wrote_bytes HH.out.wrote (by rw [HN.out]; exact h8) (fun x hx => by rw [List.eq_of_mem_replicate hx]; decide), HH.out.base⟩
      · rw [List.length_append, D_length, List.length_replicate, HN.out, hn2]
        exact h1
      · rw [List.length_append, List.length_replicate, HL.out]
        exact h2)
    have e0 : ((n : Int) % 32 == 0) = false := by simp; omega
    have e1 : IntKind.i64.wrap (32 - (n : Int) % 32) = 8 * (z : Int) := by rw [IntWalk.i64_in _ (by omega)]; omega
    have e2 : (32 - (n : Int) % 32) = 8 * (z : Int) := by omega
    have e3 : decide (2147483647 - (L : Int) < (z : Int)) = false := decide_eq_false (by omega)
    have e4 : 8 * (z : Int) / 8 = (z : Int) := by omega
    have e5 : (n : Int) + 8 * (z : Int) = (n2 : Int) := by omega
    have e6 : IntKind.i64.wrap ((n : Int) + 8 * (z : Int)) = (n2 : Int) := by rw [IntWalk.i64_in _ (by omega)]; omega
    have hLL : L ≤ 1000000 := by omega
    have HZ := Lib.hid hz
    have HN2 := Lib.hid hn2
    have HNL := Lib.hid hnL
    have HF := Lib.hid hf
    have f1 := h.is.free 1
    clear h hrow hn hL hnL h32 h8 hz hn2 hf hm
    go_enter Try.func73, Try.ntmps73
    go_upto_region 9 with (fail)
    have hO : Only (fun j => j = b) w (w.setCell ⟨b, 1, none⟩ (.int .i64 (n2 : Nat))) := Only.set (S := fun j => j = b) (p := ⟨b, 1, none⟩) (Only.refl _ w) (fun _ => rfl) _
    have hI2 := HH.out.is.put 1 (.int .i64 (n2 : Nat))
    have hW2 := own_only HH.out.row hO (fun q hq e => HH.out.apart (by rw [hq, e]))
    rw [HL.out] at hW2
    clear c0 c1 f1
    generalize World.setCell w _ _ = w2 at *
    have HI2 := Lib.hid (show Is w2 b 140 #[.slice Av L cv, .int .i64 (n2 : Nat)] from hI2)
    have HW2 := Lib.hid hW2
    have HO2 := Lib.hid (show Only (Mine b (.slice Av L cv)) w w2 from hO.mono (fun i _ e => .inl e))
    clear hI2 hW2 hO e0 e1 e2 e3 e4 e5 e6
    obtain ⟨m1, hm1⟩ : ∃ m, n2 + 7 = m := ⟨_, rfl⟩
    obtain ⟨q, hq⟩ : ∃ m, L + z = m := ⟨_, rfl⟩
    have hzz := HZ.out
    have hnn := HN2.out
    have hnl := HNL.out
    have a1 : IntKind.i64.wrap ((n2 : Int) + 7) = (m1 : Int) := by rw [IntWalk.i64_in _ (by omega)]; omega
    have a2 : (m1 : Int).tdiv 8 = (q : Int) := by rw [Int.tdiv_eq_ediv_of_nonneg (by omega)]; omega
    have a3 : (m1 : Int) / 8 = (q : Int) := by omega
    have a4 : IntKind.i64.wrap (q : Int) = (q : Int) := IntWalk.i64_in _ (by omega)
    have a5 : IntKind.i64.wrap ((q : Int) - (L : Int)) = (z : Int) := by rw [IntWalk.i64_in _ (by omega)]; omega
    clear hzz hnn hnl hm1 hq
    refine wp_region_posts [[], [], [1], [2, 1], [3, 2, 1], [], [5], [6, 5], [7, 6, 5], [8, 7, 6, 5], [9, 8, 7, 6, 5], [], [11], [12, 11], [13, 12, 11], [14, 13, 12, 11], [10, 15, 9, 8, 7, 6, 5, 14, 13, 12, 11], [4, 16, 3, 2, 1, 10, 15, 9, 8, 7, 6, 5, 14, 13, 12, 11], [0, 1, 2, 3, 4, 5, 6, 7, 8, 9, 10, 11, 12, 13, 14, 15, 16, 17], [18, 0, 1, 2, 3, 4, 5, 6, 7, 8, 9, 10, 11, 12, 13, 14, 15, 16, 17], [19, 17, 0, 1, 2, 3, 4, 5, 6, 7, 8, 9, 10, 11, 12, 13, 14, 15, 16, 18]] [17, 20] [17, 20] [[], [], [], [], [], [], [], [], [], [], [], [], [], [], [], [], [], [], [], [], [17]] [[], [], [], [], [], [], [], [], [], [], [], [], [], [], [], [], [], [], [], [], [17]] [20] [17, 20] [0, 18, 19, 20] []
        [some ?v0, some ?v1, some ?v2, some ?v3, some ?v4, some ?v5, some ?v6, some ?v7, some ?v8, some ?v9, some ?v10, some ?v11, some ?v12, some ?v13, some ?v14, some ?v15, some ?v16, none, some ?v18, some ?v19, none]
        ?T (fun wx => Is wx b 140 #[.slice Av L cv, .int .i64 (n2 : Nat)] ∧ wx.ownsRow B 5 1 (.slice Av L cv) L (cellsOf bs) ∧ Only (Mine b (.slice Av L cv)) w wx) ?W ?E (by kernel_rfl) (by kernel_rfl) (by kernel_rfl) (fun x => ?hT) ?hF ?hini (Reg.all_ops ?runs) ?pres ?fin
    case W => exact fun j x w' => match j with | 17 => (∃ A c, x 17 = .slice A (L + z) c) ∧ Is w' b 140 #[.slice Av L cv, .int .i64 (n2 : Nat)] ∧ w'.ownsRow B 5 1 (x 17) (L + z) (cellsOf (bs ++ List.replicate z 0)) ∧ Only (Mine b (.slice Av L cv)) w w' | 20 => (∃ A c, x 17 = .slice A (L + z) c) ∧ Is w' b 140 #[x 17, .int .i64 (n2 : Nat)] ∧ w'.ownsRow B 5 1 (x 17) (L + z) (cellsOf (bs ++ List.replicate z 0)) ∧ Only (Mine b (.slice Av L cv)) w w' | _ => True
    case E => exact fun _ w' w'' => True
    case hT =>
      simp only [Reg.fillV, Act.put, List.setIfInBounds_toArray, List.set_cons_zero, List.set_cons_succ]
      rfl
    case runs =>
      refine And.intro ?_ ?_
      · refine Reg.ob_bare (fun _ => rfl) rfl rfl rfl (fun x w1 => ?_)
        go_simp
        with_reducible rfl
      refine And.intro ?_ ?_
      · refine Reg.ob_pure (fun _ => rfl) rfl rfl rfl rfl (fun x w1 hF => ?_)
        obtain ⟨hI, hW, hO⟩ := hF
        have c0 := hI.cell 0
        have c1 := hI.cell 1
        simp at c0 c1
        go_simp
        with_reducible rfl
      refine And.intro ?_ ?_
      · refine Reg.ob_pure (fun _ => rfl) rfl rfl rfl rfl (fun x w1 hF => ?_)
        obtain ⟨hI, hW, hO⟩ := hF
        have c0 := hI.cell 0
        have c1 := hI.cell 1
        simp at c0 c1
        go_simp
        with_reducible rfl
      refine And.intro ?_ ?_
      · refine Reg.ob_pure (fun _ => rfl) rfl rfl rfl rfl (fun x w1 hF => ?_)
        obtain ⟨hI, hW, hO⟩ := hF
        have c0 := hI.cell 0
        have c1 := hI.cell 1
        simp at c0 c1
        go_simp
        with_reducible rfl
      refine And.intro ?_ ?_
      · refine Reg.ob_pure (fun _ => rfl) rfl rfl rfl rfl (fun x w1 hF => ?_)
        obtain ⟨hI, hW, hO⟩ := hF
        have c0 := hI.cell 0
        have c1 := hI.cell 1
        simp at c0 c1
        go_simp
        with_reducible rfl
      refine And.intro ?_ ?_
      · refine Reg.ob_pure (fun _ => rfl) rfl rfl rfl rfl (fun x w1 hF => ?_)
        obtain ⟨hI, hW, hO⟩ := hF
        have c0 := hI.cell 0
        have c1 := hI.cell 1
        simp at c0 c1
        go_simp
        with_reducible rfl
      refine And.intro ?_ ?_
      · refine Reg.ob_pure (fun _ => rfl) rfl rfl rfl rfl (fun x w1 hF => ?_)
        obtain ⟨hI, hW, hO⟩ := hF
        have c0 := hI.cell 0
        have c1 := hI.cell 1
        simp at c0 c1
        go_simp
        with_reducible rfl
      refine And.intro ?_ ?_
      · refine Reg.ob_pure (fun _ => rfl) rfl rfl rfl rfl (fun x w1 hF => ?_)
        obtain ⟨hI, hW, hO⟩ := hF
        have c0 := hI.cell 0
        have c1 := hI.cell 1
        simp at c0 c1
        go_simp
        with_reducible rfl
      refine And.intro ?_ ?_
      · refine Reg.ob_pure (fun _ => rfl) rfl rfl rfl rfl (fun x w1 hF => ?_)
        obtain ⟨hI, hW, hO⟩ := hF
        have c0 := hI.cell 0
        have c1 := hI.cell 1
        simp at c0 c1
        go_simp
        with_reducible rfl
      refine And.intro ?_ ?_
      · refine Reg.ob_pure (fun _ => rfl) rfl rfl rfl rfl (fun x w1 hF => ?_)
        obtain ⟨hI, hW, hO⟩ := hF
        have c0 := hI.cell 0
        have c1 := hI.cell 1
        simp at c0 c1
        go_simp
        with_reducible rfl
      refine And.intro ?_ ?_
      · refine Reg.ob_pure (fun _ => rfl) rfl rfl rfl rfl (fun x w1 hF => ?_)
        obtain ⟨hI, hW, hO⟩ := hF
        have c0 := hI.cell 0
        have c1 := hI.cell 1
        simp at c0 c1
        go_simp
        with_reducible rfl
      refine And.intro ?_ ?_
      · refine Reg.ob_pure (fun _ => rfl) rfl rfl rfl rfl (fun x w1 hF => ?_)
        obtain ⟨hI, hW, hO⟩ := hF
        have c0 := hI.cell 0
        have c1 := hI.cell 1
        simp at c0 c1
        go_simp
        with_reducible rfl
      refine And.intro ?_ ?_
      · refine Reg.ob_pure (fun _ => rfl) rfl rfl rfl rfl (fun x w1 hF => ?_)
        obtain ⟨hI, hW, hO⟩ := hF
        have c0 := hI.cell 0
        have c1 := hI.cell 1
        simp at c0 c1
        go_simp
        with_reducible rfl
      refine And.intro ?_ ?_
      · refine Reg.ob_pure (fun _ => rfl) rfl rfl rfl rfl (fun x w1 hF => ?_)
        obtain ⟨hI, hW, hO⟩ := hF
        have c0 := hI.cell 0
        have c1 := hI.cell 1
        simp at c0 c1
        go_simp
        with_reducible rfl
      refine And.intro ?_ ?_
      · refine Reg.ob_pure (fun _ => rfl) rfl rfl rfl rfl (fun x w1 hF => ?_)
        obtain ⟨hI, hW, hO⟩ := hF
        have c0 := hI.cell 0
        have c1 := hI.cell 1
        simp at c0 c1
        go_simp
        with_reducible rfl
      refine And.intro ?_ ?_
      · refine Reg.ob_pure (fun _ => rfl) rfl rfl rfl rfl (fun x w1 hF => ?_)
        obtain ⟨hI, hW, hO⟩ := hF
        have c0 := hI.cell 0
        have c1 := hI.cell 1
        simp at c0 c1
        go_simp
        with_reducible rfl
      refine And.intro ?_ ?_
      · refine Reg.ob_pure (fun _ => rfl) rfl rfl rfl rfl (fun x w1 hF => ?_)
        obtain ⟨hI, hW, hO⟩ := hF
        have c0 := hI.cell 0
        have c1 := hI.cell 1
        simp at c0 c1
        go_simp
        with_reducible rfl
      refine And.intro ?_ ?_
      · refine Reg.ob_some (fun _ => rfl) rfl (fun x w1 hF hU K hK => ?_)
        obtain ⟨hI, hW, hO⟩ := hF rfl
        refine wp_noughts w1 (.tmp 50) (.tmp 62) 3 .i64 Try.underlying3 rfl B (.slice Av L cv) bs (by rw [HL.out]; exact hW) rfl z rfl (by rw [HL.out]; omega) (Nat.le_trans HBB.out hO.size) ?_
        intro v' w' hown hg
        rw [HL.out] at hown
        have ho : Only (fun k => (Value.slice Av L cv).ownBlock = some k) w1 w' := (Only.refl _ w1).grown hg (fun i e _ => e)
        obtain ⟨A1, k1, rfl, -⟩ := own_slice hown
        exact hK _ w' (fun _ h _ => by cases h) trivial ⟨⟨A1, k1, rfl⟩, hI.only ho (row_apart hI hW (by decide)), hown, hO.trans ho (fun i _ e => .inr e)⟩
      refine And.intro ?_ ?_
      · refine Reg.ob_bare (fun _ => rfl) rfl rfl rfl (fun x w1 => ?_)
        go_simp
        with_reducible rfl
      refine And.intro ?_ ?_
      · refine Reg.ob_bare (fun _ => rfl) rfl rfl rfl (fun x w1 => ?_)
        go_simp
        with_reducible rfl
      refine And.intro ?_ ?_
      · refine Reg.ob_some (fun _ => rfl) rfl (fun x w1 hF hU K hK => ?_)
        obtain ⟨⟨⟨A1, k1, h17⟩, hI, hW, hO⟩, -⟩ := hU
        have h17 : x 17 = .slice A1 (L + z) k1 := h17
        have hW : w1.ownsRow B 5 1 (x 17) (L + z) (cellsOf (bs ++ List.replicate z 0)) := hW
        have hf := hI.free 0
        have c0 := hI.cell 0
        simp at c0
        revert hK
        simp only [Nat.reduceAdd, h17]
        intro hK
        go_simp
        have hO' : Only (fun j => j = b) w1 (w1.setCell ⟨b, 0, none⟩ (.slice A1 (L + z) k1)) := Only.set (S := fun j => j = b) (p := ⟨b, 0, none⟩) (Only.refl _ w1) (fun _ => rfl) _
        refine hK undef _ (fun _ h _ => by cases h) trivial ⟨⟨A1, k1, h17⟩, ?_, ?_, hO.trans hO' (fun i _ e => .inl e)⟩
        · have hJ : Is (w1.setCell ⟨b, 0, none⟩ (.slice A1 (L + z) k1)) b 140 #[x 17, .int .i64 (n2 : Nat)] := by rw [h17]; exact hI.put 0 _
          exact hJ
        · have hu : (w1.setCell ⟨b, 0, none⟩ (.slice A1 (L + z) k1)).ownsRow B 5 1 (x 17) (L + z) (cellsOf (bs ++ List.replicate z 0)) := own_only hW hO' (fun q hq e => row_apart hI hW (by decide) (by rw [← e]; exact hq))
          exact hu
      exact trivial
    case hF =>
      exact ⟨HI2.out.only ((Only.refl (fun _ => False) _).drewN 1) (by simp), own_only HW2.out ((Only.refl (fun _ => False) _).drewN 1) (by simp), HO2.out.drewN 1⟩
    case hini =>
      exact trivial
    case pres =>
      intro i hi j hj hc x w1 w2 hF hE hW
      simp only [List.mem_cons, List.mem_nil_iff, or_false] at hi hj
      rcases hj with rfl | rfl <;> rcases hi with rfl | rfl
      all_goals (exfalso; revert hc; decide)
    case fin =>
      rintro x w1 - ⟨⟨⟨A1, k1, h17⟩, hI, hW, hO⟩, -⟩
      have h17 : x 17 = .slice A1 (L + z) k1 := h17
      have hW : w1.ownsRow B 5 1 (x 17) (L + z) (cellsOf (bs ++ List.replicate z 0)) := hW
      have hI : Is w1 b 140 #[x 17, .int .i64 (n2 : Nat)] := hI
      simp only [Nat.reduceAdd, h17] at hW hI ⊢
      have X1 := Lib.hid hI
      have X2 := Lib.hid hW
      have X3 := Lib.hid hO
      clear hI hW hO h17
      go_wp2
      go_ret
      exact ⟨rfl, bs ++ List.replicate z 0, _, FIN.out _ _ X1.out X2.out, X3.out⟩

end Go.Proofs.Ytcgfmjdlningpaa
