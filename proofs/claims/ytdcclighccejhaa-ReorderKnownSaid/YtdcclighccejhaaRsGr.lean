/- Merged of RqL RqO RqP RqQ RqR RqS. Conditions: as each says. -/
import Derived.Test.YtdcclighccejhaaRqK
import Derived.Test.YtdcclighccejhaaPkR
import Derived.Test.YtdcclighccejhaaStrW
import Derived.Test.YtdcclighccejhaaBase
/- The reference of layer 10: In, whole. Conditions: as each says. -/
set_option linter.unusedVariables false
set_option linter.unusedSimpArgs false
namespace Go.Proofs.Ytdcclighccejhaa
open Go Go.RowKit
set_option maxRecDepth 100000 in
set_option maxHeartbeats 4000000 in
theorem rin_low (A0 : Option Addr) (sz : Int) (hold nx n cm L c0 PO : Nat) (R : Nat → List (List Value)) (q0 q1 q2 q3 q4 q5 q6 q7 q8 q9 q10 : Value) (w : World) (hlt : n < nx) : Calls Try.prog 25 #[.agg #[.int .i64 sz, .int .u64 (hold : Int), .int .u64 (nx : Int), .bool true, .slice A0 L c0], .int .u64 (n : Int), .agg #[q0, q1, q2, q3, q4, q5, q6, q7, q8, q9, q10], .int .u64 (cm : Int)] w (SaysO (.tuple #[.agg #[.int .i64 sz, .int .u64 (hold : Int), .int .u64 (nx : Int), .bool true, .slice A0 L c0], .slice none 0 0, .bool false]) w) := by
  have hltI : (n : Int) < (nx : Int) := by omega
  clear hlt
  go_enter Try.func25, Try.ntmps25
  go_upto_region 1 with (fail)
  generalize hw2 : World.alloc (World.alloc (World.alloc _ _) _) _ = w2
  have O2 := Lib.hid (show Only (fun _ => False) w w2 from by rw [← hw2]; exact (((Only.refl _ w).alloc _).alloc _).alloc _)
  have I2 := Lib.hid (show Is w2 w.heap.size 32 #[.int .i64 sz, .int .u64 (hold : Int), .int .u64 (nx : Int), .bool true, .slice A0 L c0] from by rw [← hw2]; exact ((Is.made w _ _).alloc _).alloc _)
  have P2 := Lib.hid (show Is w2 (w.heap.size + 1) 74 #[q0, q1, q2, q3, q4, q5, q6, q7, q8, q9, q10] from by
    rw [← hw2]
    have := (Is.made (w.alloc (.cells #[.int .i64 sz, .int .u64 (hold : Int), .int .u64 (nx : Int), .bool true, .slice A0 L c0] 32)) 74 #[q0, q1, q2, q3, q4, q5, q6, q7, q8, q9, q10])
    rw [World.size_alloc] at this
    exact this.alloc _)
  have J2 := Lib.hid (show Is w2 (w.heap.size + 2) 32 zeroRb from by
    rw [← hw2]
    have := Is.made ((w.alloc (.cells #[.int .i64 sz, .int .u64 (hold : Int), .int .u64 (nx : Int), .bool true, .slice A0 L c0] 32)).alloc (.cells #[q0, q1, q2, q3, q4, q5, q6, q7, q8, q9, q10] 74)) 32 zeroRb
    rw [World.size_alloc, World.size_alloc] at this
    exact this)
  obtain ⟨b4, hb4⟩ : ∃ b, w.heap.size = b := ⟨_, rfl⟩
  obtain ⟨b6, hb6⟩ : ∃ b, w.heap.size + 1 = b := ⟨_, rfl⟩
  obtain ⟨b8, hb8⟩ : ∃ b, w.heap.size + 2 = b := ⟨_, rfl⟩
  have HBB := Lib.hid (show b4 = w.heap.size ∧ b6 = w.heap.size + 1 ∧ b8 = w.heap.size + 2 from ⟨hb4.symm, hb6.symm, hb8.symm⟩)
  rw [hb8] at J2 ⊢
  rw [hb6] at P2 ⊢
  rw [hb4] at I2 ⊢
  clear hw2 hb4 hb6 hb8
  have c13 : w2.cell? ⟨b4, 3, none⟩ = some (.bool true) := I2.out.cell 3
  have c12 : w2.cell? ⟨b4, 2, none⟩ = some (.int .u64 (nx : Int)) := I2.out.cell 2
  go_upto_region 5 with (fail)
  clear c13 c12 hltI
  go_wp2_with (first
    | (refine wpList_load_want (o := ⟨some 26, _, _, _, _, _⟩) rfl _ _ rfl b4 rfl _ #[.int .i64 sz, .int .u64 (hold : Int), .int .u64 (nx : Int), .bool true, .slice A0 L c0] _ I2.out Try.underlying32 rfl Try.sizeRb ?_)
    | (refine wpList_store_is (o := ⟨none, _, _, _, _, _⟩) rfl 32 _ _ rfl b8 #[.int .i64 sz, .int .u64 (hold : Int), .int .u64 (nx : Int), .bool true, .slice A0 L c0] rfl rfl 32 zeroRb J2.out Try.sizeRb rfl (by simp [Value.oneCell']) ?_; intro w8 hi8 ho8))
  refine bodyPost_ret (res_cell2p Try.results25 _ w8 b8 32 #[.int .i64 sz, .int .u64 (hold : Int), .int .u64 (nx : Int), .bool true, .slice A0 L c0] _ (.slice none 0 0) (.bool false) rfl rfl rfl hi8 Try.underlying32 rfl Try.sizeRb) rfl ?_
  exact ⟨rfl, O2.out.trans ho8 (fun i hi e => by have := HBB.out; omega)⟩

set_option maxRecDepth 100000 in
set_option maxHeartbeats 8000000 in
theorem rin_dup (A0 : Option Addr) (sz : Int) (hold nx n cm L c0 PO : Nat) (R : Nat → List (List Value)) (q0 q1 q2 q3 q4 q5 q6 q7 q8 q9 q10 : Value) (w : World) (hnn : nx ≤ n) (hPL : PO < L) (hL : L ≤ 299) (hR0 : R 0 = []) (hRle : ∀ m, (R m).length ≤ m)
    (hY : ∀ k, k < PO → ∃ (yn ya : Nat) (y0 y1 y2 y3 y4 y5 y6 y7 y8 y9 y10 : Value) (g o n' c' : Nat), Value.slice A0 L c0 = .slice (some ⟨g, o, none⟩) n' c' ∧ w.rangeAt g (o + k * 13) [.int .u64 (yn : Int), .int .u64 (ya : Int), y0, y1, y2, y3, y4, y5, y6, y7, y8, y9, y10] ∧ (∀ z ∈ ([.int .u64 (yn : Int), .int .u64 (ya : Int), y0, y1, y2, y3, y4, y5, y6, y7, y8, y9, y10] : List Value), z.oneCell' = true) ∧ yn < n ∧ R (k + 1) = R k ++ [[.int .u64 (yn : Int), .int .u64 (ya : Int), y0, y1, y2, y3, y4, y5, y6, y7, y8, y9, y10]])
    (hX : ∃ (g o n' c' : Nat), Value.slice A0 L c0 = .slice (some ⟨g, o, none⟩) n' c' ∧ w.cell? ⟨g, o + PO * 13, none⟩ = some (.int .u64 (n : Int))) : Calls Try.prog 25 #[.agg #[.int .i64 sz, .int .u64 (hold : Int), .int .u64 (nx : Int), .bool true, .slice A0 L c0], .int .u64 (n : Int), .agg #[q0, q1, q2, q3, q4, q5, q6, q7, q8, q9, q10], .int .u64 (cm : Int)] w (SaysO (.tuple #[.agg #[.int .i64 sz, .int .u64 (hold : Int), .int .u64 (nx : Int), .bool true, .slice A0 L c0], .slice none 0 0, .bool false]) w) := by
  have HLL := Lib.hid (And.intro hL hPL)
  have HR0 := Lib.hid hR0
  have HLE := Lib.hid hRle
  have HY := Lib.hid hY
  have HX := Lib.hid hX
  have hnlt : ¬ (n : Int) < (nx : Int) := by omega
  clear hL hR0 hRle hY hX hPL hnn
  go_enter Try.func25, Try.ntmps25
  go_upto_region 1 with (fail)
  generalize hw2 : World.alloc (World.alloc (World.alloc _ _) _) _ = w2
  have O2 := Lib.hid (show Only (fun _ => False) w w2 from by rw [← hw2]; exact (((Only.refl _ w).alloc _).alloc _).alloc _)
  have I2 := Lib.hid (show Is w2 w.heap.size 32 #[.int .i64 sz, .int .u64 (hold : Int), .int .u64 (nx : Int), .bool true, .slice A0 L c0] from by rw [← hw2]; exact ((Is.made w _ _).alloc _).alloc _)
  have P2 := Lib.hid (show Is w2 (w.heap.size + 1) 74 #[q0, q1, q2, q3, q4, q5, q6, q7, q8, q9, q10] from by
    rw [← hw2]
    have := (Is.made (w.alloc (.cells #[.int .i64 sz, .int .u64 (hold : Int), .int .u64 (nx : Int), .bool true, .slice A0 L c0] 32)) 74 #[q0, q1, q2, q3, q4, q5, q6, q7, q8, q9, q10])
    rw [World.size_alloc] at this
    exact this.alloc _)
  have J2 := Lib.hid (show Is w2 (w.heap.size + 2) 32 zeroRb from by
    rw [← hw2]
    have := Is.made ((w.alloc (.cells #[.int .i64 sz, .int .u64 (hold : Int), .int .u64 (nx : Int), .bool true, .slice A0 L c0] 32)).alloc (.cells #[q0, q1, q2, q3, q4, q5, q6, q7, q8, q9, q10] 74)) 32 zeroRb
    rw [World.size_alloc, World.size_alloc] at this
    exact this)
  obtain ⟨b4, hb4⟩ : ∃ b, w.heap.size = b := ⟨_, rfl⟩
  obtain ⟨b6, hb6⟩ : ∃ b, w.heap.size + 1 = b := ⟨_, rfl⟩
  obtain ⟨b8, hb8⟩ : ∃ b, w.heap.size + 2 = b := ⟨_, rfl⟩
  have HBB := Lib.hid (show b4 = w.heap.size ∧ b6 = w.heap.size + 1 ∧ b8 = w.heap.size + 2 from ⟨hb4.symm, hb6.symm, hb8.symm⟩)
  rw [hb8] at J2 ⊢
  rw [hb6] at P2 ⊢
  rw [hb4] at I2 ⊢
  clear hw2 hb4 hb6 hb8
  have c13 : w2.cell? ⟨b4, 3, none⟩ = some (.bool true) := I2.out.cell 3
  have c12 : w2.cell? ⟨b4, 2, none⟩ = some (.int .u64 (nx : Int)) := I2.out.cell 2
  go_wp2
  clear c13 c12 hnlt
  go_loopw [11, 12, 13] (fun s11 s12 s13 wr => ∃ k : Nat, k ≤ PO ∧ s13 = .int .i64 (k : Int) ∧ s12 = .bool false ∧ OwnS wr w2.heap.size 87 13 s11 (R k) ∧ Only (fun _ => False) w2 wr) (fun _ _ s13 _ => L - (intOf s13).toNat)
  case atStart => exact ⟨0, by omega, rfl, rfl, by rw [HR0.out]; exact OwnS.nil _ _ _ _, Only.refl _ w2⟩
  case round =>
    obtain ⟨k, hk, rfl, rfl, hS, ho⟩ := hrel
    obtain ⟨Ar, cr, hsr, -⟩ := hS.slice
    subst hsr
    obtain ⟨Nr, hNr⟩ : ∃ N, (R k).length = N := ⟨_, rfl⟩
    rw [hNr] at hS ⊢
    clear hNr
    have Owr := Lib.hid ho
    have Swr := Lib.hid hS
    have Iwr := Lib.hid (I2.out.only ho (by simp))
    have Pwr := Lib.hid (P2.out.only ho (by simp))
    have c4 : wr.cell? ⟨b4, 4, none⟩ = some (.slice A0 L c0) := Iwr.out.cell 4
    have hlt : k < L := by have := HLL.out; omega
    have HKL := Lib.hid (And.intro hlt HLL.out.1)
    have hltI : (k : Int) < (L : Int) := by omega
    have hL299 := HLL.out.1
    clear hS ho
    by_cases hkp : k < PO
    · obtain ⟨yn, ya, y0, y1, y2, y3, y4, y5, y6, y7, y8, y9, y10, g, o, n', c', e, hra, hone, hlow, hrow⟩ := HY.out k hkp
      injection e with e1 e2 e3
      subst e1
      clear e2 e3
      have RA := Lib.hid (range_pure hra O2.out)
      have HY1 := Lib.hid hone
      have HRow := Lib.hid hrow
      have cg : wr.cell? ⟨g, o + k * 13, none⟩ = some (.int .u64 (yn : Int)) := (range_pure RA.out Owr.out) 0 _ rfl
      have cg0 : wr.cell? ⟨g, o + k * 13 + 0, none⟩ = some (.int .u64 (yn : Int)) := cg
      have hneI : ¬ (yn : Int) = (n : Int) := by omega
      have hgt : ¬ (n : Int) < (yn : Int) := by omega
      clear hra hone hrow hlow
      go_upto_region 16 with (fail)
      go_wp2_with (first
        | (at_builtin; refine wpList_append_struct _ rfl _ _ sty_rw rfl w2.heap.size _ (R k) rfl (OwnS.only Swr.out ((Only.refl (fun _ => False) _).alloc _) (by simp)) wr.heap.size [.int .u64 (yn : Int), .int .u64 (ya : Int), y0, y1, y2, y3, y4, y5, y6, y7, y8, y9, y10] rfl (Is.made wr _ _) rfl HY1.out (by have := HLE.out (k); have := HKL.out; omega) (by decide) (by simp; have := Owr.out.size; omega) ?_; intro v5 w5 hS5 hO5; rw [← HRow.out] at hS5; obtain ⟨A5, k5, hv5, -⟩ := hS5.slice; subst hv5; have S5 := Lib.hid hS5; have Ow5 := Lib.hid ((Owr.out.alloc _).trans hO5 (fun i hi e => by have := (Swr.out.lt i e).1; omega) : Only (fun _ => False) w2 w5); have I5 := Lib.hid (I2.out.only Ow5.out (by simp)); have P5 := Lib.hid (P2.out.only Ow5.out (by simp)); clear hS5 hO5; have c45 : w5.cell? ⟨b4, 4, none⟩ = some (.slice (some ⟨g, o, none⟩) L c0) := I5.out.cell 4)
        | (refine wpList_load_mid rfl 87 _ rfl g (o + k * 13) rfl [.int .u64 (yn : Int), .int .u64 (ya : Int), y0, y1, y2, y3, y4, y5, y6, y7, y8, y9, y10] _ (range_pure RA.out Owr.out) Try.underlying87 rfl Try.sizeRw ?_))
      exact ⟨⟨k + 1, by omega, by go_num, rfl, S5.out, Ow5.out⟩, by simp [intOf]; omega⟩
    · obtain rfl : k = PO := by omega
      obtain ⟨g, o, n', c', e, hce⟩ := HX.out
      injection e with e1 e2 e3
      subst e1
      clear e2 e3
      have cg : wr.cell? ⟨g, o + k * 13, none⟩ = some (.int .u64 (n : Int)) := grown_cell (O2.out.trans Owr.out (fun _ _ e => e)) hce (World.block_lt_of_cell? w _ hce)
      have cg0 : wr.cell? ⟨g, o + k * 13 + 0, none⟩ = some (.int .u64 (n : Int)) := cg
      have OO := Lib.hid (O2.out.trans Owr.out (fun _ _ e => e))
      have Jwr := Lib.hid (J2.out.only Owr.out (by simp))
      clear hce
      go_upto_region 12 with (fail)
      clear cg cg0 c4
      go_wp2_with (first
        | (refine wpList_load_want (o := ⟨some 42, _, _, _, _, _⟩) rfl _ _ rfl b4 rfl _ #[.int .i64 sz, .int .u64 (hold : Int), .int .u64 (nx : Int), .bool true, .slice (some ⟨g, o, none⟩) L c0] _ Iwr.out Try.underlying32 rfl Try.sizeRb ?_)
        | (refine wpList_store_is (o := ⟨none, _, _, _, _, _⟩) rfl 32 _ _ rfl b8 #[.int .i64 sz, .int .u64 (hold : Int), .int .u64 (nx : Int), .bool true, .slice (some ⟨g, o, none⟩) L c0] rfl rfl 32 zeroRb Jwr.out Try.sizeRb rfl (by simp [Value.oneCell']) ?_; intro w8 hi8 ho8))
      refine bodyPost_ret (res_cell2p Try.results25 _ w8 b8 32 #[.int .i64 sz, .int .u64 (hold : Int), .int .u64 (nx : Int), .bool true, .slice (some ⟨g, o, none⟩) L c0] _ (.slice none 0 0) (.bool false) rfl rfl rfl hi8 Try.underlying32 rfl Try.sizeRb) rfl ?_
      exact ⟨rfl, OO.out.trans ho8 (fun i hi e => by have := HBB.out; omega)⟩

theorem Wt.lit {q0 q1 q2 q3 q4 q5 q6 q7 q8 q9 q10 : Value} (x : Wt) (u : V3) (hp : x.p.cls u.1 u.2.1 u.2.2 = #[q0, q1, q2, q3, q4, q5, q6, q7, q8, q9, q10]) : x.cls u = [.int .u64 (x.n : Int), .int .u64 (x.came : Int), q0, q1, q2, q3, q4, q5, q6, q7, q8, q9, q10] := by unfold Wt.cls; rw [hp]
theorem wt_one {x : Wt} {u : V3} {w : World} (h : RdPk x.p u.1 u.2.1 u.2.2 w) : ∀ z ∈ x.cls u, z.oneCell' = true := by
  have hone := x.p.cls_one h.s (src_isSl h.e) (src_isSl h.p)
  intro v hv
  rcases List.mem_cons.1 hv with rfl | hv
  · rfl
  · rcases List.mem_cons.1 hv with rfl | hv
    · rfl
    · rw [Array.all_eq_true'] at hone
      exact hone v (by simpa using hv)
/-- A packet may come. -/
theorem inR_yes (r : Rb) (us : List V3) (v : Value) (x : Wt) (u : V3) (w : World) (h : RdL w v r.ws us) (hp : RdPk x.p u.1 u.2.1 u.2.2 w) (ht : r.takes x.n) (hL : r.ws.length ≤ 299) (hok : (r.ins x).Ok) :
    Calls Try.prog 25 #[.agg (r.cells v), .int .u64 (x.n : Int), .agg (x.p.cls u.1 u.2.1 u.2.2), .int .u64 (x.came : Int)] w (InYes r us x u (rgo 0 r.size 0 (r.ins x).next (r.ins x).ws) w) := by
  obtain ⟨A0, c0, rfl, hc0⟩ := h.sl
  obtain ⟨q0, q1, q2, q3, q4, q5, q6, q7, q8, q9, q10, hq⟩ : ∃ q0 q1 q2 q3 q4 q5 q6 q7 q8 q9 q10 : Value, x.p.cls u.1 u.2.1 u.2.2 = #[q0, q1, q2, q3, q4, q5, q6, q7, q8, q9, q10] := ⟨_, _, _, _, _, _, _, _, _, _, _, rfl⟩
  have hxl := x.lit u hq
  have hx1 := wt_one hp
  have hRX := newRows_x h.len (x := x) (u := u)
  have hPL := posR_le r.ws x.n
  have hall := newRows_all h.len (x := x) (u := u)
  have hY := row_at (x := x) (u := u) h ht.1
  have hl2 : (r.ins x).ws.length = r.ws.length + 1 := insAt_length _ _ _ hPL
  have hlu : (insAt us (posR r.ws x.n) u).length = (r.ins x).ws.length := by rw [hl2, insAt_length _ _ _ (by rw [h.len]; exact hPL), h.len]
  have hwl : (wtRows (r.ins x).ws (insAt us (posR r.ws x.n) u)).length = r.ws.length + 1 := by rw [wtRows_length hlu, hl2]
  have hpk : ∀ (w1 : World), Only (fun _ => False) w w1 → ∀ (i : Nat) (y : Wt) (z : V3), (r.ins x).ws[i]? = some y → (insAt us (posR r.ws x.n) u)[i]? = some z → RdPk y.p z.1 z.2.1 z.2.2 w1 := by
    intro w1 ho i y z hy hz
    change (insAt r.ws (posR r.ws x.n) x)[i]? = some y at hy
    rw [insAt_get _ _ _ hPL] at hy
    rw [insAt_get _ _ _ (by rw [h.len]; exact hPL)] at hz
    split at hy
    · rename_i h1
      rw [if_pos h1] at hz
      exact (h.at_ i y z hy hz).2.only ho
    · rename_i h1
      rw [if_neg h1] at hz
      split at hy
      · rename_i h2
        rw [if_pos h2] at hz
        injection hy with hy
        injection hz with hz
        subst hy hz
        exact hp.only ho
      · rename_i h2
        rw [if_neg h2] at hz
        exact (h.at_ _ y z hy hz).2.only ho
  rw [hxl] at hRX hx1
  rw [hq]
  have hG := fun (w1 : World) (A : Option Addr) (c : Nat) (hS : OwnS w1 w.heap.size 87 13 (.slice A (r.ws.length + 1) c) (wtRows (r.ins x).ws (insAt us (posR r.ws x.n) u))) (ho : Only (fun _ => False) w w1) =>
    goes_lit (r.ins x) (insAt us (posR r.ws x.n) u) A c 0 w1 (by rw [hl2]; exact rd_of_own hS hlu (hpk w1 ho)) (by omega) hok
  rw [hl2] at hG
  obtain ⟨sz, hold, nx, bg, ws⟩ := r
  cases bg with
  | true =>
    refine rin_true _ A0 sz hold nx x.n x.came ws.length c0 (posR ws x.n) _ _ (newRows ws us x u) _ _ _ q0 q1 q2 q3 q4 q5 q6 q7 q8 q9 q10 w (ht.2 rfl) hPL hL rfl newRows_le hRX hx1 hall hwl hY hG ?_
    intro A c A2 c2 vo w' h1 h2 h3 h4
    exact ⟨.slice A (ws.length + 1) c, .slice A2 _ c2, vo, rfl, h1, h2, h3, h4⟩
  | false =>
    refine rin_false _ A0 sz hold nx x.n x.came ws.length c0 (posR ws x.n) _ _ (newRows ws us x u) _ _ _ q0 q1 q2 q3 q4 q5 q6 q7 q8 q9 q10 w trivial hPL hL rfl newRows_le hRX hx1 hall hwl hY hG ?_
    intro A c A2 c2 vo w' h1 h2 h3 h4
    exact ⟨.slice A (ws.length + 1) c, .slice A2 _ c2, vo, rfl, h1, h2, h3, h4⟩
/-- A packet may not come. -/
theorem inR_no (r : Rb) (us : List V3) (v : Value) (x : Wt) (u : V3) (w : World) (h : RdL w v r.ws us) (hb : r.begun = true) (ht : ¬ r.takes x.n) (hL : r.ws.length ≤ 299) (hrise : ∀ (i j : Nat) (x y : Wt), i < j → r.ws[i]? = some x → r.ws[j]? = some y → x.n < y.n) :
    Calls Try.prog 25 #[.agg (r.cells v), .int .u64 (x.n : Int), .agg (x.p.cls u.1 u.2.1 u.2.2), .int .u64 (x.came : Int)] w (SaysO (.tuple #[.agg (r.cells v), .slice none 0 0, .bool false]) w) := by
  obtain ⟨A0, c0, rfl, hc0⟩ := h.sl
  obtain ⟨q0, q1, q2, q3, q4, q5, q6, q7, q8, q9, q10, hq⟩ : ∃ q0 q1 q2 q3 q4 q5 q6 q7 q8 q9 q10 : Value, x.p.cls u.1 u.2.1 u.2.2 = #[q0, q1, q2, q3, q4, q5, q6, q7, q8, q9, q10] := ⟨_, _, _, _, _, _, _, _, _, _, _, rfl⟩
  rw [hq]
  obtain ⟨sz, hold, nx, bg, ws⟩ := r
  change bg = true at hb
  subst hb
  by_cases hlt : x.n < nx
  · exact rin_low A0 sz hold nx x.n x.came ws.length c0 0 (fun _ => []) q0 q1 q2 q3 q4 q5 q6 q7 q8 q9 q10 w hlt
  · have hex : ∃ y ∈ ws, y.n = x.n := by
      refine Classical.byContradiction fun hn => ht ⟨fun y hy e => hn ⟨y, hy, e⟩, fun _ => ?_⟩
      show nx ≤ x.n
      omega
    obtain ⟨y, hy, e⟩ := hex
    obtain ⟨i, hi⟩ := List.getElem?_of_mem hy
    have hil := (List.getElem?_eq_some_iff.1 hi).1
    have hpi : ¬ i < posR ws x.n := fun hc => by have := posR_before ws x.n i y hi hc; omega
    have hpos : posR ws x.n = i := by
      refine Nat.le_antisymm (by omega) (Nat.not_lt.1 fun hc => ?_)
      have hz := List.getElem?_eq_getElem (show posR ws x.n < ws.length by omega)
      have h1 := posR_at ws x.n _ hz
      have h2 := hrise _ _ _ _ hc hz hi
      omega
    refine rin_dup A0 sz hold nx x.n x.came ws.length c0 i (newRows ws us x u) q0 q1 q2 q3 q4 q5 q6 q7 q8 q9 q10 w (by omega) hil hL rfl newRows_le ?_ ?_
    · intro k hk
      rw [← hpos] at hk
      have hkl : k < ws.length := by omega
      obtain ⟨y1, hy⟩ : ∃ y1, ws[k]? = some y1 := ⟨_, List.getElem?_eq_getElem hkl⟩
      obtain ⟨z1, hz⟩ : ∃ z1, us[k]? = some z1 := ⟨_, List.getElem?_eq_getElem (show k < us.length by rw [h.len]; exact hkl)⟩
      obtain ⟨⟨g, o, n', c', e, hr⟩, hp⟩ := h.at_ k _ _ hy hz
      obtain ⟨p0, p1, p2, p3, p4, p5, p6, p7, p8, p9, p10, hq2⟩ : ∃ q0 q1 q2 q3 q4 q5 q6 q7 q8 q9 q10 : Value, y1.p.cls z1.1 z1.2.1 z1.2.2 = #[q0, q1, q2, q3, q4, q5, q6, q7, q8, q9, q10] := ⟨_, _, _, _, _, _, _, _, _, _, _, rfl⟩
      have hcl := y1.lit z1 hq2
      have h1 := wt_one hp
      have h2 := newRows_before h.len (x := x) (u := u) hk hy hz
      rw [hcl] at hr h1 h2
      exact ⟨_, _, _, _, _, _, _, _, _, _, _, _, _, g, o, n', c', e, hr, h1, posR_before ws x.n k _ hy hk, h2⟩
    · have hz := List.getElem?_eq_getElem (show i < us.length by rw [h.len]; exact hil)
      obtain ⟨⟨g, o, n', c', e2, hr⟩, hp⟩ := h.at_ i _ _ hi hz
      refine ⟨g, o, n', c', e2, ?_⟩
      have := hr 0 _ rfl
      rw [← e]
      exact this
end Go.Proofs.Ytdcclighccejhaa

/- reorder's law: a packet, in new memory (own). Conditions: as each says. -/
set_option linter.unusedVariables false
set_option linter.unusedSimpArgs false
namespace Go.Proofs.Ytdcclighccejhaa
open Go Go.RowKit

theorem wpList_app32p {ops : Array Oper} {rest : List Oper} {o : Oper} {a : Act} {Q : Exit → Act → World → Prop} (w : World) (hgd : o.guard = none) (s x : Operand) (ho : o.op = .call { callee := .builtin .append, args := #[s, x], argTypes := #[39, 39] })
    (B : Nat) (vx : Value) (ns : List Nat) (hs : a.eval s = .slice none 0 0) (hx : a.eval x = vx) (hn0 : vx = .slice none 0 0 ∨ ∃ ad n c, vx = .slice (some ad) n c) (hr : Rd .u32 w vx (nats ns)) (hl : ns.length ≤ 1000000) (hB : B ≤ w.heap.size)
    (h : ∀ A c w', w'.ownsRow B 38 1 (.slice A ns.length c) ns.length (cells32 ns) → Only (fun _ => False) w w' → wpList Try.prog ops Q rest (a.put o.dst (.slice A ns.length c)) w') : wpList Try.prog ops Q (o :: rest) a w :=
  wpList_plain hgd fun _ hK => app32 w s x ho B vx ns hs hx hn0 hr hl hB fun A c w' h1 h2 => hK _ _ (h A c w' h1 h2)
theorem zero_pk_lit : zeroPk = #[.bool false, .int .u8 0, .int .u16 0, .int .u32 0, .int .u32 0, .slice none 0 0, .bool false, .int .u16 0, .slice none 0 0, .slice none 0 0, .int .u8 0] := rfl
set_option maxRecDepth 100000 in
set_option maxHeartbeats 4000000 in
theorem lown_is (p : Pk) (vc ve vp : Value) (w : World) (hn0 : vc = .slice none 0 0 ∨ ∃ ad n c, vc = .slice (some ad) n c) (h : RdPk p vc ve vp w) (hl : p.csrc.length ≤ 1000 ∧ p.ext.length ≤ 1000000 ∧ p.pay.length ≤ 1000000) :
    Calls Try.prog 23 #[.agg (p.cls vc ve vp)] w (GotCopy p w) := by
  obtain ⟨a1, n1, c1, e1⟩ := h.s
  obtain ⟨a2, n2, c2, e2⟩ := src_isSl h.e
  obtain ⟨a3, n3, c3, e3⟩ := src_isSl h.p
  subst e1 e2 e3
  have HC := Lib.hid h.c
  have HN0 := Lib.hid hn0
  have HE := Lib.hid h.e
  have HP := Lib.hid h.p
  have HL := Lib.hid hl
  clear hn0 h hl
  show Calls Try.prog 23 #[.agg #[.bool p.marker, .int .u8 p.ty, .int .u16 p.seq, .int .u32 p.time, .int .u32 p.ssrc, .slice a1 n1 c1, .bool p.hasExt, .int .u16 p.profile, .slice a2 n2 c2, .slice a3 n3 c3, .int .u8 p.pad]] w _
  go_enter Try.func23, Try.ntmps23
  go_upto_region 2 with (fail)
  generalize hw0 : World.alloc (World.alloc _ _) _ = w0
  have O0 := Lib.hid (show Only (fun _ => False) w w0 from by rw [← hw0]; exact ((Only.refl _ w).alloc _).alloc _)
  have I0 := Lib.hid (show Is w0 w.heap.size 42 #[.bool p.marker, .int .u8 p.ty, .int .u16 p.seq, .int .u32 p.time, .int .u32 p.ssrc, .slice a1 n1 c1, .bool p.hasExt, .int .u16 p.profile, .slice a2 n2 c2, .slice a3 n3 c3, .int .u8 p.pad] from by rw [← hw0]; exact (Is.made w _ _).alloc _)
  have J0 := Lib.hid (show Is w0 (w.heap.size + 1) 42 zeroPk from by
    rw [← hw0]
    have := Is.made (w.alloc (.cells #[.bool p.marker, .int .u8 p.ty, .int .u16 p.seq, .int .u32 p.time, .int .u32 p.ssrc, .slice a1 n1 c1, .bool p.hasExt, .int .u16 p.profile, .slice a2 n2 c2, .slice a3 n3 c3, .int .u8 p.pad] 42)) 42 zeroPk
    rw [World.size_alloc] at this
    exact this)
  obtain ⟨b1, hb1⟩ : ∃ b, w.heap.size = b := ⟨_, rfl⟩
  obtain ⟨b2, hb2⟩ : ∃ b, w.heap.size + 1 = b := ⟨_, rfl⟩
  have HBB := Lib.hid (show b1 = w.heap.size ∧ b2 = w.heap.size + 1 from ⟨hb1.symm, hb2.symm⟩)
  rw [hb2] at J0 ⊢
  rw [hb1] at I0 ⊢
  clear hw0 hb1 hb2
  have g0 : w0.cell? ⟨b1, 5, none⟩ = some (.slice a1 n1 c1) := I0.out.cell 5
  go_upto_region 3 with ((at_builtin; refine wpList_app32p w0 rfl (.tmp 4) (.tmp 6) rfl w.heap.size (.slice a1 n1 c1) p.csrc rfl rfl HN0.out (HC.out.only O0.out (by simp)) (by have := HL.out.1; omega) O0.out.size ?_; intro A1 k1 w1 hS1 hO1; have S1 := Lib.hid hS1; have O1 := Lib.hid (O0.out.trans hO1 (fun _ _ e => e)); have I1 := Lib.hid (I0.out.only hO1 (by simp)); have J1 := Lib.hid (J0.out.only hO1 (by simp)); clear hS1 hO1 g0; have g1 := I1.out.cell 5; have f1 := I1.out.free 5; simp at g1))
  generalize hw2 : World.setCell w1 _ _ = w2
  have I2 := Lib.hid (show Is w2 b1 42 #[.bool p.marker, .int .u8 p.ty, .int .u16 p.seq, .int .u32 p.time, .int .u32 p.ssrc, .slice A1 p.csrc.length k1, .bool p.hasExt, .int .u16 p.profile, .slice a2 n2 c2, .slice a3 n3 c3, .int .u8 p.pad] from by rw [← hw2]; exact I1.out.put 5 _)
  have SO2 := Lib.hid (show Only (fun k => k = b1) w1 w2 from by rw [← hw2]; exact Only.set (S := fun k => k = b1) (p := ⟨b1, 5, none⟩) (Only.refl _ _) (fun _ => rfl) _)
  have O2 := Lib.hid (O1.out.trans SO2.out (fun i hi e => by have := HBB.out; omega))
  have S2 := Lib.hid (own_only S1.out SO2.out (fun q hq => fun (e : q = b1) => owned_off S1.out I1.out (by decide) (by rw [hq, e])))
  have J2 := Lib.hid (J1.out.only SO2.out (by have := HBB.out; omega))
  clear hw2 g1 f1 S1 I1 J1 I0 J0 SO2
  have HO3 := Lib.hid (kitown_is (.slice a2 n2 c2) p.ext w2 w.heap.size O2.out.size (HE.out.of_only O2.out) (by have := HL.out; omega))
  have g2 : w2.cell? ⟨b1, 8, none⟩ = some (.slice a2 n2 c2) := I2.out.cell 8
  go_upto_region 4 with ((with_reducible refine HO3.out.mono ?_); rintro e w3 ⟨v3, rfl, hS3, hO3, -⟩; rw [length_cellsOf] at hS3; obtain ⟨A3, k3, rfl, -⟩ := own_slice hS3; have S3 := Lib.hid hS3; have SS3 := Lib.hid (own_only S2.out hO3 (by simp)); have O3 := Lib.hid (O2.out.trans hO3 (fun _ _ e => e)); have I3 := Lib.hid (I2.out.only hO3 (by simp)); have J3 := Lib.hid (J2.out.only hO3 (by simp)); clear hS3 hO3 g2; have g3 := I3.out.cell 8; have f3 := I3.out.free 8; simp at g3)
  generalize hw4 : World.setCell w3 _ _ = w4
  have I4 := Lib.hid (show Is w4 b1 42 #[.bool p.marker, .int .u8 p.ty, .int .u16 p.seq, .int .u32 p.time, .int .u32 p.ssrc, .slice A1 p.csrc.length k1, .bool p.hasExt, .int .u16 p.profile, .slice A3 p.ext.length k3, .slice a3 n3 c3, .int .u8 p.pad] from by rw [← hw4]; exact I3.out.put 8 _)
  have SO4 := Lib.hid (show Only (fun k => k = b1) w3 w4 from by rw [← hw4]; exact Only.set (S := fun k => k = b1) (p := ⟨b1, 8, none⟩) (Only.refl _ _) (fun _ => rfl) _)
  have O4 := Lib.hid (O3.out.trans SO4.out (fun i hi e => by have := HBB.out; omega))
  have S4 := Lib.hid (own_only SS3.out SO4.out (fun q hq => fun (e : q = b1) => owned_off SS3.out I3.out (by decide) (by rw [hq, e])))
  have T4 := Lib.hid (own_only S3.out SO4.out (fun q hq => fun (e : q = b1) => owned_off S3.out I3.out (by decide) (by rw [hq, e])))
  have J4 := Lib.hid (J3.out.only SO4.out (by have := HBB.out; omega))
  clear hw4 g3 f3 S3 SS3 I3 J3 I2 J2 SO4 HO3 S2
  have HO5 := Lib.hid (kitown_is (.slice a3 n3 c3) p.pay w4 w.heap.size O4.out.size (HP.out.of_only O4.out) (by have := HL.out; omega))
  have g4 : w4.cell? ⟨b1, 9, none⟩ = some (.slice a3 n3 c3) := I4.out.cell 9
  go_upto_region 5 with ((with_reducible refine HO5.out.mono ?_); rintro e w5 ⟨v5, rfl, hS5, hO5, -⟩; rw [length_cellsOf] at hS5; obtain ⟨A5, k5, rfl, -⟩ := own_slice hS5; have U5 := Lib.hid hS5; have S5 := Lib.hid (own_only S4.out hO5 (by simp)); have T5 := Lib.hid (own_only T4.out hO5 (by simp)); have O5 := Lib.hid (O4.out.trans hO5 (fun _ _ e => e)); have I5 := Lib.hid (I4.out.only hO5 (by simp)); have J5 := Lib.hid (J4.out.only hO5 (by simp)); clear hS5 hO5 g4; have g5 := I5.out.cell 9; have f5 := I5.out.free 9; simp at g5)
  generalize hw6 : World.setCell w5 _ _ = w6
  have I6 := Lib.hid (show Is w6 b1 42 (p.cls (.slice A1 p.csrc.length k1) (.slice A3 p.ext.length k3) (.slice A5 p.pay.length k5)) from by rw [← hw6]; exact I5.out.put 9 _)
  have SO6 := Lib.hid (show Only (fun k => k = b1) w5 w6 from by rw [← hw6]; exact Only.set (S := fun k => k = b1) (p := ⟨b1, 9, none⟩) (Only.refl _ _) (fun _ => rfl) _)
  have O6 := Lib.hid (O5.out.trans SO6.out (fun i hi e => by have := HBB.out; omega))
  have S6 := Lib.hid (own_only S5.out SO6.out (fun q hq => fun (e : q = b1) => owned_off S5.out I5.out (by decide) (by rw [hq, e])))
  have T6 := Lib.hid (own_only T5.out SO6.out (fun q hq => fun (e : q = b1) => owned_off T5.out I5.out (by decide) (by rw [hq, e])))
  have U6 := Lib.hid (own_only U5.out SO6.out (fun q hq => fun (e : q = b1) => owned_off U5.out I5.out (by decide) (by rw [hq, e])))
  have J6 := Lib.hid (J5.out.only SO6.out (by have := HBB.out; omega))
  have HV := Lib.hid (p.cls_one (vc := .slice A1 p.csrc.length k1) (ve := .slice A3 p.ext.length k3) (vp := .slice A5 p.pay.length k5) ⟨_, _, _, rfl⟩ ⟨_, _, _, rfl⟩ ⟨_, _, _, rfl⟩)
  clear hw6 g5 f5 S5 T5 U5 I5 J5 I4 J4 SO6 HO5 S4 T4
  go_wp2_with (first
    | (refine wpList_load_want (o := ⟨some 17, _, _, _, _, _⟩) rfl _ _ rfl b1 rfl _ (p.cls (.slice A1 p.csrc.length k1) (.slice A3 p.ext.length k3) (.slice A5 p.pay.length k5)) _ I6.out Try.underlying42 rfl Try.sizePq ?_)
    | (refine wpList_store_is (o := ⟨none, _, _, _, _, _⟩) rfl 42 _ _ rfl b2 (p.cls (.slice A1 p.csrc.length k1) (.slice A3 p.ext.length k3) (.slice A5 p.pay.length k5)) rfl rfl 42 zeroPk J6.out Try.sizePq rfl HV.out ?_; intro w8 hi8 ho8))
  refine bodyPost_ret (res_one Try.results23 _ w8 b2 42 (p.cls (.slice A1 p.csrc.length k1) (.slice A3 p.ext.length k3) (.slice A5 p.pay.length k5)) _ rfl hi8 Try.underlying42 rfl Try.sizePq) rfl ⟨_, _, _, rfl, ⟨?_, ?_, ?_⟩, O6.out.trans ho8 (fun i hi e => by have := HBB.out; omega)⟩
  · exact own_only S6.out ho8 (fun q hq => fun (e : q = b2) => owned_off S6.out J6.out (by decide) (by rw [hq, e]))
  · exact own_only T6.out ho8 (fun q hq => fun (e : q = b2) => owned_off T6.out J6.out (by decide) (by rw [hq, e]))
  · exact own_only U6.out ho8 (fun q hq => fun (e : q = b2) => owned_off U6.out J6.out (by decide) (by rw [hq, e]))
end Go.Proofs.Ytdcclighccejhaa

/- reorder's law: same: its drawn region. Conditions: as each says. -/
set_option linter.unusedVariables false
set_option linter.unusedSimpArgs false
namespace Go.Proofs.Ytdcclighccejhaa
open Go Go.RowKit

/-- Amid a round of same. -/
structure Sm (g g2 k : Nat) (gp : Bool) (a z : Nat) (cs ds : List Value) (w0 wx : World) : Prop where
  ra : wx.rangeAt g (k * 14) (.bool gp :: .int .u64 (a : Int) :: .int .u64 (z : Int) :: cs)
  rb : wx.rangeAt g2 (k * 14) (.bool gp :: .int .u64 (a : Int) :: .int .u64 (z : Int) :: ds)
  pure : Only (fun _ => False) w0 wx
section
variable {g g2 k : Nat} {gp : Bool} {a z : Nat} {cs ds : List Value} {w0 wx wy : World}
theorem Sm.go (h : Sm g g2 k gp a z cs ds w0 wx) (ho : Only (fun _ => False) wx wy) : Sm g g2 k gp a z cs ds w0 wy :=
  ⟨range_pure h.ra ho, range_pure h.rb ho, h.pure.trans ho (fun _ _ e => e)⟩
theorem Sm.a0 (h : Sm g g2 k gp a z cs ds w0 wx) : wx.cell? ⟨g, k * 14, none⟩ = some (.bool gp) := h.ra 0 _ rfl
theorem Sm.a1 (h : Sm g g2 k gp a z cs ds w0 wx) : wx.cell? ⟨g, k * 14 + 1, none⟩ = some (.int .u64 (a : Int)) := h.ra 1 _ rfl
theorem Sm.a2 (h : Sm g g2 k gp a z cs ds w0 wx) : wx.cell? ⟨g, k * 14 + 2, none⟩ = some (.int .u64 (z : Int)) := h.ra 2 _ rfl
theorem Sm.a3 (h : Sm g g2 k gp a z cs ds w0 wx) : wx.rangeAt g (k * 14 + 3) cs := fun j v hj => by
  have := h.ra (j + 3) v (by simpa using hj)
  rwa [show k * 14 + (j + 3) = k * 14 + 3 + j by omega] at this
theorem Sm.b0 (h : Sm g g2 k gp a z cs ds w0 wx) : wx.cell? ⟨g2, k * 14, none⟩ = some (.bool gp) := h.rb 0 _ rfl
theorem Sm.b1 (h : Sm g g2 k gp a z cs ds w0 wx) : wx.cell? ⟨g2, k * 14 + 1, none⟩ = some (.int .u64 (a : Int)) := h.rb 1 _ rfl
theorem Sm.b2 (h : Sm g g2 k gp a z cs ds w0 wx) : wx.cell? ⟨g2, k * 14 + 2, none⟩ = some (.int .u64 (z : Int)) := h.rb 2 _ rfl
theorem Sm.b3 (h : Sm g g2 k gp a z cs ds w0 wx) : wx.rangeAt g2 (k * 14 + 3) ds := fun j v hj => by
  have := h.rb (j + 3) v (by simpa using hj)
  rwa [show k * 14 + (j + 3) = k * 14 + 3 + j by omega] at this
end
def rs6_A : List (List Nat) := ([] :: [] :: [0, 1] :: [2, 0, 1] :: [3, 2, 0, 1] :: [] :: [] :: [5, 6] :: [7, 5, 6] :: [8, 7, 5, 6] :: (4 :: 9 :: 3 :: 2 :: 0 :: 1 :: 8 :: 7 :: 5 :: 6 :: []) :: (10 :: 4 :: 9 :: 3 :: 2 :: 0 :: 1 :: 8 :: 7 :: 5 :: 6 :: []) :: (11 :: 10 :: 4 :: 9 :: 3 :: 2 :: 0 :: 1 :: 8 :: 7 :: 5 :: 6 :: []) :: (11 :: 10 :: 4 :: 9 :: 3 :: 2 :: 0 :: 1 :: 8 :: 7 :: 5 :: 6 :: []) :: (12 :: 13 :: 11 :: 10 :: 4 :: 9 :: 3 :: 2 :: 0 :: 1 :: 8 :: 7 :: 5 :: 6 :: []) :: (14 :: 11 :: 12 :: 13 :: 10 :: 4 :: 9 :: 3 :: 2 :: 0 :: 1 :: 8 :: 7 :: 5 :: 6 :: []) :: (15 :: 11 :: 14 :: 12 :: 13 :: 10 :: 4 :: 9 :: 3 :: 2 :: 0 :: 1 :: 8 :: 7 :: 5 :: 6 :: []) :: (11 :: 10 :: 4 :: 9 :: 3 :: 2 :: 0 :: 1 :: 8 :: 7 :: 5 :: 6 :: []) :: (11 :: 10 :: 4 :: 9 :: 3 :: 2 :: 0 :: 1 :: 8 :: 7 :: 5 :: 6 :: []) :: (17 :: 18 :: 11 :: 10 :: 4 :: 9 :: 3 :: 2 :: 0 :: 1 :: 8 :: 7 :: 5 :: 6 :: []) :: (19 :: 11 :: 17 :: 18 :: 10 :: 4 :: 9 :: 3 :: 2 :: 0 :: 1 :: 8 :: 7 :: 5 :: 6 :: []) :: (20 :: 11 :: 19 :: 17 :: 18 :: 10 :: 4 :: 9 :: 3 :: 2 :: 0 :: 1 :: 8 :: 7 :: 5 :: 6 :: []) :: (16 :: 21 :: 11 :: 15 :: 14 :: 12 :: 13 :: 10 :: 4 :: 9 :: 3 :: 2 :: 0 :: 1 :: 8 :: 7 :: 5 :: 6 :: 20 :: 19 :: 17 :: 18 :: []) :: (11 :: 22 :: 10 :: 4 :: 9 :: 3 :: 2 :: 0 :: 1 :: 8 :: 7 :: 5 :: 6 :: 16 :: 21 :: 15 :: 14 :: 12 :: 13 :: 20 :: 19 :: 17 :: 18 :: []) :: (23 :: 11 :: 22 :: 10 :: 4 :: 9 :: 3 :: 2 :: 0 :: 1 :: 8 :: 7 :: 5 :: 6 :: 16 :: 21 :: 15 :: 14 :: 12 :: 13 :: 20 :: 19 :: 17 :: 18 :: []) :: (24 :: 23 :: 11 :: 22 :: 10 :: 4 :: 9 :: 3 :: 2 :: 0 :: 1 :: 8 :: 7 :: 5 :: 6 :: 16 :: 21 :: 15 :: 14 :: 12 :: 13 :: 20 :: 19 :: 17 :: 18 :: []) :: (24 :: 23 :: 11 :: 22 :: 10 :: 4 :: 9 :: 3 :: 2 :: 0 :: 1 :: 8 :: 7 :: 5 :: 6 :: 16 :: 21 :: 15 :: 14 :: 12 :: 13 :: 20 :: 19 :: 17 :: 18 :: []) :: (25 :: 26 :: 24 :: 23 :: 11 :: 22 :: 10 :: 4 :: 9 :: 3 :: 2 :: 0 :: 1 :: 8 :: 7 :: 5 :: 6 :: 16 :: 21 :: 15 :: 14 :: 12 :: 13 :: 20 :: 19 :: 17 :: 18 :: []) :: (27 :: 24 :: 25 :: 26 :: 23 :: 11 :: 22 :: 10 :: 4 :: 9 :: 3 :: 2 :: 0 :: 1 :: 8 :: 7 :: 5 :: 6 :: 16 :: 21 :: 15 :: 14 :: 12 :: 13 :: 20 :: 19 :: 17 :: 18 :: []) :: (28 :: 24 :: 27 :: 25 :: 26 :: 23 :: 11 :: 22 :: 10 :: 4 :: 9 :: 3 :: 2 :: 0 :: 1 :: 8 :: 7 :: 5 :: 6 :: 16 :: 21 :: 15 :: 14 :: 12 :: 13 :: 20 :: 19 :: 17 :: 18 :: []) :: (24 :: 23 :: 11 :: 22 :: 10 :: 4 :: 9 :: 3 :: 2 :: 0 :: 1 :: 8 :: 7 :: 5 :: 6 :: 16 :: 21 :: 15 :: 14 :: 12 :: 13 :: 20 :: 19 :: 17 :: 18 :: []) :: (24 :: 23 :: 11 :: 22 :: 10 :: 4 :: 9 :: 3 :: 2 :: 0 :: 1 :: 8 :: 7 :: 5 :: 6 :: 16 :: 21 :: 15 :: 14 :: 12 :: 13 :: 20 :: 19 :: 17 :: 18 :: []) :: (30 :: 31 :: 24 :: 23 :: 11 :: 22 :: 10 :: 4 :: 9 :: 3 :: 2 :: 0 :: 1 :: 8 :: 7 :: 5 :: 6 :: 16 :: 21 :: 15 :: 14 :: 12 :: 13 :: 20 :: 19 :: 17 :: 18 :: []) :: (32 :: 24 :: 30 :: 31 :: 23 :: 11 :: 22 :: 10 :: 4 :: 9 :: 3 :: 2 :: 0 :: 1 :: 8 :: 7 :: 5 :: 6 :: 16 :: 21 :: 15 :: 14 :: 12 :: 13 :: 20 :: 19 :: 17 :: 18 :: []) :: (33 :: 24 :: 32 :: 30 :: 31 :: 23 :: 11 :: 22 :: 10 :: 4 :: 9 :: 3 :: 2 :: 0 :: 1 :: 8 :: 7 :: 5 :: 6 :: 16 :: 21 :: 15 :: 14 :: 12 :: 13 :: 20 :: 19 :: 17 :: 18 :: []) :: (29 :: 34 :: 24 :: 28 :: 27 :: 25 :: 26 :: 23 :: 11 :: 22 :: 10 :: 4 :: 9 :: 3 :: 2 :: 0 :: 1 :: 8 :: 7 :: 5 :: 6 :: 16 :: 21 :: 15 :: 14 :: 12 :: 13 :: 20 :: 19 :: 17 :: 18 :: 33 :: 32 :: 30 :: 31 :: []) :: (24 :: 35 :: 23 :: 11 :: 22 :: 10 :: 4 :: 9 :: 3 :: 2 :: 0 :: 1 :: 8 :: 7 :: 5 :: 6 :: 16 :: 21 :: 15 :: 14 :: 12 :: 13 :: 20 :: 19 :: 17 :: 18 :: 29 :: 34 :: 28 :: 27 :: 25 :: 26 :: 33 :: 32 :: 30 :: 31 :: []) :: (36 :: 24 :: 35 :: 23 :: 11 :: 22 :: 10 :: 4 :: 9 :: 3 :: 2 :: 0 :: 1 :: 8 :: 7 :: 5 :: 6 :: 16 :: 21 :: 15 :: 14 :: 12 :: 13 :: 20 :: 19 :: 17 :: 18 :: 29 :: 34 :: 28 :: 27 :: 25 :: 26 :: 33 :: 32 :: 30 :: 31 :: []) :: (37 :: 36 :: 24 :: 35 :: 23 :: 11 :: 22 :: 10 :: 4 :: 9 :: 3 :: 2 :: 0 :: 1 :: 8 :: 7 :: 5 :: 6 :: 16 :: 21 :: 15 :: 14 :: 12 :: 13 :: 20 :: 19 :: 17 :: 18 :: 29 :: 34 :: 28 :: 27 :: 25 :: 26 :: 33 :: 32 :: 30 :: 31 :: []) :: (37 :: 36 :: 24 :: 35 :: 23 :: 11 :: 22 :: 10 :: 4 :: 9 :: 3 :: 2 :: 0 :: 1 :: 8 :: 7 :: 5 :: 6 :: 16 :: 21 :: 15 :: 14 :: 12 :: 13 :: 20 :: 19 :: 17 :: 18 :: 29 :: 34 :: 28 :: 27 :: 25 :: 26 :: 33 :: 32 :: 30 :: 31 :: []) :: (38 :: 39 :: 37 :: 36 :: 24 :: 35 :: 23 :: 11 :: 22 :: 10 :: 4 :: 9 :: 3 :: 2 :: 0 :: 1 :: 8 :: 7 :: 5 :: 6 :: 16 :: 21 :: 15 :: 14 :: 12 :: 13 :: 20 :: 19 :: 17 :: 18 :: 29 :: 34 :: 28 :: 27 :: 25 :: 26 :: 33 :: 32 :: 30 :: 31 :: []) :: (40 :: 37 :: 38 :: 39 :: 36 :: 24 :: 35 :: 23 :: 11 :: 22 :: 10 :: 4 :: 9 :: 3 :: 2 :: 0 :: 1 :: 8 :: 7 :: 5 :: 6 :: 16 :: 21 :: 15 :: 14 :: 12 :: 13 :: 20 :: 19 :: 17 :: 18 :: 29 :: 34 :: 28 :: 27 :: 25 :: 26 :: 33 :: 32 :: 30 :: 31 :: []) :: (41 :: 37 :: 40 :: 38 :: 39 :: 36 :: 24 :: 35 :: 23 :: 11 :: 22 :: 10 :: 4 :: 9 :: 3 :: 2 :: 0 :: 1 :: 8 :: 7 :: 5 :: 6 :: 16 :: 21 :: 15 :: 14 :: 12 :: 13 :: 20 :: 19 :: 17 :: 18 :: 29 :: 34 :: 28 :: 27 :: 25 :: 26 :: 33 :: 32 :: 30 :: 31 :: []) :: (42 :: 37 :: 41 :: 40 :: 38 :: 39 :: 36 :: 24 :: 35 :: 23 :: 11 :: 22 :: 10 :: 4 :: 9 :: 3 :: 2 :: 0 :: 1 :: 8 :: 7 :: 5 :: 6 :: 16 :: 21 :: 15 :: 14 :: 12 :: 13 :: 20 :: 19 :: 17 :: 18 :: 29 :: 34 :: 28 :: 27 :: 25 :: 26 :: 33 :: 32 :: 30 :: 31 :: []) :: (37 :: 36 :: 24 :: 35 :: 23 :: 11 :: 22 :: 10 :: 4 :: 9 :: 3 :: 2 :: 0 :: 1 :: 8 :: 7 :: 5 :: 6 :: 16 :: 21 :: 15 :: 14 :: 12 :: 13 :: 20 :: 19 :: 17 :: 18 :: 29 :: 34 :: 28 :: 27 :: 25 :: 26 :: 33 :: 32 :: 30 :: 31 :: []) :: (37 :: 36 :: 24 :: 35 :: 23 :: 11 :: 22 :: 10 :: 4 :: 9 :: 3 :: 2 :: 0 :: 1 :: 8 :: 7 :: 5 :: 6 :: 16 :: 21 :: 15 :: 14 :: 12 :: 13 :: 20 :: 19 :: 17 :: 18 :: 29 :: 34 :: 28 :: 27 :: 25 :: 26 :: 33 :: 32 :: 30 :: 31 :: []) :: (44 :: 45 :: 37 :: 36 :: 24 :: 35 :: 23 :: 11 :: 22 :: 10 :: 4 :: 9 :: 3 :: 2 :: 0 :: 1 :: 8 :: 7 :: 5 :: 6 :: 16 :: 21 :: 15 :: 14 :: 12 :: 13 :: 20 :: 19 :: 17 :: 18 :: 29 :: 34 :: 28 :: 27 :: 25 :: 26 :: 33 :: 32 :: 30 :: 31 :: []) :: (46 :: 37 :: 44 :: 45 :: 36 :: 24 :: 35 :: 23 :: 11 :: 22 :: 10 :: 4 :: 9 :: 3 :: 2 :: 0 :: 1 :: 8 :: 7 :: 5 :: 6 :: 16 :: 21 :: 15 :: 14 :: 12 :: 13 :: 20 :: 19 :: 17 :: 18 :: 29 :: 34 :: 28 :: 27 :: 25 :: 26 :: 33 :: 32 :: 30 :: 31 :: []) :: (47 :: 37 :: 46 :: 44 :: 45 :: 36 :: 24 :: 35 :: 23 :: 11 :: 22 :: 10 :: 4 :: 9 :: 3 :: 2 :: 0 :: 1 :: 8 :: 7 :: 5 :: 6 :: 16 :: 21 :: 15 :: 14 :: 12 :: 13 :: 20 :: 19 :: 17 :: 18 :: 29 :: 34 :: 28 :: 27 :: 25 :: 26 :: 33 :: 32 :: 30 :: 31 :: []) :: (43 :: 48 :: 37 :: 42 :: 41 :: 40 :: 38 :: 39 :: 36 :: 24 :: 35 :: 23 :: 11 :: 22 :: 10 :: 4 :: 9 :: 3 :: 2 :: 0 :: 1 :: 8 :: 7 :: 5 :: 6 :: 16 :: 21 :: 15 :: 14 :: 12 :: 13 :: 20 :: 19 :: 17 :: 18 :: 29 :: 34 :: 28 :: 27 :: 25 :: 26 :: 33 :: 32 :: 30 :: 31 :: 47 :: 46 :: 44 :: 45 :: []) :: (49 :: 37 :: 43 :: 48 :: 42 :: 41 :: 40 :: 38 :: 39 :: 36 :: 24 :: 35 :: 23 :: 11 :: 22 :: 10 :: 4 :: 9 :: 3 :: 2 :: 0 :: 1 :: 8 :: 7 :: 5 :: 6 :: 16 :: 21 :: 15 :: 14 :: 12 :: 13 :: 20 :: 19 :: 17 :: 18 :: 29 :: 34 :: 28 :: 27 :: 25 :: 26 :: 33 :: 32 :: 30 :: 31 :: 47 :: 46 :: 44 :: 45 :: []) :: (37 :: 50 :: 36 :: 24 :: 35 :: 23 :: 11 :: 22 :: 10 :: 4 :: 9 :: 3 :: 2 :: 0 :: 1 :: 8 :: 7 :: 5 :: 6 :: 16 :: 21 :: 15 :: 14 :: 12 :: 13 :: 20 :: 19 :: 17 :: 18 :: 29 :: 34 :: 28 :: 27 :: 25 :: 26 :: 33 :: 32 :: 30 :: 31 :: 49 :: 43 :: 48 :: 42 :: 41 :: 40 :: 38 :: 39 :: 47 :: 46 :: 44 :: 45 :: []) :: [])
def rs6_kill : List (List Nat) := ([] :: [] :: [] :: [] :: [] :: [] :: [] :: [] :: [] :: [] :: [] :: [] :: [] :: [] :: [] :: [] :: [] :: [] :: [] :: [] :: [] :: [] :: [] :: [] :: [] :: [] :: [] :: [] :: [] :: [] :: [] :: [] :: [] :: [] :: [] :: [] :: [] :: [] :: [] :: [] :: [] :: [] :: [] :: [] :: [] :: [] :: [] :: [] :: [] :: [] :: [] :: [] :: [])
def rs6_uses : List (List Nat) := ([] :: [] :: [] :: [] :: [] :: [] :: [] :: [] :: [] :: [] :: [] :: [] :: [] :: [] :: [] :: [] :: [] :: [] :: [] :: [] :: [] :: [] :: [] :: [] :: [] :: [] :: [] :: [] :: [] :: [] :: [] :: [] :: [] :: [] :: [] :: [] :: [] :: [] :: [] :: [] :: [] :: [] :: [] :: [] :: [] :: [] :: [] :: [] :: [] :: [43] :: [] :: [] :: [])
noncomputable def rs6_code : Code := ((Try.f27.body.bind (codeRegion 6)).getD .skip)
set_option maxRecDepth 100000 in
set_option maxHeartbeats 4000000 in
theorem rs6_in (g g2 k n c c2 : Nat) (gp : Bool) (fa fz : Nat) (p : Pk) (cs ds : List Value) (w0 : World) (hk : k < n) (hn : n ≤ 1000) (hsz1 : (Try.prog.info? 42).map (·.size) = some cs.length) (hsz2 : (Try.prog.info? 74).map (·.size) = some ds.length) (hd : ∀ w1, Only (fun _ => False) w0 w1 → Calls Try.prog 26 #[.agg cs.toArray] w1 (GotRd p w1)) (hs : ∀ w1 vc ve vp, Only (fun _ => False) w0 w1 → RdPk p vc ve vp w1 → Calls Try.prog 39 #[.agg (p.cls vc ve vp), .agg ds.toArray] w1 (SaysO (.bool true) w1)) (u2 u3 u4 u6 u7 u8 u9 u10 u11 u12 u13 u14 u15 u16 u17 u18 u19 u20 u21 u22 u23 u24 u25 u26 u27 u28 u29 u30 u31 u32 u33 u34 u35 u36 u37 u38 u39 u40 u41 u42 u43 u44 u45 u46 u47 u48 u49 u50 u51 u52 u53 u54 u55 u56 u57 u58 u59 u60 u61 u62 u63 u64 u65 u66 u67 u68 u69 u70 u71 u72 u73 u74 u75 u76 u77 u78 : Value) (w : World) (hG : Sm g g2 k gp fa fz cs ds w0 w) :
    Code.wp Try.prog rs6_code (fun e a w' => ∃ y17 y18 y19 y20 y21 y22 y23 y24 y25 y26 y27 y28 y29 y30 y31 y32 y33 y34 y35 y36 y37 y38 y39 y40 y41 y42 y43 y44 y45 y46 y47 y48 y49 y50 y51 y52 y53 y54 y55 y56 y57 y58 y59 y60 y61 y62 y63 y64 y65 y66 y67 : Value, a = ⟨(List.toArray (.slice (some ⟨g, 0, none⟩) n c :: .slice (some ⟨g2, 0, none⟩) n c2 :: u2 :: u3 :: u4 :: .int .i64 (k : Int) :: u6 :: u7 :: u8 :: u9 :: u10 :: u11 :: u12 :: u13 :: u14 :: u15 :: u16 :: y17 :: y18 :: y19 :: y20 :: y21 :: y22 :: y23 :: y24 :: y25 :: y26 :: y27 :: y28 :: y29 :: y30 :: y31 :: y32 :: y33 :: y34 :: y35 :: y36 :: y37 :: y38 :: y39 :: y40 :: y41 :: y42 :: y43 :: y44 :: y45 :: y46 :: y47 :: y48 :: y49 :: y50 :: y51 :: y52 :: y53 :: y54 :: y55 :: y56 :: y57 :: y58 :: y59 :: y60 :: y61 :: y62 :: y63 :: y64 :: y65 :: y66 :: y67 :: (.bool false) :: u69 :: u70 :: u71 :: u72 :: u73 :: u74 :: u75 :: u76 :: u77 :: u78 :: [])), []⟩ ∧ e = .normal ∧ (Sm g g2 k gp fa fz cs ds w0 w')) ⟨(List.toArray (.slice (some ⟨g, 0, none⟩) n c :: .slice (some ⟨g2, 0, none⟩) n c2 :: u2 :: u3 :: u4 :: .int .i64 (k : Int) :: u6 :: u7 :: u8 :: u9 :: u10 :: u11 :: u12 :: u13 :: u14 :: u15 :: u16 :: u17 :: u18 :: u19 :: u20 :: u21 :: u22 :: u23 :: u24 :: u25 :: u26 :: u27 :: u28 :: u29 :: u30 :: u31 :: u32 :: u33 :: u34 :: u35 :: u36 :: u37 :: u38 :: u39 :: u40 :: u41 :: u42 :: u43 :: u44 :: u45 :: u46 :: u47 :: u48 :: u49 :: u50 :: u51 :: u52 :: u53 :: u54 :: u55 :: u56 :: u57 :: u58 :: u59 :: u60 :: u61 :: u62 :: u63 :: u64 :: u65 :: u66 :: u67 :: u68 :: u69 :: u70 :: u71 :: u72 :: u73 :: u74 :: u75 :: u76 :: u77 :: u78 :: [])), []⟩ w := by
  conv => arg 2; whnf
  have HD := Lib.hid hd
  have HS := Lib.hid hs
  clear hd hs
  have hkI : (k : Int) < (n : Int) := by omega
  refine wp_region_posts rs6_A [43, 49] [43] rs6_kill rs6_uses [] [] [] []
      (some ?v0 :: some ?v1 :: some ?v2 :: some ?v3 :: some ?v4 :: some ?v5 :: some ?v6 :: some ?v7 :: some ?v8 :: some ?v9 :: some (.bool false) :: some ?v11 :: some ?v12 :: some ?v13 :: some ?v14 :: some ?v15 :: some ?v16 :: some ?v17 :: some ?v18 :: some ?v19 :: some ?v20 :: some ?v21 :: some (.bool false) :: some ?v23 :: some ?v24 :: some ?v25 :: some ?v26 :: some ?v27 :: some ?v28 :: some ?v29 :: some ?v30 :: some ?v31 :: some ?v32 :: some ?v33 :: some ?v34 :: some (.bool false) :: some ?v36 :: some ?v37 :: some ?v38 :: some ?v39 :: some ?v40 :: some ?v41 :: some ((.agg cs.toArray)) :: none :: some ?v44 :: some ?v45 :: some ?v46 :: some ?v47 :: some ((.agg ds.toArray)) :: some (.bool true) :: some (.bool false) :: some ?v51 :: [])
      ?T (fun wx => Sm g g2 k gp fa fz cs ds w0 wx) ?W ?E (by kernel_rfl) (by kernel_rfl) (by kernel_rfl) (fun x => ?hT) ?hF ?hini (Reg.all_ops ?runs) ?pres ?fin
  case W => exact fun j x wz => match j with | 43 => ∃ vc ve vp, x 43 = .agg (p.cls vc ve vp) ∧ RdPk p vc ve vp wz | _ => True
  case E => exact fun i wx wy => Only (fun _ => False) wx wy
  case hT =>
    simp only [Reg.fillV, Act.put, List.setIfInBounds_toArray, List.set_cons_zero, List.set_cons_succ]
    rfl
  case runs =>
    refine And.intro ?_ ?_
    · refine Reg.ob_pure (fun _ => rfl) rfl rfl rfl rfl (fun x w1 hF => ?_)
      have a0 := hF.a0
      have a1 := hF.a1
      have a2 := hF.a2
      have b0 := hF.b0
      have b1 := hF.b1
      have b2 := hF.b2
      go_simp
      with_reducible rfl
    refine And.intro ?_ ?_
    · refine Reg.ob_pure (fun _ => rfl) rfl rfl rfl rfl (fun x w1 hF => ?_)
      have a0 := hF.a0
      have a1 := hF.a1
      have a2 := hF.a2
      have b0 := hF.b0
      have b1 := hF.b1
      have b2 := hF.b2
      go_simp
      with_reducible rfl
    refine And.intro ?_ ?_
    · refine Reg.ob_pure (fun _ => rfl) rfl rfl rfl rfl (fun x w1 hF => ?_)
      have a0 := hF.a0
      have a1 := hF.a1
      have a2 := hF.a2
      have b0 := hF.b0
      have b1 := hF.b1
      have b2 := hF.b2
      go_simp
      with_reducible rfl
    refine And.intro ?_ ?_
    · refine Reg.ob_pure (fun _ => rfl) rfl rfl rfl rfl (fun x w1 hF => ?_)
      have a0 := hF.a0
      have a1 := hF.a1
      have a2 := hF.a2
      have b0 := hF.b0
      have b1 := hF.b1
      have b2 := hF.b2
      go_simp
      with_reducible rfl
    refine And.intro ?_ ?_
    · refine Reg.ob_pure (fun _ => rfl) rfl rfl rfl rfl (fun x w1 hF => ?_)
      have a0 := hF.a0
      have a1 := hF.a1
      have a2 := hF.a2
      have b0 := hF.b0
      have b1 := hF.b1
      have b2 := hF.b2
      go_simp
      with_reducible rfl
    refine And.intro ?_ ?_
    · refine Reg.ob_pure (fun _ => rfl) rfl rfl rfl rfl (fun x w1 hF => ?_)
      have a0 := hF.a0
      have a1 := hF.a1
      have a2 := hF.a2
      have b0 := hF.b0
      have b1 := hF.b1
      have b2 := hF.b2
      go_simp
      with_reducible rfl
    refine And.intro ?_ ?_
    · refine Reg.ob_pure (fun _ => rfl) rfl rfl rfl rfl (fun x w1 hF => ?_)
      have a0 := hF.a0
      have a1 := hF.a1
      have a2 := hF.a2
      have b0 := hF.b0
      have b1 := hF.b1
      have b2 := hF.b2
      go_simp
      with_reducible rfl
    refine And.intro ?_ ?_
    · refine Reg.ob_pure (fun _ => rfl) rfl rfl rfl rfl (fun x w1 hF => ?_)
      have a0 := hF.a0
      have a1 := hF.a1
      have a2 := hF.a2
      have b0 := hF.b0
      have b1 := hF.b1
      have b2 := hF.b2
      go_simp
      with_reducible rfl
    refine And.intro ?_ ?_
    · refine Reg.ob_pure (fun _ => rfl) rfl rfl rfl rfl (fun x w1 hF => ?_)
      have a0 := hF.a0
      have a1 := hF.a1
      have a2 := hF.a2
      have b0 := hF.b0
      have b1 := hF.b1
      have b2 := hF.b2
      go_simp
      with_reducible rfl
    refine And.intro ?_ ?_
    · refine Reg.ob_pure (fun _ => rfl) rfl rfl rfl rfl (fun x w1 hF => ?_)
      have a0 := hF.a0
      have a1 := hF.a1
      have a2 := hF.a2
      have b0 := hF.b0
      have b1 := hF.b1
      have b2 := hF.b2
      go_simp
      with_reducible rfl
    refine And.intro ?_ ?_
    · refine Reg.ob_pure (fun _ => rfl) rfl rfl rfl rfl (fun x w1 hF => ?_)
      go_simp
    refine And.intro ?_ ?_
    · refine Reg.ob_pure (fun _ => rfl) rfl rfl rfl rfl (fun x w1 hF => ?_)
      have a0 := hF.a0
      have a1 := hF.a1
      have a2 := hF.a2
      have b0 := hF.b0
      have b1 := hF.b1
      have b2 := hF.b2
      go_simp
      with_reducible rfl
    refine And.intro ?_ ?_
    · refine Reg.ob_pure (fun _ => rfl) rfl rfl rfl rfl (fun x w1 hF => ?_)
      have a0 := hF.a0
      have a1 := hF.a1
      have a2 := hF.a2
      have b0 := hF.b0
      have b1 := hF.b1
      have b2 := hF.b2
      go_simp
      with_reducible rfl
    refine And.intro ?_ ?_
    · refine Reg.ob_pure (fun _ => rfl) rfl rfl rfl rfl (fun x w1 hF => ?_)
      have a0 := hF.a0
      have a1 := hF.a1
      have a2 := hF.a2
      have b0 := hF.b0
      have b1 := hF.b1
      have b2 := hF.b2
      go_simp
      with_reducible rfl
    refine And.intro ?_ ?_
    · refine Reg.ob_pure (fun _ => rfl) rfl rfl rfl rfl (fun x w1 hF => ?_)
      have a0 := hF.a0
      have a1 := hF.a1
      have a2 := hF.a2
      have b0 := hF.b0
      have b1 := hF.b1
      have b2 := hF.b2
      go_simp
      with_reducible rfl
    refine And.intro ?_ ?_
    · refine Reg.ob_pure (fun _ => rfl) rfl rfl rfl rfl (fun x w1 hF => ?_)
      have a0 := hF.a0
      have a1 := hF.a1
      have a2 := hF.a2
      have b0 := hF.b0
      have b1 := hF.b1
      have b2 := hF.b2
      go_simp
      with_reducible rfl
    refine And.intro ?_ ?_
    · refine Reg.ob_pure (fun _ => rfl) rfl rfl rfl rfl (fun x w1 hF => ?_)
      have a0 := hF.a0
      have a1 := hF.a1
      have a2 := hF.a2
      have b0 := hF.b0
      have b1 := hF.b1
      have b2 := hF.b2
      go_simp
      with_reducible rfl
    refine And.intro ?_ ?_
    · refine Reg.ob_pure (fun _ => rfl) rfl rfl rfl rfl (fun x w1 hF => ?_)
      have a0 := hF.a0
      have a1 := hF.a1
      have a2 := hF.a2
      have b0 := hF.b0
      have b1 := hF.b1
      have b2 := hF.b2
      go_simp
      with_reducible rfl
    refine And.intro ?_ ?_
    · refine Reg.ob_pure (fun _ => rfl) rfl rfl rfl rfl (fun x w1 hF => ?_)
      have a0 := hF.a0
      have a1 := hF.a1
      have a2 := hF.a2
      have b0 := hF.b0
      have b1 := hF.b1
      have b2 := hF.b2
      go_simp
      with_reducible rfl
    refine And.intro ?_ ?_
    · refine Reg.ob_pure (fun _ => rfl) rfl rfl rfl rfl (fun x w1 hF => ?_)
      have a0 := hF.a0
      have a1 := hF.a1
      have a2 := hF.a2
      have b0 := hF.b0
      have b1 := hF.b1
      have b2 := hF.b2
      go_simp
      with_reducible rfl
    refine And.intro ?_ ?_
    · refine Reg.ob_pure (fun _ => rfl) rfl rfl rfl rfl (fun x w1 hF => ?_)
      have a0 := hF.a0
      have a1 := hF.a1
      have a2 := hF.a2
      have b0 := hF.b0
      have b1 := hF.b1
      have b2 := hF.b2
      go_simp
      with_reducible rfl
    refine And.intro ?_ ?_
    · refine Reg.ob_pure (fun _ => rfl) rfl rfl rfl rfl (fun x w1 hF => ?_)
      have a0 := hF.a0
      have a1 := hF.a1
      have a2 := hF.a2
      have b0 := hF.b0
      have b1 := hF.b1
      have b2 := hF.b2
      go_simp
      with_reducible rfl
    refine And.intro ?_ ?_
    · refine Reg.ob_pure (fun _ => rfl) rfl rfl rfl rfl (fun x w1 hF => ?_)
      go_simp
    refine And.intro ?_ ?_
    · refine Reg.ob_pure (fun _ => rfl) rfl rfl rfl rfl (fun x w1 hF => ?_)
      have a0 := hF.a0
      have a1 := hF.a1
      have a2 := hF.a2
      have b0 := hF.b0
      have b1 := hF.b1
      have b2 := hF.b2
      go_simp
      with_reducible rfl
    refine And.intro ?_ ?_
    · refine Reg.ob_pure (fun _ => rfl) rfl rfl rfl rfl (fun x w1 hF => ?_)
      have a0 := hF.a0
      have a1 := hF.a1
      have a2 := hF.a2
      have b0 := hF.b0
      have b1 := hF.b1
      have b2 := hF.b2
      go_simp
      with_reducible rfl
    refine And.intro ?_ ?_
    · refine Reg.ob_pure (fun _ => rfl) rfl rfl rfl rfl (fun x w1 hF => ?_)
      have a0 := hF.a0
      have a1 := hF.a1
      have a2 := hF.a2
      have b0 := hF.b0
      have b1 := hF.b1
      have b2 := hF.b2
      go_simp
      with_reducible rfl
    refine And.intro ?_ ?_
    · refine Reg.ob_pure (fun _ => rfl) rfl rfl rfl rfl (fun x w1 hF => ?_)
      have a0 := hF.a0
      have a1 := hF.a1
      have a2 := hF.a2
      have b0 := hF.b0
      have b1 := hF.b1
      have b2 := hF.b2
      go_simp
      with_reducible rfl
    refine And.intro ?_ ?_
    · refine Reg.ob_pure (fun _ => rfl) rfl rfl rfl rfl (fun x w1 hF => ?_)
      have a0 := hF.a0
      have a1 := hF.a1
      have a2 := hF.a2
      have b0 := hF.b0
      have b1 := hF.b1
      have b2 := hF.b2
      go_simp
      with_reducible rfl
    refine And.intro ?_ ?_
    · refine Reg.ob_pure (fun _ => rfl) rfl rfl rfl rfl (fun x w1 hF => ?_)
      have a0 := hF.a0
      have a1 := hF.a1
      have a2 := hF.a2
      have b0 := hF.b0
      have b1 := hF.b1
      have b2 := hF.b2
      go_simp
      with_reducible rfl
    refine And.intro ?_ ?_
    · refine Reg.ob_pure (fun _ => rfl) rfl rfl rfl rfl (fun x w1 hF => ?_)
      have a0 := hF.a0
      have a1 := hF.a1
      have a2 := hF.a2
      have b0 := hF.b0
      have b1 := hF.b1
      have b2 := hF.b2
      go_simp
      with_reducible rfl
    refine And.intro ?_ ?_
    · refine Reg.ob_pure (fun _ => rfl) rfl rfl rfl rfl (fun x w1 hF => ?_)
      have a0 := hF.a0
      have a1 := hF.a1
      have a2 := hF.a2
      have b0 := hF.b0
      have b1 := hF.b1
      have b2 := hF.b2
      go_simp
      with_reducible rfl
    refine And.intro ?_ ?_
    · refine Reg.ob_pure (fun _ => rfl) rfl rfl rfl rfl (fun x w1 hF => ?_)
      have a0 := hF.a0
      have a1 := hF.a1
      have a2 := hF.a2
      have b0 := hF.b0
      have b1 := hF.b1
      have b2 := hF.b2
      go_simp
      with_reducible rfl
    refine And.intro ?_ ?_
    · refine Reg.ob_pure (fun _ => rfl) rfl rfl rfl rfl (fun x w1 hF => ?_)
      have a0 := hF.a0
      have a1 := hF.a1
      have a2 := hF.a2
      have b0 := hF.b0
      have b1 := hF.b1
      have b2 := hF.b2
      go_simp
      with_reducible rfl
    refine And.intro ?_ ?_
    · refine Reg.ob_pure (fun _ => rfl) rfl rfl rfl rfl (fun x w1 hF => ?_)
      have a0 := hF.a0
      have a1 := hF.a1
      have a2 := hF.a2
      have b0 := hF.b0
      have b1 := hF.b1
      have b2 := hF.b2
      go_simp
      with_reducible rfl
    refine And.intro ?_ ?_
    · refine Reg.ob_pure (fun _ => rfl) rfl rfl rfl rfl (fun x w1 hF => ?_)
      have a0 := hF.a0
      have a1 := hF.a1
      have a2 := hF.a2
      have b0 := hF.b0
      have b1 := hF.b1
      have b2 := hF.b2
      go_simp
      with_reducible rfl
    refine And.intro ?_ ?_
    · refine Reg.ob_pure (fun _ => rfl) rfl rfl rfl rfl (fun x w1 hF => ?_)
      go_simp
    refine And.intro ?_ ?_
    · refine Reg.ob_pure (fun _ => rfl) rfl rfl rfl rfl (fun x w1 hF => ?_)
      have a0 := hF.a0
      have a1 := hF.a1
      have a2 := hF.a2
      have b0 := hF.b0
      have b1 := hF.b1
      have b2 := hF.b2
      go_simp
      with_reducible rfl
    refine And.intro ?_ ?_
    · refine Reg.ob_pure (fun _ => rfl) rfl rfl rfl rfl (fun x w1 hF => ?_)
      have a0 := hF.a0
      have a1 := hF.a1
      have a2 := hF.a2
      have b0 := hF.b0
      have b1 := hF.b1
      have b2 := hF.b2
      go_simp
      with_reducible rfl
    refine And.intro ?_ ?_
    · refine Reg.ob_pure (fun _ => rfl) rfl rfl rfl rfl (fun x w1 hF => ?_)
      have a0 := hF.a0
      have a1 := hF.a1
      have a2 := hF.a2
      have b0 := hF.b0
      have b1 := hF.b1
      have b2 := hF.b2
      go_simp
      with_reducible rfl
    refine And.intro ?_ ?_
    · refine Reg.ob_pure (fun _ => rfl) rfl rfl rfl rfl (fun x w1 hF => ?_)
      have a0 := hF.a0
      have a1 := hF.a1
      have a2 := hF.a2
      have b0 := hF.b0
      have b1 := hF.b1
      have b2 := hF.b2
      go_simp
      with_reducible rfl
    refine And.intro ?_ ?_
    · refine Reg.ob_pure (fun _ => rfl) rfl rfl rfl rfl (fun x w1 hF => ?_)
      have a0 := hF.a0
      have a1 := hF.a1
      have a2 := hF.a2
      have b0 := hF.b0
      have b1 := hF.b1
      have b2 := hF.b2
      go_simp
      with_reducible rfl
    refine And.intro ?_ ?_
    · refine Reg.ob_pure (fun _ => rfl) rfl rfl rfl rfl (fun x w1 hF => ?_)
      have a0 := hF.a0
      have a1 := hF.a1
      have a2 := hF.a2
      have b0 := hF.b0
      have b1 := hF.b1
      have b2 := hF.b2
      go_simp
      with_reducible rfl
    refine And.intro ?_ ?_
    · refine Reg.ob_known (fun _ => rfl) rfl rfl (fun x w1 hF hU K hK => ?_)
      refine wp_load_mid 42 _ rfl g (k * 14 + 3) rfl cs _ (hF rfl).a3 Try.underlying42 rfl hsz1 ?_
      exact hK w1 (fun h _ _ => absurd h (by decide)) rfl
    refine And.intro ?_ ?_
    · refine Reg.ob_some (fun _ => rfl) rfl (fun x w1 hF hU K hK => ?_)
      replace hF := hF rfl
      go_simp
      refine (HD.out w1 hF.pure).mono ?_
      rintro e w5 ⟨vc, ve, vp, rfl, h5, ho⟩
      exact hK _ w5 (fun _ _ _ => hF.go ho) ho ⟨vc, ve, vp, rfl, h5⟩
    refine And.intro ?_ ?_
    · refine Reg.ob_pure (fun _ => rfl) rfl rfl rfl rfl (fun x w1 hF => ?_)
      have a0 := hF.a0
      have a1 := hF.a1
      have a2 := hF.a2
      have b0 := hF.b0
      have b1 := hF.b1
      have b2 := hF.b2
      go_simp
      with_reducible rfl
    refine And.intro ?_ ?_
    · refine Reg.ob_pure (fun _ => rfl) rfl rfl rfl rfl (fun x w1 hF => ?_)
      have a0 := hF.a0
      have a1 := hF.a1
      have a2 := hF.a2
      have b0 := hF.b0
      have b1 := hF.b1
      have b2 := hF.b2
      go_simp
      with_reducible rfl
    refine And.intro ?_ ?_
    · refine Reg.ob_pure (fun _ => rfl) rfl rfl rfl rfl (fun x w1 hF => ?_)
      have a0 := hF.a0
      have a1 := hF.a1
      have a2 := hF.a2
      have b0 := hF.b0
      have b1 := hF.b1
      have b2 := hF.b2
      go_simp
      with_reducible rfl
    refine And.intro ?_ ?_
    · refine Reg.ob_pure (fun _ => rfl) rfl rfl rfl rfl (fun x w1 hF => ?_)
      have a0 := hF.a0
      have a1 := hF.a1
      have a2 := hF.a2
      have b0 := hF.b0
      have b1 := hF.b1
      have b2 := hF.b2
      go_simp
      with_reducible rfl
    refine And.intro ?_ ?_
    · refine Reg.ob_known (fun _ => rfl) rfl rfl (fun x w1 hF hU K hK => ?_)
      refine wp_load_mid 74 _ rfl g2 (k * 14 + 3) rfl ds _ (hF rfl).b3 Try.underlying74 rfl hsz2 ?_
      exact hK w1 (fun h _ _ => absurd h (by decide)) rfl
    refine And.intro ?_ ?_
    · refine Reg.ob_known (fun _ => rfl) rfl rfl (fun x w1 hF hU K hK => ?_)
      replace hF := hF rfl
      obtain ⟨⟨vc, ve, vp, h43, h5⟩, -⟩ := hU
      have h43 : x 43 = .agg (p.cls vc ve vp) := h43
      revert hK
      simp only [Nat.reduceAdd, h43]
      intro hK
      go_simp
      refine (HS.out w1 vc ve vp hF.pure h5).mono ?_
      rintro e w6 ⟨rfl, ho⟩
      exact hK w6 (fun _ _ _ => hF.go ho) ho
    refine And.intro ?_ ?_
    · refine Reg.ob_pure (fun _ => rfl) rfl rfl rfl rfl (fun x w1 hF => ?_)
      go_simp
    refine And.intro ?_ ?_
    · refine Reg.ob_pure (fun _ => rfl) rfl rfl rfl rfl (fun x w1 hF => ?_)
      have a0 := hF.a0
      have a1 := hF.a1
      have a2 := hF.a2
      have b0 := hF.b0
      have b1 := hF.b1
      have b2 := hF.b2
      go_simp
      with_reducible rfl
    exact trivial
  case hF =>
    exact hG.go ((Only.refl _ _).drewN 1)
  case hini =>
    exact trivial
  case pres =>
    intro i hi j hj hc x wx wy hF hE hW
    simp only [List.mem_cons, List.mem_nil_iff, or_false] at hi hj
    rcases hi with rfl | rfl <;> rcases hj with rfl
    all_goals (obtain ⟨vc, ve, vp, h1, h2⟩ := hW; exact ⟨vc, ve, vp, h1, h2.only hE⟩)
  case fin =>
    rintro x w9 hF hU
    repeat apply Exists.intro
    exact ⟨rfl, rfl, hF rfl⟩

set_option maxRecDepth 100000 in
set_option maxHeartbeats 4000000 in
theorem rs6 (g g2 k n c c2 : Nat) (gp : Bool) (fa fz : Nat) (p : Pk) (cs ds : List Value) (w0 : World) (hk : k < n) (hn : n ≤ 1000) (hsz1 : (Try.prog.info? 42).map (·.size) = some cs.length) (hsz2 : (Try.prog.info? 74).map (·.size) = some ds.length) (hd : ∀ w1, Only (fun _ => False) w0 w1 → Calls Try.prog 26 #[.agg cs.toArray] w1 (GotRd p w1)) (hs : ∀ w1 vc ve vp, Only (fun _ => False) w0 w1 → RdPk p vc ve vp w1 → Calls Try.prog 39 #[.agg (p.cls vc ve vp), .agg ds.toArray] w1 (SaysO (.bool true) w1)) (u2 u3 u4 u6 u7 u8 u9 u10 u11 u12 u13 u14 u15 u16 u17 u18 u19 u20 u21 u22 u23 u24 u25 u26 u27 u28 u29 u30 u31 u32 u33 u34 u35 u36 u37 u38 u39 u40 u41 u42 u43 u44 u45 u46 u47 u48 u49 u50 u51 u52 u53 u54 u55 u56 u57 u58 u59 u60 u61 u62 u63 u64 u65 u66 u67 u68 u69 u70 u71 u72 u73 u74 u75 u76 u77 u78 : Value) (Q : Exit → Act → World → Prop) (w : World) (hG : Sm g g2 k gp fa fz cs ds w0 w)
    (hend : ∀ (y17 y18 y19 y20 y21 y22 y23 y24 y25 y26 y27 y28 y29 y30 y31 y32 y33 y34 y35 y36 y37 y38 y39 y40 y41 y42 y43 y44 y45 y46 y47 y48 y49 y50 y51 y52 y53 y54 y55 y56 y57 y58 y59 y60 y61 y62 y63 y64 y65 y66 y67 : Value) (w' : World), (Sm g g2 k gp fa fz cs ds w0 w') → Q .normal ⟨(List.toArray (.slice (some ⟨g, 0, none⟩) n c :: .slice (some ⟨g2, 0, none⟩) n c2 :: u2 :: u3 :: u4 :: .int .i64 (k : Int) :: u6 :: u7 :: u8 :: u9 :: u10 :: u11 :: u12 :: u13 :: u14 :: u15 :: u16 :: y17 :: y18 :: y19 :: y20 :: y21 :: y22 :: y23 :: y24 :: y25 :: y26 :: y27 :: y28 :: y29 :: y30 :: y31 :: y32 :: y33 :: y34 :: y35 :: y36 :: y37 :: y38 :: y39 :: y40 :: y41 :: y42 :: y43 :: y44 :: y45 :: y46 :: y47 :: y48 :: y49 :: y50 :: y51 :: y52 :: y53 :: y54 :: y55 :: y56 :: y57 :: y58 :: y59 :: y60 :: y61 :: y62 :: y63 :: y64 :: y65 :: y66 :: y67 :: (.bool false) :: u69 :: u70 :: u71 :: u72 :: u73 :: u74 :: u75 :: u76 :: u77 :: u78 :: [])), []⟩ w') :
    Code.wp Try.prog rs6_code Q ⟨(List.toArray (.slice (some ⟨g, 0, none⟩) n c :: .slice (some ⟨g2, 0, none⟩) n c2 :: u2 :: u3 :: u4 :: .int .i64 (k : Int) :: u6 :: u7 :: u8 :: u9 :: u10 :: u11 :: u12 :: u13 :: u14 :: u15 :: u16 :: u17 :: u18 :: u19 :: u20 :: u21 :: u22 :: u23 :: u24 :: u25 :: u26 :: u27 :: u28 :: u29 :: u30 :: u31 :: u32 :: u33 :: u34 :: u35 :: u36 :: u37 :: u38 :: u39 :: u40 :: u41 :: u42 :: u43 :: u44 :: u45 :: u46 :: u47 :: u48 :: u49 :: u50 :: u51 :: u52 :: u53 :: u54 :: u55 :: u56 :: u57 :: u58 :: u59 :: u60 :: u61 :: u62 :: u63 :: u64 :: u65 :: u66 :: u67 :: u68 :: u69 :: u70 :: u71 :: u72 :: u73 :: u74 :: u75 :: u76 :: u77 :: u78 :: [])), []⟩ w := by
  refine wp_mono (rs6_in g g2 k n c c2 gp fa fz p cs ds w0 hk hn hsz1 hsz2 hd hs _ _ _ _ _ _ _ _ _ _ _ _ _ _ _ _ _ _ _ _ _ _ _ _ _ _ _ _ _ _ _ _ _ _ _ _ _ _ _ _ _ _ _ _ _ _ _ _ _ _ _ _ _ _ _ _ _ _ _ _ _ _ _ _ _ _ _ _ _ _ _ _ _ _ _ _ w hG) ?_
  rintro e a w' h
  obtain ⟨y17, h⟩ := h
  obtain ⟨y18, h⟩ := h
  obtain ⟨y19, h⟩ := h
  obtain ⟨y20, h⟩ := h
  obtain ⟨y21, h⟩ := h
  obtain ⟨y22, h⟩ := h
  obtain ⟨y23, h⟩ := h
  obtain ⟨y24, h⟩ := h
  obtain ⟨y25, h⟩ := h
  obtain ⟨y26, h⟩ := h
  obtain ⟨y27, h⟩ := h
  obtain ⟨y28, h⟩ := h
  obtain ⟨y29, h⟩ := h
  obtain ⟨y30, h⟩ := h
  obtain ⟨y31, h⟩ := h
  obtain ⟨y32, h⟩ := h
  obtain ⟨y33, h⟩ := h
  obtain ⟨y34, h⟩ := h
  obtain ⟨y35, h⟩ := h
  obtain ⟨y36, h⟩ := h
  obtain ⟨y37, h⟩ := h
  obtain ⟨y38, h⟩ := h
  obtain ⟨y39, h⟩ := h
  obtain ⟨y40, h⟩ := h
  obtain ⟨y41, h⟩ := h
  obtain ⟨y42, h⟩ := h
  obtain ⟨y43, h⟩ := h
  obtain ⟨y44, h⟩ := h
  obtain ⟨y45, h⟩ := h
  obtain ⟨y46, h⟩ := h
  obtain ⟨y47, h⟩ := h
  obtain ⟨y48, h⟩ := h
  obtain ⟨y49, h⟩ := h
  obtain ⟨y50, h⟩ := h
  obtain ⟨y51, h⟩ := h
  obtain ⟨y52, h⟩ := h
  obtain ⟨y53, h⟩ := h
  obtain ⟨y54, h⟩ := h
  obtain ⟨y55, h⟩ := h
  obtain ⟨y56, h⟩ := h
  obtain ⟨y57, h⟩ := h
  obtain ⟨y58, h⟩ := h
  obtain ⟨y59, h⟩ := h
  obtain ⟨y60, h⟩ := h
  obtain ⟨y61, h⟩ := h
  obtain ⟨y62, h⟩ := h
  obtain ⟨y63, h⟩ := h
  obtain ⟨y64, h⟩ := h
  obtain ⟨y65, h⟩ := h
  obtain ⟨y66, h⟩ := h
  obtain ⟨y67, h⟩ := h
  obtain ⟨h, rfl, hq⟩ := h
  subst h
  exact hend y17 y18 y19 y20 y21 y22 y23 y24 y25 y26 y27 y28 y29 y30 y31 y32 y33 y34 y35 y36 y37 y38 y39 y40 y41 y42 y43 y44 y45 y46 y47 y48 y49 y50 y51 y52 y53 y54 y55 y56 y57 y58 y59 y60 y61 y62 y63 y64 y65 y66 y67 w' hq
end Go.Proofs.Ytdcclighccejhaa

/- reorder's law: same. Conditions: as it says. -/
set_option linter.unusedVariables false
set_option linter.unusedSimpArgs false
namespace Go.Proofs.Ytdcclighccejhaa
open Go Go.RowKit

/-- What goes, but for where its packets lie. -/
def It.bare (x : It) : Bool × Nat × Nat × Pk := (x.gap, x.a, x.z, x.p)
def Alike (l m : List It) : Prop := l.map It.bare = m.map It.bare
theorem Alike.length {l m : List It} (h : Alike l m) : m.length = l.length := by
  have := congrArg List.length h
  rw [List.length_map, List.length_map] at this
  exact this.symm
theorem Alike.get {l m : List It} (h : Alike l m) {i : Nat} {x : It} (hx : l[i]? = some x) : ∃ y, m[i]? = some y ∧ y.gap = x.gap ∧ y.a = x.a ∧ y.z = x.z ∧ y.p = x.p := by
  have h1 := congrArg (fun l => l[i]?) h
  simp only [List.getElem?_map, hx, Option.map_some] at h1
  cases hm : m[i]? with
  | none => rw [hm] at h1; simp at h1
  | some y =>
    rw [hm] at h1
    simp only [Option.map_some, Option.some.injEq, It.bare, Prod.mk.injEq] at h1
    exact ⟨y, rfl, h1.1.symm, h1.2.1.symm, h1.2.2.1.symm, h1.2.2.2.symm⟩
theorem alike_items : ∀ (ws : List Wt) (us us2 : List V3) (next : Nat), us.length = ws.length → us2.length = ws.length → Alike (items next ws us) (items next ws us2)
  | [], us, us2, next, _, _ => by rw [items_nil, items_nil]; rfl
  | x :: ws, [], us2, next, h, _ => by simp at h
  | x :: ws, u :: us, [], next, _, h => by simp at h
  | x :: ws, u :: us, u2 :: us2, next, h1, h2 => by
    have ih := alike_items ws us us2 (x.n + 1) (by simpa using h1) (by simpa using h2)
    unfold Alike at *
    show ((stepIt next x u ++ items (x.n + 1) ws us).map It.bare) = (stepIt next x u2 ++ items (x.n + 1) ws us2).map It.bare
    rw [List.map_append, List.map_append, ih]
    congr 1
    unfold stepIt
    split <;> rfl
def SpoS (vo : Value) (its : List It) (j : Nat) : Prop := vo.ownBlock = some j ∨ ∃ x ∈ its, Blk x.u j
/-- Before round k. -/
structure SmAt (vo mo : Value) (its its2 : List It) (B1 B2 B k : Nat) (w wr : World) : Prop where
  row : ∃ rows, OwnS wr B1 62 14 vo rows ∧ rows.length = its.length ∧ ∀ i, k ≤ i → rows[i]? = (its.map It.cls)[i]?
  row2 : OwnS wr B2 92 14 mo (its2.map It.cls)
  own : ∀ (i : Nat) (x : It), k ≤ i → its[i]? = some x → OwnPk B x.p x.u.1 x.u.2.1 x.u.2.2 wr
  rd : ∀ (i : Nat) (x : It), its2[i]? = some x → RdPk x.p x.u.1 x.u.2.1 x.u.2.2 wr
  only : Only (SpoS vo its) w wr
theorem RdPk.off {p : Pk} {u : V3} {w w' : World} {S : Nat → Prop} (h : RdPk p u.1 u.2.1 u.2.2 w) (ho : Only S w w') (hn : ∀ k, Blk u k → ¬ S k) : RdPk p u.1 u.2.1 u.2.2 w' :=
  ⟨h.c.only ho (fun k hk => hn k (.inl hk)), h.e.only ho (fun k hk => hn k (.inr (.inl hk))), h.p.only ho (fun k hk => hn k (.inr (.inr hk))), h.s⟩
theorem OwnPk.off {B : Nat} {p : Pk} {u : V3} {w w' : World} {S : Nat → Prop} (h : OwnPk B p u.1 u.2.1 u.2.2 w) (ho : Only S w w') (hn : ∀ k, Blk u k → ¬ S k) : OwnPk B p u.1 u.2.1 u.2.2 w' :=
  ⟨own_only h.1 ho (fun k hk => hn k (.inl hk)), own_only h.2.1 ho (fun k hk => hn k (.inr (.inl hk))), own_only h.2.2 ho (fun k hk => hn k (.inr (.inr hk)))⟩
theorem OwnPk.typed {B B1 sz n : Nat} {p : Pk} {u : V3} {w : World} {T : TypeId} {v : Value} {xs : List Value} (h : OwnPk B p u.1 u.2.1 u.2.2 w) (hv : w.ownsRow B1 T sz v n xs) (h1 : T ≠ 5) (h2 : T ≠ 38) : ∀ k, v.ownBlock = some k → ¬ Blk u k := by
  intro k hk hb
  rcases hb with e | e | e
  · exact owned_apart hv h.1 h2 k hk e
  · exact owned_apart hv h.2.1 h1 k hk e
  · exact owned_apart hv h.2.2 h1 k hk e
section
variable {vo mo : Value} {its its2 : List It} {B1 B2 B k : Nat} {w wr wx : World}
theorem SmAt.go (h : SmAt vo mo its its2 B1 B2 B k w wr) (ho : Only (fun _ => False) wr wx) : SmAt vo mo its its2 B1 B2 B k w wx := by
  obtain ⟨rows, h1, h2, h3⟩ := h.row
  exact ⟨⟨rows, h1.only ho (by simp), h2, h3⟩, h.row2.only ho (by simp), fun i x hi hx => (h.own i x hi hx).only ho, fun i x hx => (h.rd i x hx).only ho, h.only.trans ho (fun _ _ e => e.elim)⟩
/-- A packet is spoiled. -/
theorem SmAt.spoil {x : It} (h : SmAt vo mo its its2 B1 B2 B k w wr) (hx : its[k]? = some x) (ho : Only (fun j => Blk x.u j) wr wx) (hap : ∀ (i j : Nat) (x y : It), i < j → its[i]? = some x → its[j]? = some y → ∀ k, Blk x.u k → ¬ Blk y.u k)
    (hdis : ∀ x ∈ its, ∀ y ∈ its2, ∀ k, Blk x.u k → ¬ Blk y.u k) :
    (∃ rows, OwnS wx B1 62 14 vo rows ∧ rows.length = its.length ∧ ∀ i, k ≤ i → rows[i]? = (its.map It.cls)[i]?) ∧ OwnS wx B2 92 14 mo (its2.map It.cls) ∧ (∀ (i : Nat) (x : It), k + 1 ≤ i → its[i]? = some x → OwnPk B x.p x.u.1 x.u.2.1 x.u.2.2 wx) ∧
      (∀ (i : Nat) (x : It), its2[i]? = some x → RdPk x.p x.u.1 x.u.2.1 x.u.2.2 wx) ∧ Only (SpoS vo its) w wx := by
  obtain ⟨rows, h1, h2, h3⟩ := h.row
  have hk := h.own k x (Nat.le_refl _) hx
  have hm := List.mem_of_getElem? hx
  refine ⟨⟨rows, h1.only ho (hk.typed h1.1 (by decide) (by decide)), h2, h3⟩, h.row2.only ho (hk.typed h.row2.1 (by decide) (by decide)), fun i y hi hy => (h.own i y (by omega) hy).off ho (fun j hj he => hap k i x y (by omega) hx hy j he hj),
    fun i y hy => (h.rd i y hy).off ho (fun j hj he => hdis x hm y (List.mem_of_getElem? hy) j he hj), h.only.trans ho (fun i _ e => .inr ⟨x, hm, e⟩)⟩
/-- A packet is spoiled, and what held it is written over. -/
theorem SmAt.next {g : Nat} (hvo : vo.ownBlock = some g) (hk : k < its.length) (hfar : ∀ y ∈ its2, ∀ j, Blk y.u j → vo.ownBlock ≠ some j)
    (h : (∃ rows, OwnS wx B1 62 14 vo rows ∧ rows.length = its.length ∧ ∀ i, k ≤ i → rows[i]? = (its.map It.cls)[i]?) ∧ OwnS wx B2 92 14 mo (its2.map It.cls) ∧ (∀ (i : Nat) (x : It), k + 1 ≤ i → its[i]? = some x → OwnPk B x.p x.u.1 x.u.2.1 x.u.2.2 wx) ∧
      (∀ (i : Nat) (x : It), its2[i]? = some x → RdPk x.p x.u.1 x.u.2.1 x.u.2.2 wx) ∧ Only (SpoS vo its) w wx) :
    wx.there g (k * 14) 14 ∧ SmAt vo mo its its2 B1 B2 B (k + 1) w (wx.setCells g (k * 14) [.bool false, .int .u64 0, .int .u64 0, .bool false, .int .u8 0, .int .u16 0, .int .u32 0, .int .u32 0, .slice none 0 0, .bool false, .int .u16 0, .slice none 0 0, .slice none 0 0, .int .u8 0]) := by
  obtain ⟨⟨rows, r1, r2, r3⟩, q2, q3, q4, q5⟩ := h
  obtain ⟨w1, w2⟩ := r1.write (cs := [.bool false, .int .u64 0, .int .u64 0, .bool false, .int .u8 0, .int .u16 0, .int .u32 0, .int .u32 0, .slice none 0 0, .bool false, .int .u16 0, .slice none 0 0, .slice none 0 0, .int .u8 0]) hvo (show k < rows.length by rw [r2]; exact hk) rfl
  refine ⟨r1.there hvo (by rw [r2]; exact hk), ⟨_, w1, by rw [List.length_set]; exact r2, fun i hi => ?_⟩, q2.only w2 (fun j hj (e : j = g) => owned_apart q2.1 r1.1 (by decide) j hj (by rw [hvo, e])), fun i x hi hx => (q3 i x hi hx).off w2 (fun j hj (e : j = g) => (q3 i x hi hx).typed r1.1 (by decide) (by decide) g hvo (e ▸ hj)),
    fun i x hx => (q4 i x hx).off w2 (fun j hj (e : j = g) => hfar x (List.mem_of_getElem? hx) j hj (by rw [hvo, e])), q5.trans w2 (fun i _ (e : i = g) => .inl (by rw [hvo, e]))⟩
  rw [List.getElem?_set_ne (by omega)]
  exact r3 i (by omega)
end
theorem wpList_build_p {P : Program} {ops : Array Oper} {rest : List Oper} {o : Oper} {a : Act} {w : World} {Q : Exit → Act → World → Prop} (hgd : o.guard = none) (t : TypeId) (parts : Array (Nat × Operand)) (ho : o.op = .build t parts) (cells : Array Value)
    (hc : P.built t (parts.map fun (i, x) => (i, a.eval x)).toList = some cells) (h : wpList P ops Q rest (a.put o.dst (.agg cells)) w) : wpList P ops Q (o :: rest) a w :=
  wpList_plain hgd fun _ hK => wp_build_is t parts ho cells hc (hK _ _ h)
/-- A store amid a block; the world behind it is a letter. -/
theorem wpList_store_midw {P : Program} {ops : Array Oper} {rest : List Oper} {op : Oper} {a : Act} {w : World} {Q : Exit → Act → World → Prop} (hgd : op.guard = none) (ty : TypeId) (x y : Operand) (ho : op.op = .store ty x y)
    (b o : Nat) (cells : Array Value) (hx : a.eval x = .pointer (some ⟨b, o, none⟩)) (hy : a.eval y = .agg cells)
    (ht : w.there b o cells.size) (hi : (P.info? ty).map (·.size) = some cells.size) (h1 : cells.all (·.oneCell') = true)
    (h : ∀ w', w' = w.setCells b o cells.toList → wpList P ops Q rest (a.put op.dst undef) w') : wpList P ops Q (op :: rest) a w :=
  wpList_store_mid hgd ty x y ho b o cells hx hy ht hi h1 (h _ rfl)
theorem built_out0 : Try.prog.built 62 [] = some #[.bool false, .int .u64 0, .int .u64 0, .bool false, .int .u8 0, .int .u16 0, .int .u32 0, .int .u32 0, .slice none 0 0, .bool false, .int .u16 0, .slice none 0 0, .slice none 0 0, .int .u8 0] := by kernel_rfl
def SameD (vo : Value) (its : List It) (w : World) (e : Ending) (w' : World) : Prop := e = .returned (.bool true) ∧ Only (SpoS vo its) w w'
theorem its_cls {B : Nat} {x : It} {w : World} (h : OwnPk B x.p x.u.1 x.u.2.1 x.u.2.2 w) : x.cls = .bool x.gap :: .int .u64 (x.a : Int) :: .int .u64 (x.z : Int) :: (x.p.cls x.u.1 x.u.2.1 x.u.2.2).toList := by
  unfold It.cls
  rw [sl_of (own_isSl h.1), sl_of (own_isSl h.2.1), sl_of (own_isSl h.2.2)]
theorem its_cls_rd {x : It} {w : World} (h : RdPk x.p x.u.1 x.u.2.1 x.u.2.2 w) : x.cls = .bool x.gap :: .int .u64 (x.a : Int) :: .int .u64 (x.z : Int) :: (x.p.cls x.u.1 x.u.2.1 x.u.2.2).toList := by
  unfold It.cls
  rw [sl_of h.s, sl_of (src_isSl h.e), sl_of (src_isSl h.p)]
set_option maxRecDepth 100000 in
set_option maxHeartbeats 8000000 in
theorem lsame_is (vo mo : Value) (its its2 : List It) (B1 B2 B : Nat) (w : World) (h1 : OwnS w B1 62 14 vo (its.map It.cls)) (h2 : OwnS w B2 92 14 mo (its2.map It.cls)) (hlk : Alike its its2)
    (hown : ∀ (i : Nat) (x : It), its[i]? = some x → OwnPk B x.p x.u.1 x.u.2.1 x.u.2.2 w) (hap : ∀ (i j : Nat) (x y : It), i < j → its[i]? = some x → its[j]? = some y → ∀ k, Blk x.u k → ¬ Blk y.u k)
    (hrd : ∀ (i : Nat) (x : It), its2[i]? = some x → RdPk x.p x.u.1 x.u.2.1 x.u.2.2 w) (hdis : ∀ x ∈ its, ∀ y ∈ its2, ∀ k, Blk x.u k → ¬ Blk y.u k) (hfar : ∀ y ∈ its2, ∀ j, Blk y.u j → vo.ownBlock ≠ some j) (hlen : its.length ≤ 1000)
    (hfew : ∀ x ∈ its, x.p.csrc.length ≤ 1000 ∧ x.p.ext.length ≤ 1000000 ∧ x.p.pay.length ≤ 1000000) :
    Calls Try.prog 27 #[vo, mo] w (SameD vo its w) := by
  have S0 := Lib.hid (show SmAt vo mo its its2 B1 B2 B 0 w w from ⟨⟨_, h1, List.length_map _, fun _ _ => rfl⟩, h2, fun i x _ hx => hown i x hx, hrd, Only.refl _ w⟩)
  have HLK := Lib.hid hlk
  have HAP := Lib.hid hap
  have HDIS := Lib.hid hdis
  have HFEW := Lib.hid hfew
  have HFAR := Lib.hid hfar
  obtain ⟨A1, c1, e1, hc1⟩ := h1.slice
  obtain ⟨A2, c2, e2, hc2⟩ := h2.slice
  rw [List.length_map] at e1 hc1 e2 hc2
  rw [hlk.length] at e2 hc2
  obtain ⟨n, hn⟩ : ∃ n, its.length = n := ⟨_, rfl⟩
  have HN := Lib.hid hn
  rw [hn] at e1 hc1 e2 hc2 hlen
  subst e1 e2
  clear h1 h2 hlk hown hap hrd hdis hfew hfar hn
  go_enter Try.func27, Try.ntmps27
  go_wp2
  go_loopw [5] (fun s5 wr => ∃ k : Nat, k ≤ n ∧ s5 = .int .i64 (k : Int) ∧ SmAt (.slice A1 n c1) (.slice A2 n c2) its its2 B1 B2 B k w wr) (fun s5 _ => n - (intOf s5).toNat)
  case atStart => exact ⟨0, by omega, rfl, S0.out⟩
  case round =>
    obtain ⟨k, hk, rfl, hS⟩ := hrel
    have S := Lib.hid hS
    clear hS
    by_cases hkn : k < n
    · obtain ⟨x, hx⟩ : ∃ x, its[k]? = some x := ⟨_, List.getElem?_eq_getElem (by rw [HN.out]; exact hkn)⟩
      obtain ⟨y, hy, y1, y2, y3, y4⟩ := HLK.out.get hx
      obtain ⟨rows, r1, r2, r3⟩ := S.out.row
      obtain ⟨g, cg, e, -⟩ := r1.place (by rw [r2, HN.out]; omega)
      injection e with e3 e4 e5
      subst e3
      obtain ⟨g2, cg2, e, -⟩ := S.out.row2.place (by rw [List.length_map, HLK.out.length, HN.out]; omega)
      injection e with e6 e7 e8
      subst e6
      clear e4 e5 e7 e8
      have hox := S.out.own k x (Nat.le_refl _) hx
      have hry := S.out.rd k y hy
      have hra : wr.rangeAt g (k * 14) x.cls := r1.range rfl (by rw [r3 k (Nat.le_refl _), List.getElem?_map, hx]; rfl)
      have hrb : wr.rangeAt g2 (k * 14) y.cls := S.out.row2.range rfl (by rw [List.getElem?_map, hy]; rfl)
      rw [its_cls hox] at hra
      rw [its_cls_rd hry, y1, y2, y3] at hrb
      have hbd := HFEW.out x (List.mem_of_getElem? hx)
      have HD := Lib.hid (fun (w1 : World) (ho : Only (fun _ => False) wr w1) => docs_rd x.p x.u.1 x.u.2.1 x.u.2.2 w1 (own_nil hox.1) (hox.only ho).rd hbd)
      have HS := Lib.hid (show ∀ (w1 : World) (vc ve vp : Value), Only (fun _ => False) wr w1 → RdPk x.p vc ve vp w1 → Calls Try.prog 39 #[.agg (x.p.cls vc ve vp), .agg (y.p.cls y.u.1 y.u.2.1 y.u.2.2)] w1 (SaysO (.bool true) w1) from fun w1 vc ve vp ho h5 => by
        rw [y4]
        rw [y4] at hry
        exact same_rd x.p vc ve vp y.u.1 y.u.2.1 y.u.2.2 w1 h5 (hry.only ho) hbd)
      have hG : Sm g g2 k x.gap x.a x.z (x.p.cls x.u.1 x.u.2.1 x.u.2.2).toList (y.p.cls y.u.1 y.u.2.1 y.u.2.2).toList wr wr := ⟨hra, hrb, Only.refl _ _⟩
      have HG := Lib.hid hG
      have hsz1 : (Try.prog.info? 42).map (·.size) = some (x.p.cls x.u.1 x.u.2.1 x.u.2.2).toList.length := Try.sizePq
      have hsz2 : (Try.prog.info? 74).map (·.size) = some (y.p.cls y.u.1 y.u.2.1 y.u.2.2).toList.length := Try.sizeRk
      have HX := Lib.hid hx
      have HBD := Lib.hid hbd
      obtain ⟨X1, hX1⟩ : ∃ X1, x.p.cls x.u.1 x.u.2.1 x.u.2.2 = X1 := ⟨_, rfl⟩
      obtain ⟨Y1, hY1⟩ : ∃ Y1, y.p.cls y.u.1 y.u.2.1 y.u.2.2 = Y1 := ⟨_, rfl⟩
      have HX1 := Lib.hid hX1
      rw [hX1] at HG HD hsz1
      rw [hY1] at HG HS hsz2
      clear hra hrb hG hox hry hbd r1 r2 r3 rows hy y1 y2 y3 y4 hx S0 hX1 hY1
      go_upto_region 6 with (fail)
      refine rs6 g g2 k n c1 c2 x.gap x.a x.z x.p X1.toList Y1.toList wr hkn hlen hsz1 hsz2 HD.out HS.out _ _ _ _ _ _ _ _ _ _ _ _ _ _ _ _ _ _ _ _ _ _ _ _ _ _ _ _ _ _ _ _ _ _ _ _ _ _ _ _ _ _ _ _ _ _ _ _ _ _ _ _ _ _ _ _ _ _ _ _ _ _ _ _ _ _ _ _ _ _ _ _ _ _ _ _ _ wr HG.out ?_
      rintro y17 y18 y19 y20 y21 y22 y23 y24 y25 y26 y27 y28 y29 y30 y31 y32 y33 y34 y35 y36 y37 y38 y39 y40 y41 y42 y43 y44 y45 y46 y47 y48 y49 y50 y51 y52 y53 y54 y55 y56 y57 y58 y59 y60 y61 y62 y63 y64 y65 y66 y67 w4 hS4
      have S4 := Lib.hid (S.out.go hS4.pure)
      have RA4 := Lib.hid hS4.a3
      have HOX := Lib.hid (S4.out.own k x (Nat.le_refl _) HX.out)
      have HSP := Lib.hid (fun w5 : World => fun h : Only (fun j => Blk x.u j) w4 w5 => S4.out.spoil HX.out h HAP.out HDIS.out)
      have HSC := Lib.hid (spoil_packet x.p x.u.1 x.u.2.1 x.u.2.2 w4 B B B _ _ _ _ _ _ HOX.out.1 HOX.out.2.1 HOX.out.2.2 HBD.out)
      rw [show (#[.bool x.p.marker, .int .u8 x.p.ty, .int .u16 x.p.seq, .int .u32 x.p.time, .int .u32 x.p.ssrc, x.u.1, .bool x.p.hasExt, .int .u16 x.p.profile, x.u.2.1, x.u.2.2, .int .u8 x.p.pad] : Array Value) = X1 from HX1.out] at HSC
      clear hS4 HD HS HG S hsz2
      have hknI : (k : Int) < (n : Int) := by omega
      go_upto_region 9 with (first
        | (refine wpList_load_mid rfl 42 _ rfl g (k * 14 + 3) rfl X1.toList _ RA4.out Try.underlying42 rfl hsz1 ?_)
        | ((with_reducible refine HSC.out.mono ?_); rintro e w5 ⟨rfl, ho5⟩; have Q5 := Lib.hid (HSP.out w5 ho5); clear ho5))
      obtain ⟨ht, hnx⟩ := SmAt.next (g := g) rfl (by rw [HN.out]; exact hkn) HFAR.out Q5.out
      have HT := Lib.hid ht
      have HNX := Lib.hid hnx
      clear ht hnx
      go_wp2_with (first
        | (refine wpList_build_p rfl 62 _ rfl #[.bool false, .int .u64 0, .int .u64 0, .bool false, .int .u8 0, .int .u16 0, .int .u32 0, .int .u32 0, .slice none 0 0, .bool false, .int .u16 0, .slice none 0 0, .slice none 0 0, .int .u8 0] built_out0 ?_)
        | (refine wpList_store_midw rfl 62 _ _ rfl g (k * 14) #[.bool false, .int .u64 0, .int .u64 0, .bool false, .int .u8 0, .int .u16 0, .int .u32 0, .int .u32 0, .slice none 0 0, .bool false, .int .u16 0, .slice none 0 0, .slice none 0 0, .int .u8 0] rfl rfl HT.out Try.infoOt (by simp [Value.oneCell']) ?_; intro w6 hw6; have N6 := Lib.hid (show SmAt (.slice (some ⟨g, 0, none⟩) n c1) (.slice (some ⟨g2, 0, none⟩) n c2) its its2 B1 B2 B (k + 1) w w6 from by rw [hw6]; exact HNX.out); clear hw6))
      exact ⟨⟨k + 1, by omega, by go_num, N6.out⟩, by simp [intOf]; omega⟩
    · obtain rfl : k = n := by omega
      go_wp2
      go_ret
      exact ⟨rfl, S.out.only⟩
end Go.Proofs.Ytdcclighccejhaa

/- reorder's law: stands. Conditions: as it says. -/
set_option linter.unusedVariables false
set_option linter.unusedSimpArgs false
namespace Go.Proofs.Ytdcclighccejhaa
open Go Go.RowKit

/-- Before round k of stands: what Waiting told, written over up to k. -/
structure SdAt (A : Option Addr) (ns : List Nat) (k : Nat) (wT wr : World) : Prop where
  only : Only (fun _ => False) wT wr
  row : 0 < ns.length → ∃ g cur, A = some ⟨g, 0, none⟩ ∧ wT.heap.size ≤ g ∧ Is wr g 22 cur ∧ ns.length ≤ cur.size ∧ ∀ i (h : i < ns.length), k ≤ i → cur[i]? = some (.int .u64 (ns[i] : Int))
theorem SdAt.first {A : Option Addr} {c : Nat} {ns : List Nat} {wT wr : World} (h : wr.ownsRow wT.heap.size 22 1 (.slice A ns.length c) ns.length (cells64 ns)) (ho : Only (fun _ => False) wT wr) : SdAt A ns 0 wT wr := by
  refine ⟨ho, fun hp => ?_⟩
  rcases h.2 with ⟨_, h0⟩ | ⟨g, cap, cur, e, hb, hg, hc, _, hs, ht⟩
  · omega
  · injection e with e1
    refine ⟨g, cur, e1, hb, hg, by omega, fun i hi _ => ?_⟩
    have h2 : (cur.toList.take (ns.length * 1))[i]? = (cells64 ns)[i]? := by rw [ht]
    rw [List.getElem?_take, if_pos (by omega)] at h2
    rw [← Array.getElem?_toList, h2]
    simp [cells64, hi]
theorem SdAt.go {A : Option Addr} {ns : List Nat} {k : Nat} {wT wr wx : World} (h : SdAt A ns k wT wr) (ho : Only (fun _ => False) wr wx) : SdAt A ns k wT wx :=
  ⟨h.only.trans ho (fun _ _ e => e), fun hp => by
    obtain ⟨g, cur, h1, h2, h3, h4, h5⟩ := h.row hp
    exact ⟨g, cur, h1, h2, h3.only ho (by simp), h4, h5⟩⟩
theorem SdAt.put {A : Option Addr} {ns : List Nat} {k g : Nat} {cur : Array Value} {wT wr : World} (ho : Only (fun _ => False) wT wr) (hA : A = some ⟨g, 0, none⟩) (hg : wT.heap.size ≤ g) (hi : Is wr g 22 cur) (hM : ns.length ≤ cur.size)
    (hc : ∀ i (h : i < ns.length), k ≤ i → cur[i]? = some (.int .u64 (ns[i] : Int))) (n : Nat) (u : Value) : SdAt A ns (k + 1) wT ((wr.drewN n).setCell ⟨g, k, none⟩ u) :=
  ⟨((ho.trans (onlyN wr n) (fun _ _ e => e)).trans (Only.set (S := fun i => i = g) (p := ⟨g, k, none⟩) (Only.refl _ _) (fun _ => rfl) u) (fun i hi e => by omega)), fun _ => ⟨g, _, hA, hg, (hi.only (onlyN wr n) (by simp)).put k u, by simpa using hM, fun i h hk => by
    rw [Array.getElem?_setIfInBounds_ne (by omega)]
    exact hc i h (by omega)⟩⟩
theorem Sim.nextS {m : Bf} {r : Rb} (h : Sim m r) (hg : m.Good) : (if m.some then m.last + 1 else 0) = r.next := by
  cases hs : m.some with
  | true => rw [if_pos rfl, h.next hs, hg.nx_some hs]
  | false => rw [if_neg (by simp), h.none hs]
set_option maxRecDepth 100000 in
set_option maxHeartbeats 4000000 in
theorem stands_is (b B : Nat) (m : Bf) (v : Value) (us : List V3) (r : Rb) (v2 : Value) (us2 : List V3) (w : World) (h : Bfr w b m v us B) (hg : m.Good) (hs : Sim m r) (hr : RdL w v2 r.ws us2) :
    Calls Try.prog 28 #[ptr b, .agg (r.cells v2)] w (SaysO (.bool true) w) := by
  obtain ⟨A0, c0, rfl, hc0⟩ := hr.sl
  have HNX := Lib.hid (fun (w1 : World) (ho : Only (fun _ => False) w w1) => (by
    have := rnext_is b m v us B w1 (h.pure ho) (fun hs => by have := hg.top hs; omega)
    rw [hs.nextS hg, ← hs.begun] at this
    exact this : Calls Try.prog 18 #[ptr b] w1 (SaysO (.tuple #[.int .u64 (r.next : Int), .bool r.begun]) w1)))
  have HWT := Lib.hid (fun (w1 : World) (ho : Only (fun _ => False) w w1) => rwait_is b m v us B w1 (h.pure ho) hg.ok.fit)
  have HRW := Lib.hid (show ∀ i (hi : i < (m.ws.map Wt.n).length), ∃ g o, A0 = some ⟨g, o, none⟩ ∧ w.cell? ⟨g, o + i * 13, none⟩ = some (.int .u64 ((m.ws.map Wt.n)[i] : Int)) from fun i hi => by
    rw [List.length_map] at hi
    have hx : r.ws[i]? = some m.ws[i] := by rw [hs.ws]; exact List.getElem?_eq_getElem hi
    have hu := List.getElem?_eq_getElem (show i < us2.length by rw [hr.len, hs.ws]; exact hi)
    obtain ⟨⟨g, o, n', c', e, hra⟩, -⟩ := hr.at_ i _ _ hx hu
    injection e with e1
    refine ⟨g, o, e1, ?_⟩
    rw [List.getElem_map]
    exact hra 0 _ rfl)
  have hlen : r.ws.length = (m.ws.map Wt.n).length := by rw [hs.ws, List.length_map]
  have hl256 : (m.ws.map Wt.n).length ≤ 256 := by rw [List.length_map]; have := hg.len; have := hg.le; omega
  have hwl : m.ws.length = (m.ws.map Wt.n).length := by rw [List.length_map]
  unfold Waits at HWT
  rw [hwl] at HWT
  show Calls Try.prog 28 #[ptr b, .agg #[.int .i64 r.size, .int .u64 (r.hold : Int), .int .u64 (r.next : Int), .bool r.begun, .slice A0 r.ws.length c0]] w _
  rw [hlen]
  clear hlen hwl hc0 hr h hg hs
  obtain ⟨ns, hns⟩ : ∃ ns, m.ws.map Wt.n = ns := ⟨_, rfl⟩
  rw [hns] at HWT HRW hl256 ⊢
  clear hns
  obtain ⟨sz, hold, nx, bg, ws⟩ := r
  change Hid (∀ w1 : World, Only (fun _ => False) w w1 → Calls Try.prog 18 #[ptr b] w1 (SaysO (.tuple #[.int .u64 (nx : Int), .bool bg]) w1)) at HNX
  show Calls Try.prog 28 #[ptr b, .agg #[.int .i64 sz, .int .u64 (hold : Int), .int .u64 (nx : Int), .bool bg, .slice A0 ns.length c0]] w _
  obtain ⟨L, hL⟩ : ∃ L, ns.length = L := ⟨_, rfl⟩
  have HL := Lib.hid hL
  rw [hL] at hl256 ⊢
  clear hL
  go_enter Try.func28, Try.ntmps28
  go_upto_region 1 with (fail)
  generalize hw1 : World.alloc w _ = w1
  have O1 := Lib.hid (show Only (fun _ => False) w w1 from by rw [← hw1]; exact (Only.refl _ w).alloc _)
  have I1 := Lib.hid (show Is w1 w.heap.size 32 #[.int .i64 sz, .int .u64 (hold : Int), .int .u64 (nx : Int), .bool bg, .slice A0 L c0] from by rw [← hw1]; exact Is.made w _ _)
  obtain ⟨rb, hrb⟩ : ∃ b, w.heap.size = b := ⟨_, rfl⟩
  rw [hrb] at I1 ⊢
  clear hw1 hrb
  go_wp2_with fail
  refine (HNX.out w1 O1.out).mono ?_
  rintro e w2 ⟨rfl, ho2⟩
  have O2 := Lib.hid (O1.out.trans ho2 (fun _ _ e => e))
  have I2 := Lib.hid (I1.out.only ho2 (by simp))
  clear ho2 I1 HNX
  go_wp2_with fail
  refine (HWT.out w2 O2.out).mono ?_
  rintro e w3 ⟨lv, rfl, hrow, ho3⟩
  obtain ⟨A, c, rfl, hcl⟩ := own_slice hrow
  have S3 := Lib.hid (SdAt.first hrow ho3)
  rw [HL.out] at hcl ⊢
  have I3 := Lib.hid (I2.out.only ho3 (by simp))
  have O3 := Lib.hid (O2.out.trans ho3 (fun _ _ e => e))
  clear ho3 hrow I2 HWT
  have c2 : w3.cell? ⟨rb, 2, none⟩ = some (.int .u64 (nx : Int)) := I3.out.cell 2
  have c3 : w3.cell? ⟨rb, 3, none⟩ = some (.bool bg) := I3.out.cell 3
  have c4 : w3.cell? ⟨rb, 4, none⟩ = some (.slice A0 L c0) := I3.out.cell 4
  go_wp2
  clear c2 c3 c4
  go_loopw [8] (fun s8 wr => ∃ k : Nat, k ≤ L ∧ s8 = .int .i64 (k : Int) ∧ SdAt A ns k w2 wr ∧ Is wr rb 32 #[.int .i64 sz, .int .u64 (hold : Int), .int .u64 (nx : Int), .bool bg, .slice A0 L c0]) (fun s8 _ => L - (intOf s8).toNat)
  case atStart => exact ⟨0, by omega, rfl, S3.out, I3.out⟩
  case round =>
    obtain ⟨k, hk, rfl, hS, hI⟩ := hrel
    have S := Lib.hid hS
    have I := Lib.hid hI
    clear hS hI S3 I3
    by_cases hkl : k < L
    · have hkn : k < ns.length := by rw [HL.out]; exact hkl
      obtain ⟨g, cur, rfl, hgl, hic, hcs, hcc⟩ := S.out.row (by omega)
      obtain ⟨g2, o, rfl, hce⟩ := HRW.out k hkn
      have hc1 := hic.cell k
      rw [hcc k hkn (Nat.le_refl _)] at hc1
      have hf1 := hic.free k
      have hc2 : wr.cell? ⟨g2, o + k * 13, none⟩ = some (.int .u64 (ns[k] : Int)) := grown_cell (O2.out.trans S.out.only (fun _ _ e => e)) hce (World.block_lt_of_cell? w _ hce)
      have hc20 : wr.cell? ⟨g2, o + k * 13 + 0, none⟩ = some (.int .u64 (ns[k] : Int)) := hc2
      have hc4 : wr.cell? ⟨rb, 4, none⟩ = some (.slice (some ⟨g2, o, none⟩) L c0) := I.out.cell 4
      have HP := Lib.hid (fun (n : Nat) (u : Value) => SdAt.put (k := k) S.out.only rfl hgl hic hcs hcc n u)
      have HNE := Lib.hid (show g ≠ rb from Is.apart hic I.out (by decide))
      generalize ns[k] = nk at *
      have hklI : (k : Int) < (L : Int) := by omega
      clear hce hic hcs hcc hkn
      go_upto_region 8 with (fail)
      go_quiet (fail)
      go_wp2
      exact ⟨⟨k + 1, by omega, by go_num, HP.out _ _, (I.out.only (onlyN wr _) (by simp)).far (fun e => HNE.out e.symm) _⟩, by simp [intOf]; omega⟩
    · obtain rfl : k = L := by omega
      go_wp2
      go_ret
      exact ⟨rfl, O2.out.trans S.out.only (fun _ _ e => e)⟩
end Go.Proofs.Ytdcclighccejhaa

/- reorder's law: how the buffer and the reference's stand, side by side. Conditions: as each says. -/
set_option linter.unusedVariables false
set_option linter.unusedSimpArgs false
namespace Go.Proofs.Ytdcclighccejhaa
open Go Go.RowKit

def nil3 : V3 := (.slice none 0 0, .slice none 0 0, .slice none 0 0)
theorem blk_nil3 (k : Nat) : ¬ Blk nil3 k := by simp [Blk, nil3, Value.ownBlock]
theorem items_mem : ∀ (ws : List Wt) (us : List V3) (next : Nat) (x : It), x ∈ items next ws us → (x.u = nil3 ∧ x.p = pkNo) ∨ ∃ (i : Nat) (y : Wt) (u : V3), ws[i]? = some y ∧ us[i]? = some u ∧ x.p = y.p ∧ x.u = u
  | [], us, next, x, h => by rw [items_nil] at h; simp at h
  | y :: ws, [], next, x, h => by simp [items] at h
  | y :: ws, u :: us, next, x, h => by
    change x ∈ stepIt next y u ++ items (y.n + 1) ws us at h
    rcases List.mem_append.1 h with h | h
    · unfold stepIt at h
      split at h
      · have e : x = pkIt y u := by simpa using h
        subst e
        exact .inr ⟨0, y, u, rfl, rfl, rfl, rfl⟩
      · rcases List.mem_cons.1 h with e | h
        · subst e
          exact .inl ⟨rfl, rfl⟩
        · have e : x = pkIt y u := by simpa using h
          subst e
          exact .inr ⟨0, y, u, rfl, rfl, rfl, rfl⟩
    · rcases items_mem ws us _ x h with h | ⟨i, y', u', h1, h2, h3, h4⟩
      · exact .inl h
      · exact .inr ⟨i + 1, y', u', h1, h2, h3, h4⟩
theorem items_pw {R : V3 → V3 → Prop} (h0 : ∀ u, R nil3 u) (h1 : ∀ u, R u nil3) : ∀ (ws : List Wt) (us : List V3) (next : Nat), us.Pairwise R → (items next ws us).Pairwise (fun x y => R x.u y.u)
  | [], us, next, _ => by rw [items_nil]; exact List.Pairwise.nil
  | y :: ws, [], next, _ => by simp [items]
  | y :: ws, u :: us, next, h => by
    obtain ⟨ha, hb⟩ := List.pairwise_cons.1 h
    have ih := items_pw h0 h1 ws us (y.n + 1) hb
    have hu : ∀ z ∈ items (y.n + 1) ws us, R u z.u := by
      intro z hz
      rcases items_mem ws us _ z hz with ⟨e, -⟩ | ⟨i, y', u', -, h2, -, e⟩
      · rw [e]; exact h1 u
      · rw [e]; exact ha u' (List.mem_of_getElem? h2)
    show (stepIt next y u ++ items (y.n + 1) ws us).Pairwise _
    unfold stepIt
    split
    · exact List.pairwise_cons.2 ⟨hu, ih⟩
    · exact List.pairwise_cons.2 ⟨fun z _ => h0 _, List.pairwise_cons.2 ⟨hu, ih⟩⟩
/-- Few bytes. -/
def Bd (p : Pk) : Prop := p.csrc.length ≤ 1000 ∧ p.ext.length ≤ 1000000 ∧ p.pay.length ≤ 1000000
/-- The reference's row, which lies in memory of its own. -/
def RefSt (B0 : Nat) (us : List V3) (ws : List Wt) (v2 : Value) (us2 : List V3) (w : World) : Prop :=
  ∃ v1 ws1 us1, OwnS w B0 87 13 v1 (wtRows ws1 us1) ∧ us1.length = ws1.length ∧ (∀ (i : Nat) (x : Wt) (u : V3), ws1[i]? = some x → us1[i]? = some u → OwnPk B0 x.p u.1 u.2.1 u.2.2 w) ∧
    (∀ W, RdL W v1 ws1 us1 → RdL W v2 ws us2) ∧ (∀ u ∈ us2, u ∈ us1) ∧ (∀ u ∈ us, ∀ u' ∈ us1, ∀ k, Blk u k → ¬ Blk u' k) ∧ (∀ (i : Nat) (x : Wt) (u : V3), ws[i]? = some x → us2[i]? = some u → OwnPk B0 x.p u.1 u.2.1 u.2.2 w)
theorem RefSt.rd {B0 : Nat} {us : List V3} {ws : List Wt} {v2 : Value} {us2 : List V3} {w : World} (h : RefSt B0 us ws v2 us2 w) : RdL w v2 ws us2 := by
  obtain ⟨v1, ws1, us1, h1, h2, h3, h4, -⟩ := h
  exact h4 w (rd_of_own h1 h2 fun i x u hx hu => (h3 i x u hx hu).rd)
theorem RefSt.off {B0 : Nat} {us : List V3} {ws : List Wt} {v2 : Value} {us2 : List V3} {w w' : World} {S : Nat → Prop} (h : RefSt B0 us ws v2 us2 w) (ho : Only S w w')
    (c1 : ∀ (v1 : Value) (n : Nat) (xs : List Value), w.ownsRow B0 87 13 v1 n xs → ∀ k, v1.ownBlock = some k → ¬ S k)
    (c2 : ∀ (p : Pk) (u' : V3), OwnPk B0 p u'.1 u'.2.1 u'.2.2 w → (∀ u ∈ us, ∀ k, Blk u k → ¬ Blk u' k) → ∀ k, Blk u' k → ¬ S k) : RefSt B0 us ws v2 us2 w' := by
  obtain ⟨v1, ws1, us1, h1, h2, h3, h4, h5, h6, h7⟩ := h
  refine ⟨v1, ws1, us1, h1.only ho (c1 v1 _ _ h1.1), h2, fun i x u hx hu => ?_, h4, h5, h6, fun i x u hx hu => ?_⟩
  · exact (h3 i x u hx hu).off ho (c2 x.p u (h3 i x u hx hu) fun u0 h0 k hk => h6 u0 h0 u (List.mem_of_getElem? hu) k hk)
  · exact (h7 i x u hx hu).off ho (c2 x.p u (h7 i x u hx hu) fun u0 h0 k hk => h6 u0 h0 u (h5 u (List.mem_of_getElem? hu)) k hk)
theorem RefSt.pure {B0 : Nat} {us : List V3} {ws : List Wt} {v2 : Value} {us2 : List V3} {w w' : World} (h : RefSt B0 us ws v2 us2 w) (ho : Only (fun _ => False) w w') : RefSt B0 us ws v2 us2 w' := h.off ho (fun _ _ _ _ _ _ e => e) (fun _ _ _ _ _ _ e => e)
/-- Fewer of the program's packets; less of the reference's row. -/
theorem RefSt.less {B0 : Nat} {us us' : List V3} {ws ws' : List Wt} {v2 v2' : Value} {us2 us2' : List V3} {w : World} (h : RefSt B0 us ws v2 us2 w) (hu : ∀ u ∈ us', u ∈ us) (h2 : ∀ u ∈ us2', u ∈ us2) (hgo : ∀ W, RdL W v2 ws us2 → RdL W v2' ws' us2') (h7 : ∀ (i : Nat) (x : Wt) (u : V3), ws'[i]? = some x → us2'[i]? = some u → ∃ k : Nat, ws[k]? = some x ∧ us2[k]? = some u) : RefSt B0 us' ws' v2' us2' w := by
  obtain ⟨v1, ws1, us1, q1, q2, q3, q4, q5, q6, q7⟩ := h
  exact ⟨v1, ws1, us1, q1, q2, q3, fun W hW => hgo W (q4 W hW), fun u hu => q5 u (h2 u hu), fun u hm => q6 u (hu u hm), fun i x u hx hu => by
    obtain ⟨k, h1, h2⟩ := h7 i x u hx hu
    exact q7 k x u h1 h2⟩
/-- The two buffers, side by side. -/
structure St (b B0 B : Nat) (m : Bf) (v : Value) (us : List V3) (r : Rb) (v2 : Value) (us2 : List V3) (w : World) : Prop where
  bf : Bfr w b m v us B
  good : m.Good
  sim : Sim m r
  few : ∀ x ∈ m.ws, Bd x.p
  ref : RefSt B0 us r.ws v2 us2 w
  lb : B0 ≤ b
  lB : B0 ≤ B
  hB : B ≤ w.heap.size
section
variable {b B0 B : Nat} {m : Bf} {v : Value} {us : List V3} {r : Rb} {v2 : Value} {us2 : List V3} {w w' : World}
theorem St.pure (h : St b B0 B m v us r v2 us2 w) (ho : Only (fun _ => False) w w') : St b B0 B m v us r v2 us2 w' :=
  ⟨h.bf.pure ho, h.good, h.sim, h.few, h.ref.pure ho, h.lb, h.lB, Nat.le_trans h.hB ho.size⟩
/-- Another block is written. -/
theorem St.far (h : St b B0 B m v us r v2 us2 w) {g : Nat} {T : TypeId} {cs : Array Value} (hg : Is w g T cs) (h1 : T ≠ 65) (h2 : T ≠ 79) (h3 : T ≠ 87) (h4 : T ≠ 5) (h5 : T ≠ 38)
    (ho : Only (fun k => k = g) w w') : St b B0 B m v us r v2 us2 w' := by
  have hpk : ∀ (B' : Nat) (p : Pk) (u : V3), OwnPk B' p u.1 u.2.1 u.2.2 w → ∀ k, Blk u k → ¬ k = g := fun B' p u hu k hk e => by
    subst e
    rcases hk with e | e | e
    · exact owned_off hu.1 hg (fun e => h5 e.symm) e
    · exact owned_off hu.2.1 hg (fun e => h4 e.symm) e
    · exact owned_off hu.2.2 hg (fun e => h4 e.symm) e
  refine ⟨h.bf.only ho (fun e => Is.apart hg h.bf.is h1 e.symm) (fun k hk e => owned_off h.bf.row.1 hg (fun e => h2 e.symm) (by rw [hk, e])) (fun u hu k hk => ?_), h.good, h.sim, h.few,
    h.ref.off ho (fun v1 n xs hv k hk e => owned_off hv hg (fun e => h3 e.symm) (by rw [hk, e])) (fun p u hu _ k hk => hpk _ p u hu k hk), h.lb, h.lB, Nat.le_trans h.hB ho.size⟩
  obtain ⟨i, hi⟩ := List.getElem?_of_mem hu
  have hil : i < m.ws.length := by rw [← h.bf.pks.len]; exact (List.getElem?_eq_some_iff.1 hi).1
  exact hpk _ _ u (h.bf.pks.own i _ u (List.getElem?_eq_getElem hil) hi) k hk
end
/-- What is done behind a call. -/
def SameSt (b B0 B : Nat) (m : Bf) (v : Value) (us : List V3) (r : Rb) (v2 : Value) (us2 : List V3) (w : World) (e : Ending) (w' : World) : Prop :=
  e = .returned (.bool true) ∧ St b B0 B m v us r v2 us2 w' ∧ (∀ g cs, Is w g 32 cs → Is w' g 32 cs) ∧ Only (fun k => B0 ≤ k) w w'
/-- What stands before it: a call has let j go, of both. -/
structure Went (b B0 B j : Nat) (m : Bf) (v' vo mo : Value) (us : List V3) (r : Rb) (v2 v2' : Value) (us2 : List V3) (w : World) : Prop where
  bf : Bfr w b (m.gone j) v' (us.drop j) B
  pks : Pks w B m.ws us
  good : (m.gone j).Good
  sim : Sim (m.gone j) (r.gone j)
  ws : r.ws = m.ws
  nx : m.ws = [] ∨ r.next = m.nx
  few : ∀ x ∈ m.ws, Bd x.p
  ref : RefSt B0 us r.ws v2 us2 w
  len : m.ws.length ≤ 300
  vo : OwnS w B0 62 14 vo ((items m.nx (m.ws.take j) (us.take j)).map It.cls)
  mo : OwnS w B0 92 14 mo ((items r.next (r.ws.take j) (us2.take j)).map It.cls)
  go : ∀ W, RdL W v2 r.ws us2 → RdL W v2' (r.ws.drop j) (us2.drop j)
  lb : B0 ≤ b
  lB : B0 ≤ B
  hB : B ≤ w.heap.size
theorem drop_mem {α : Type} {l : List α} {j : Nat} {x : α} (h : x ∈ l.drop j) : x ∈ l := List.mem_of_mem_drop h
theorem OwnPk.not_is {B g : Nat} {p : Pk} {u : V3} {w : World} {T : TypeId} {cs : Array Value} (h : OwnPk B p u.1 u.2.1 u.2.2 w) (hg : Is w g T cs) (h4 : 5 ≠ T) (h5 : 38 ≠ T) : ¬ Blk u g := by
  rintro (e | e | e)
  · exact owned_off h.1 hg h5 e
  · exact owned_off h.2.1 hg h4 e
  · exact owned_off h.2.2 hg h4 e
theorem after_same {b B0 B j : Nat} {m : Bf} {v' vo mo : Value} {us : List V3} {r : Rb} {v2 v2' : Value} {us2 : List V3} {w : World} (h : Went b B0 B j m v' vo mo us r v2 v2' us2 w) :
    Calls Try.prog 27 #[vo, mo] w (SameSt b B0 B (m.gone j) v' (us.drop j) (r.gone j) v2' (us2.drop j) w) := by
  have hrd := h.ref.rd
  have hul := h.pks.len
  have hu2l : us2.length = m.ws.length := by rw [hrd.len, h.ws]
  -- each thing that goes
  have hown : ∀ x ∈ items m.nx (m.ws.take j) (us.take j), OwnPk B x.p x.u.1 x.u.2.1 x.u.2.2 w ∧ Bd x.p ∧ (x.u = nil3 ∨ ∃ i, i < j ∧ us[i]? = some x.u) := by
    intro x hx
    rcases items_mem _ _ _ x hx with ⟨e1, e2⟩ | ⟨i, y, u, h1, h2, h3, h4⟩
    · rw [e1, e2]
      exact ⟨⟨World.ownsRow_nil _ _ _ _, World.ownsRow_nil _ _ _ _, World.ownsRow_nil _ _ _ _⟩, ⟨by decide, by decide, by decide⟩, .inl rfl⟩
    · have hij : i < j := by
        have := (List.getElem?_eq_some_iff.1 h1).1
        rw [List.length_take] at this
        omega
      rw [List.getElem?_take_of_lt hij] at h1 h2
      rw [h3, h4]
      exact ⟨h.pks.own i y u h1 h2, h.few y (List.mem_of_getElem? h1), .inr ⟨i, hij, h2⟩⟩
  have hrr : ∀ x ∈ items r.next (r.ws.take j) (us2.take j), RdPk x.p x.u.1 x.u.2.1 x.u.2.2 w ∧ (x.u = nil3 ∨ x.u ∈ us2) := by
    intro x hx
    rcases items_mem _ _ _ x hx with ⟨e1, e2⟩ | ⟨i, y, u, h1, h2, h3, h4⟩
    · rw [e1, e2]
      exact ⟨OwnPk.rd (B := B) ⟨World.ownsRow_nil _ _ _ _, World.ownsRow_nil _ _ _ _, World.ownsRow_nil _ _ _ _⟩, .inl rfl⟩
    · have hij : i < j := by
        have := (List.getElem?_eq_some_iff.1 h1).1
        rw [List.length_take] at this
        omega
      rw [List.getElem?_take_of_lt hij] at h1 h2
      rw [h3, h4]
      exact ⟨(hrd.at_ i y u h1 h2).2, .inr (List.mem_of_getElem? h2)⟩
  have hap : (items m.nx (m.ws.take j) (us.take j)).Pairwise (fun x y => ∀ k, Blk x.u k → ¬ Blk y.u k) := by
    refine items_pw (R := fun a b => ∀ k, Blk a k → ¬ Blk b k) (fun u k hk => absurd hk (blk_nil3 k)) (fun u k _ => blk_nil3 k) _ _ _ ?_
    exact List.Pairwise.sublist (List.take_sublist _ _) ((apart_iff _).1 h.pks.apart)
  obtain ⟨v1, ws1, us1, q1, q2, q3, q4, q5, q6, q7⟩ := h.ref
  have hus1 : ∀ u' ∈ us1, ∃ p, OwnPk B0 p u'.1 u'.2.1 u'.2.2 w := fun u' hu' => by
    obtain ⟨i, hi⟩ := List.getElem?_of_mem hu'
    have hil : i < ws1.length := by rw [← q2]; exact (List.getElem?_eq_some_iff.1 hi).1
    exact ⟨_, q3 i _ u' (List.getElem?_eq_getElem hil) hi⟩
  refine (lsame_is vo mo _ (items r.next (r.ws.take j) (us2.take j)) B0 B0 B w h.vo h.mo ?_ (fun i x hx => (hown x (List.mem_of_getElem? hx)).1) ((apart_iff _).2 hap) (fun i x hx => (hrr x (List.mem_of_getElem? hx)).1) ?_ ?_ ?_ (fun x hx => (hown x hx).2.1)).mono ?_
  · rcases h.nx with e | e
    · rw [h.ws, e, List.take_nil, items_nil, items_nil]
      rfl
    · rw [e, h.ws]
      exact alike_items _ _ _ _ (by rw [List.length_take, List.length_take, hul]) (by rw [List.length_take, List.length_take, hu2l])
  · intro x hx y hy k hk
    rcases (hown x hx).2.2 with e | ⟨i, _, hi⟩
    · rw [e] at hk
      exact absurd hk (blk_nil3 k)
    · rcases (hrr y hy).2 with e | hm
      · rw [e]
        exact blk_nil3 k
      · exact q6 x.u (List.mem_of_getElem? hi) y.u (q5 _ hm) k hk
  · intro y hy j' hb
    rcases (hrr y hy).2 with e | hm
    · rw [e] at hb
      exact absurd hb (blk_nil3 j')
    · obtain ⟨p, hp⟩ := hus1 y.u (q5 _ hm)
      intro hv
      exact hp.typed h.vo.1 (by decide) (by decide) j' hv hb
  · have := items_len (m.ws.take j) (us.take j) m.nx
    rw [List.length_take] at this
    have := h.len
    omega
  · rintro e w' ⟨rfl, ho⟩
    -- what is written
    have hsp : ∀ k, SpoS vo (items m.nx (m.ws.take j) (us.take j)) k → (vo.ownBlock = some k) ∨ ∃ i u, i < j ∧ us[i]? = some u ∧ Blk u k := by
      rintro k (hk | ⟨x, hx, hk⟩)
      · exact .inl hk
      · rcases (hown x hx).2.2 with e | ⟨i, hij, hi⟩
        · rw [e] at hk
          exact absurd hk (blk_nil3 k)
        · exact .inr ⟨i, _, hij, hi, hk⟩
    have hpk : ∀ (i : Nat) (u : V3), us[i]? = some u → ∃ p, OwnPk B p u.1 u.2.1 u.2.2 w := fun i u hi => by
      have hil : i < m.ws.length := by rw [← hul]; exact (List.getElem?_eq_some_iff.1 hi).1
      exact ⟨_, h.pks.own i _ u (List.getElem?_eq_getElem hil) hi⟩
    have href : RefSt B0 us r.ws v2 us2 w' := RefSt.off (w := w) ⟨v1, ws1, us1, q1, q2, q3, q4, q5, q6, q7⟩ ho
      (fun v1 n xs hv k hk hs => by
        rcases hsp k hs with e | ⟨i, u, -, hi, hb⟩
        · exact owned_apart hv h.vo.1 (by decide) k hk e
        · obtain ⟨p, hp⟩ := hpk i u hi
          exact hp.typed hv (by decide) (by decide) k hk hb)
      (fun p u' hu' hd k hk hs => by
        rcases hsp k hs with e | ⟨i, u, -, hi, hb⟩
        · exact hu'.typed h.vo.1 (by decide) (by decide) k e hk
        · exact hd u (List.mem_of_getElem? hi) k hb hk)
    refine ⟨rfl, ⟨h.bf.only ho ?_ ?_ ?_, h.good, h.sim, fun x hx => h.few x (drop_mem hx), href.less (fun u hu => drop_mem hu) (fun u hu => drop_mem hu) h.go (fun i x u hx hu => ⟨j + i, by rw [← List.getElem?_drop]; exact hx, by rw [← List.getElem?_drop]; exact hu⟩), h.lb, h.lB, Nat.le_trans h.hB ho.size⟩, ?_, ?_⟩
    · intro hs
      rcases hsp b hs with e | ⟨i, u, -, hi, hb⟩
      · exact owned_off h.vo.1 h.bf.is (by decide) e
      · obtain ⟨p, hp⟩ := hpk i u hi
        exact hp.not_is h.bf.is (by decide) (by decide) hb
    · intro k hk hs
      rcases hsp k hs with e | ⟨i, u, -, hi, hb⟩
      · exact owned_apart h.bf.row.1 h.vo.1 (by decide) k hk e
      · obtain ⟨p, hp⟩ := hpk i u hi
        exact hp.typed h.bf.row.1 (by decide) (by decide) k hk hb
    · intro u hu k hk hs
      obtain ⟨i, hi⟩ := List.getElem?_of_mem hu
      rw [List.getElem?_drop] at hi
      rcases hsp k hs with e | ⟨i', u', hij, hi', hb⟩
      · obtain ⟨p, hp⟩ := hpk _ u hi
        exact hp.typed h.vo.1 (by decide) (by decide) k e hk
      · exact h.pks.apart i' (j + i) u' u (by omega) hi' hi k hb hk
    · intro g cs hg
      refine hg.only ho (fun hs => ?_)
      rcases hsp g hs with e | ⟨i, u, -, hi, hb⟩
      · exact owned_off h.vo.1 hg (by decide) e
      · obtain ⟨p, hp⟩ := hpk i u hi
        exact hp.not_is hg (by decide) (by decide) hb
    · refine ho.mono (fun k _ hs => ?_)
      rcases hsp k hs with e | ⟨i, u, -, hi, hb⟩
      · exact (h.vo.lt k e).1
      · obtain ⟨p, hp⟩ := hpk i u hi
        exact Nat.le_trans h.lB (OwnPk.blk hp k hb).1
end Go.Proofs.Ytdcclighccejhaa
