/- WindowPlays' walk. Conditions: as each says. -/
import Derived.Test.YtllchikjdpoopaaWnM
set_option linter.unusedVariables false
namespace Go.Proofs.Ytllchikjdpoopaa
open Go Go.RowKit

/-- Before round k. -/
structure PlAt (s b p cb k : Nat) (w wr : World) (m : Wm) (L : List Nat) (v : Value) : Prop where
  wnd : Wnd wr b m
  sim : Sim s m L
  fit : m.Fit
  x : Is wr p 30 #[.int .i64 (s : Int), v]
  rd : Rd .u64 wr v (nats L)
  form : v = .slice none 0 0 ∨ ∃ ad n c, v = .slice (some ad) n c
  len : L.length ≤ k
  lt : ∀ x ∈ L, x < 18446744073709551616
  cnt : Is wr cb 23 #[.int .u64 (m.c 0 : Int), .int .u64 (m.c 1 : Int), .int .u64 (m.c 2 : Int)]
  cle : ∀ i, m.c i ≤ k
  off : ∀ j, v.ownBlock = some j → j ≠ cb ∧ j ≠ b
  only : Only (fun _ => False) w wr
theorem PlAt.step {s b p cb k : Nat} {w wr wx : World} {m : Wm} {L : List Nat} {v : Value} (h : PlAt s b p cb k w wr m L v) (ho : Only (fun _ => False) wr wx) : PlAt s b p cb k w wx m L v :=
  ⟨h.wnd.only ho (by simp), h.sim, h.fit, h.x.only ho (by simp), h.rd.said ho, h.form, h.len, h.lt, h.cnt.only ho (by simp), h.cle, h.off, h.only.trans ho (fun _ _ e => e)⟩
theorem PlAt.count {s b p cb k : Nat} {w wr : World} {m : Wm} {L : List Nat} {v : Value} (h : PlAt s b p cb k w wr m L v) (i : Nat) (hi : i < 3) : wr.cell? ⟨cb, i, none⟩ = some (.int .u64 (m.c i : Int)) := by
  rw [h.cnt.cell]
  have : i = 0 ∨ i = 1 ∨ i = 2 := by omega
  rcases this with rfl | rfl | rfl <;> rfl
theorem rIn_len (s : Nat) (L : List Nat) (n : Nat) : (rIn s L n).length ≤ L.length + 1 := by
  unfold rIn
  split <;> simp
theorem rIn_lt {s : Nat} {L : List Nat} {n : Nat} (h : ∀ x ∈ L, x < 18446744073709551616) (hn : n < 18446744073709551616) : ∀ x ∈ rIn s L n, x < 18446744073709551616 := by
  unfold rIn
  split
  · intro x hx
    rcases List.mem_append.1 hx with hx | hx
    · exact h x hx
    · have : x = n := by simpa using hx
      omega
  · exact h
theorem count_put (c : Nat → Nat) (i : Nat) (hi : i < 3) : (#[.int .u64 (c 0 : Int), .int .u64 (c 1 : Int), .int .u64 (c 2 : Int)] : Array Value).setIfInBounds i (.int .u64 ((c i + 1 : Nat) : Int)) =
    #[.int .u64 ((if 0 = i then c 0 + 1 else c 0 : Nat) : Int), .int .u64 ((if 1 = i then c 1 + 1 else c 1 : Nat) : Int), .int .u64 ((if 2 = i then c 2 + 1 else c 2 : Nat) : Int)] := by
  have : i = 0 ∨ i = 1 ∨ i = 2 := by omega
  rcases this with rfl | rfl | rfl <;> rfl
/-- What Missing answered is written over; else nothing is. -/
def SpAt (A : Option Addr) (M : Nat) (wT wr : World) : Prop := Only (fun _ => False) wT wr ∧ (0 < M → ∃ g cur, A = some ⟨g, 0, none⟩ ∧ wT.heap.size ≤ g ∧ Is wr g 23 cur ∧ M ≤ cur.size)
theorem SpAt.first {A : Option Addr} {c : Nat} {ms : List Nat} {wT wr : World} (h : wr.ownsRow wT.heap.size 23 1 (.slice A ms.length c) ms.length (cells64 ms)) (ho : Only (fun _ => False) wT wr) : SpAt A ms.length wT wr := by
  refine ⟨ho, fun hp => ?_⟩
  rcases h.2 with ⟨_, h0⟩ | ⟨g, cap, cur, e, hb, hg, hc, _, hs, _⟩
  · omega
  · injection e with e1
    exact ⟨g, cur, e1, hb, hg, by omega⟩
theorem SpAt.put {A : Option Addr} {M g j : Nat} {cur : Array Value} {wT wr : World} (ho : Only (fun _ => False) wT wr) (hA : A = some ⟨g, 0, none⟩) (hg : wT.heap.size ≤ g) (hi : Is wr g 23 cur) (hM : M ≤ cur.size) (u : Value) : SpAt A M wT (wr.setCell ⟨g, j, none⟩ u) :=
  ⟨ho.trans ((Only.refl (fun i => i = g) wr).setIn u) (fun i hi e => by omega), fun _ => ⟨g, _, hA, hg, hi.put j u, by simpa using hM⟩⟩
theorem Wnd.lt {w : World} {b : Nat} {m : Wm} (h : Wnd w b m) : b < w.heap.size := by
  obtain ⟨D, h⟩ := h
  exact h.lt
theorem PlAt.apart {s b p cb k : Nat} {w wr : World} {m : Wm} {L : List Nat} {v : Value} (h : PlAt s b p cb k w wr m L v) : p ≠ b ∧ cb ≠ b ∧ cb ≠ p := by
  obtain ⟨D, hD⟩ := h.wnd
  exact ⟨Is.apart h.x hD.is (by decide), Is.apart h.cnt hD.is (by decide), Is.apart h.cnt h.x (by decide)⟩
/-- One round's stores. -/
theorem PlAt.next {s b p cb k nk : Nat} {w w5 w6 w7 w8 : World} {m : Wm} {L : List Nat} {v v2 : Value} {B : Nat} (h : PlAt s b p cb k w w5 m L v) (hs1 : 1 ≤ s) (hs2 : s ≤ 1024) (hn : nk < 18446744073709551616)
    (hWd : Wnd w6 b (m.inn nk)) (ho6 : Only (fun j => j = b) w5 w6) (h7 : Is w7 p 30 #[.int .i64 (s : Int), v2]) (ho7 : Only (fun j => j = p) w6 w7)
    (h8 : w7.setCell ⟨cb, rLook s L nk, none⟩ (.int .u64 ((m.c (rLook s L nk) : Int) + 1)) = w8) (hnv : NewV s (rIn s L nk) v v2 B w5) (hoff : ∀ j, v2.ownBlock = some j → j ≠ cb ∧ j ≠ b)
    (hp : w.heap.size ≤ p) (hc : w.heap.size ≤ cb) (hb : w.heap.size ≤ b) : PlAt s b p cb (k + 1) w w8 (m.inn nk) (rIn s L nk) v2 := by
  obtain ⟨a1, a2, a3⟩ := h.apart
  have hlk : rLook s L nk < 3 := by rw [← h.sim.look hs1]; exact m.look_lt nk
  have x6 := h.x.only ho6 a1
  have c7 := (h.cnt.only ho6 a2).only ho7 a3
  have ho8 : Only (fun j => j = cb) w7 w8 := by rw [← h8]; exact (Only.refl (fun j => j = cb) w7).setIn _
  have r6 : Rd .u64 w6 v2 (nats (rIn s L nk)) := hnv.1.only ho6 (fun j hj e => (hoff j hj).2 e)
  have r7 : Rd .u64 w7 v2 (nats (rIn s L nk)) := r6.past x6 (form_not h.form) ho7
  refine ⟨(hWd.only ho7 (fun e => a1 e.symm)).only ho8 (fun e => a2 e.symm), h.sim.inn hs1 hs2 nk, h.fit.inn hn, h7.only ho8 (fun e => a3 e.symm), r7.only ho8 (fun j hj e => (hoff j hj).1 e), hnv.2.1, ?_, rIn_lt h.lt hn, ?_, ?_, hoff, ?_⟩
  · have := rIn_len s L nk
    have := h.len
    omega
  · have := c7.put (rLook s L nk) (.int .u64 ((m.c (rLook s L nk) + 1 : Nat) : Int))
    rw [count_put _ _ hlk] at this
    simp only [inn_c, h.sim.look hs1]
    rw [← h8]
    exact this
  · intro i
    rw [inn_c]
    have := h.cle i
    split <;> omega
  · exact ((h.only.trans ho6 (fun i hi e => by omega)).trans ho7 (fun i hi e => by omega)).trans ho8 (fun i hi e => by omega)

set_option maxRecDepth 100000 in
set_option maxHeartbeats 8000000 in
theorem plays_walk (z : Int) (lv : Value) (xs : List Nat) (n : Nat) (sz : Int) (w : World) (hr : Rd .u64 w lv (nats xs)) (hx : ∀ x ∈ xs, x < 18446744073709551616) (hl : xs.length ≤ 9223372036854775807) :
    Calls Try.prog 3 #[.int .i64 z, lv, .int .u64 (n : Int), .int .i64 sz] w (Says (.bool true) w) := by
  obtain ⟨A, c, rfl, hlc, hcell⟩ := hr.opened
  obtain ⟨N, hN⟩ : ∃ N, xs.length = N := ⟨_, rfl⟩
  have HCELL := Lib.hid hcell
  have HX := Lib.hid hx
  have HN := Lib.hid hN
  rw [hN] at hlc hl ⊢
  clear hcell hx hN hr
  by_cases hbig : 60 < N
  · go_enter Try.func3, Try.ntmps3
    go_wp2_with fail
    refine (nworks_is _).mono ?_
    rintro e w8 ⟨rfl, ho⟩
    have O8 := Lib.hid ho
    clear ho
    go_wp2
    go_ret
    exact ⟨rfl, O8.out⟩
  by_cases hz : ¬ (1 ≤ z ∧ z ≤ 1024)
  · have HNO := Lib.hid (of_none z w hz)
    have HW := Lib.hid (show ∀ h : z ≥ 1, 1024 < z from fun h => by omega)
    clear hz
    go_enter Try.func3, Try.ntmps3
    go_wp2_with fail
    refine HNO.out.mono ?_
    rintro e w1 ⟨rfl, rfl⟩
    by_cases h1 : z < 1
    · go_wp2_with fail
      refine (nworks_is _).mono ?_
      rintro e w8 ⟨rfl, ho⟩
      have O8 := Lib.hid ho
      clear ho
      go_wp2
      go_ret
      exact ⟨rfl, O8.out⟩
    · have h2 := HW.out (by omega)
      go_wp2_with fail
      refine (nworks_is _).mono ?_
      rintro e w8 ⟨rfl, ho⟩
      have O8 := Lib.hid ho
      clear ho
      go_wp2
      go_ret
      exact ⟨rfl, O8.out⟩
  have hz := Decidable.not_not.1 hz
  obtain ⟨s, rfl⟩ : ∃ s : Nat, z = (s : Int) := ⟨z.toNat, by omega⟩
  have hs1 : 1 ≤ s := by omega
  have hs2 : s ≤ 1024 := by omega
  have hs3 : ¬ (s < 1) := by omega
  have hs4 : ¬ (1024 < s) := by omega
  clear hz
  have HOF := Lib.hid (of_is s w hs1 hs2)
  go_enter Try.func3, Try.ntmps3
  go_wp2_with fail
  refine HOF.out.mono ?_
  rintro e w1 ⟨b, rfl, hb, hw, ho⟩
  have X1 := Lib.hid hw
  have O1 := Lib.hid ho
  clear hw ho HOF
  go_upto_region 8 with (fail)
  obtain ⟨p, hp⟩ : ∃ p, w1.heap.size = p := ⟨_, rfl⟩
  obtain ⟨cb, hcb⟩ : ∃ q, w1.heap.size + 1 = q := ⟨_, rfl⟩
  generalize hw2 : World.alloc (World.alloc w1 _) _ = w2
  have S0 := Lib.hid (show PlAt s b p cb 0 w w2 (Wm.new s) [] (.slice none 0 0) from by
    have ho2 : Only (fun _ => False) w1 w2 := by rw [← hw2]; exact ((Only.refl _ w1).alloc _).alloc _
    refine ⟨X1.out.only ho2 (by simp), Sim.new s, Wm.Fit.new hs1 hs2, ?_, Rd.nil _ _, .inl rfl, Nat.le_refl _, by simp, ?_, fun i => Nat.le_refl _, fun j hj => by simp [Value.ownBlock] at hj, O1.out.trans ho2 (fun _ _ e => e)⟩
    · rw [← hw2, ← hp]; exact (Is.made w1 _ _).alloc _
    · have e : (w1.alloc (.cells #[.int .i64 (s : Int), .slice none 0 0] 30)).heap.size = w1.heap.size + 1 := by simp
      rw [← hw2, ← hcb, ← e]
      exact Is.made _ _ _)
  rw [hcb, hp]
  have HPC := Lib.hid (show w.heap.size ≤ p ∧ w.heap.size ≤ cb from by have := O1.out.size; omega)
  clear hw2 hp hcb X1 O1
  go_wp2
  go_loopw [13] (fun i wr => ∃ k : Nat, k ≤ N ∧ i = .int .i64 (k : Int) ∧ ∃ m L v, PlAt s b p cb k w wr m L v) (fun i _ => N + 1 - (intOf i).toNat)
  case atStart => exact ⟨0, by omega, rfl, _, _, _, S0.out⟩
  case round =>
    obtain ⟨k, hk, rfl, m, L, v, hS⟩ := hrel
    have S := Lib.hid hS
    clear hS S0
    by_cases hkl : k < N
    · have hkx : k < xs.length := by rw [HN.out]; exact hkl
      obtain ⟨q, o, rfl, hcc⟩ := HCELL.out (by omega)
      have cq := hcc k hkx
      have hn := HX.out xs[k] (List.getElem_mem _)
      generalize xs[k] = nk at *
      have hqw : q < w.heap.size := World.block_lt_of_cell? w ⟨q, o + k, none⟩ cq
      have CQ := Lib.hid (fun (wx : World) (h : Only (fun _ => False) w wx) => (h.cell (p := ⟨q, o + k, none⟩) hqw (by simp)).trans cq)
      have HQW := Lib.hid hqw
      have HKX := Lib.hid hn
      clear hcc cq hkx hn hqw
      obtain ⟨D, hD⟩ := S.out.wnd
      have HLK := look_is b n m D _ hD S.out.fit
      rw [S.out.sim.look hs1] at HLK
      have HLK := Lib.hid HLK
      clear hD
      go_wp2_with fail
      refine HLK.out.mono ?_
      rintro e w3 ⟨rfl, ho⟩
      have S3 := Lib.hid (S.out.step ho)
      clear ho HLK S
      go_upto_region 12 with (fail)
      refine plays12 s nk p q o k N c v L (by have := S3.out.len; omega) hs1 hs2 S3.out.lt S3.out.form hkl _ _ _ _ _ _ _ _ _ _ _ _ _ _ _ _ _ _ _ _ _ _ _ _ _ _ _ _ _ _ _ _ _ _ _ _ _ _ _ _ _ _ _ _ _ _ _ _ _ _ _ _ _ _ _ _ _ _ _ _ _ _ _ _ _ _ _ _ _ _ _ _ _ _ _ _ _ _ _ _ _ _ _ _ _ _ _ _ _ _ _ _ _ _ _ _ _ _ _ _ _ _ _ _ _ _ _ _ _ _ _ _ _ _ _ _ _ _ _ _ _ _ _ _ _ _ _ _ _ _ _ _ _ _ _ _ _ _ _ _ _ _ _ _ _ _ _ _ _ _ _ _ _ _ _ _ _ _ _ _ _ _ _ _ _ _ _ _ _ S3.out.x S3.out.rd (CQ.out _ S3.out.only) (Nat.lt_of_lt_of_le HQW.out S3.out.only.size) ?_
      rintro y15 y61 y62 y63 y64 y65 y66 y67 y68 y69 w4 ⟨g, v2, rfl, hg, hnv, hgw, ho⟩
      have S4 := Lib.hid (S3.out.step ho)
      have G4 := Lib.hid hg
      have NV4 := Lib.hid hnv
      have HGW := Lib.hid (show w.heap.size ≤ g from Nat.le_trans S3.out.only.size hgw)
      have HOFF := Lib.hid (show ∀ j, v2.ownBlock = some j → j ≠ cb ∧ j ≠ b from fun j hj => by
        rcases hnv.2.2 with e | e
        · rw [e] at hj; exact S3.out.off j hj
        · have := e j hj
          have := S3.out.cnt.lt
          obtain ⟨D9, hD9⟩ := S3.out.wnd
          have := hD9.lt
          omega)
      have HGP := Lib.hid (show g ≠ p from by have := S3.out.x.lt; omega)
      clear ho hg hnv hgw S3
      have HRL := Lib.hid (fun (wx : World) (h : PlAt s b p cb k w wx m L v) => rlook_is s n v L wx h.rd (by have := h.len; omega) hs1 hs2 h.lt)
      have HCAME := Lib.hid (show ∀ (wx : World), PlAt s b p cb k w wx m L v → Calls Try.prog 12 #[ptr b, .int .u64 (nk : Int)] wx (fun e w' => e = .returned (.int .i64 (rLook s L nk : Int)) ∧ Wnd w' b (m.inn nk) ∧ Only (fun k => k = b) wx w') from fun wx h => by
        have := in_is b nk m wx h.wnd h.fit HKX.out (by have := h.cle (m.look nk); omega)
        unfold Came at this
        rwa [h.sim.look hs1] at this)
      have HLT := Lib.hid (show rLook s L nk < 3 from by rw [← S4.out.sim.look hs1]; exact m.look_lt nk)
      have HNEXT := Lib.hid (fun (w5 w6 w7 w8 : World) (h : PlAt s b p cb k w w5 m L v) => PlAt.next (w6 := w6) (w7 := w7) (w8 := w8) (v2 := v2) (B := w3.heap.size) h hs1 hs2 HKX.out)
      generalize rLook s L n = lk1 at *
      generalize rLook s L nk = lk2 at *
      generalize rIn s L nk = L2 at *
      go_wp2_with (refine wpList_load_want (o := ⟨some 71, _, _, _, _, _⟩) rfl _ _ rfl p rfl _ _ _ S4.out.x Try.underlying30 rfl Try.sizeRw ?_)
      refine (HRL.out _ S4.out).mono ?_
      rintro e w5 ⟨rfl, ho⟩
      have S5 := Lib.hid (S4.out.step ho)
      have G5 := Lib.hid (G4.out.only ho (by simp))
      have NV5 := Lib.hid (show NewV s L2 v v2 w3.heap.size w5 from ⟨NV4.out.1.said ho, NV4.out.2⟩)
      clear ho S4 G4 NV4 HRL
      have cq := CQ.out _ S5.out.only
      go_wp2_with fail
      refine (HCAME.out _ S5.out).mono ?_
      rintro e w6 ⟨rfl, hwd, ho6⟩
      have HAP := Lib.hid S5.out.apart
      have W6 := Lib.hid hwd
      have O6 := Lib.hid ho6
      have X6 := Lib.hid (S5.out.x.only ho6 HAP.out.1)
      have G6 := Lib.hid (G5.out.only ho6 (fun e => by
        obtain ⟨D9, hD9⟩ := S5.out.wnd
        exact Is.apart G5.out hD9.is (by decide) e))
      have C6 := Lib.hid ((ho6.cell (p := ⟨cb, lk2, none⟩) S5.out.cnt.lt HAP.out.2.1).trans (S5.out.count lk2 HLT.out))
      have C6L := Lib.hid (show cb < w6.heap.size from Nat.lt_of_lt_of_le S5.out.cnt.lt ho6.size)
      have F6 := Lib.hid ((S5.out.cnt.only ho6 HAP.out.2.1).free lk2)
      clear hwd ho6 cq HCAME G5
      go_upto_region 16 with (first | (refine wpList_load_want (o := ⟨some 85, _, _, _, _, _⟩) rfl _ _ rfl g rfl _ _ _ G6.out Try.underlying30 rfl Try.sizeRw ?_) | (refine wpList_store_is rfl 30 _ _ rfl p #[.int .i64 (s : Int), v2] rfl rfl 30 _ X6.out Try.sizeRw rfl (by rcases NV5.out.2.1 with e | ⟨_, _, _, e⟩ <;> simp [e, Value.oneCell']) ?_; intro w7 hi7 ho7))
      have X7 := Lib.hid hi7
      have O7 := Lib.hid ho7
      have c7 := (ho7.cell (p := ⟨cb, lk2, none⟩) C6L.out HAP.out.2.2).trans C6.out
      have f7 := (ho7.frozen (p := ⟨cb, lk2, none⟩) C6L.out HAP.out.2.2).trans F6.out
      clear hi7 ho7
      have hlt3 : (lk2 : Int) < 3 := by have := HLT.out; omega
      have hcc : IntKind.u64.wrap ((m.c lk2 : Int) + 1) = (m.c lk2 : Int) + 1 := by
        have := S5.out.cle lk2
        rw [IntKind.wrap_u64]
        omega
      obtain ⟨cn, hcn⟩ : ∃ cn, m.c lk2 = cn := ⟨_, rfl⟩
      rw [hcn] at c7 hcc HNEXT
      clear hcn
      go_upto_region 17 with (fail)
      generalize hw8 : World.setCell w7 _ _ = w8
      have S8 := Lib.hid (HNEXT.out w5 w6 w7 w8 S5.out W6.out O6.out X7.out O7.out hw8 NV5.out HOFF.out HPC.out.1 HPC.out.2 hb)
      clear hw8 c7 f7 hcc hlt3 HNEXT X7 O7 C6 C6L F6 W6 O6 X6 G6 S5 NV5 HLT HOFF HGP HGW HAP CQ HQW HKX
      generalize m.inn nk = m2 at *
      have HTP := Lib.hid (show ∀ (wx : World), PlAt s b p cb (k + 1) w wx m2 L2 v2 → Calls Try.prog 13 #[ptr b] wx (Says (.tuple #[.int .u64 (rTop L2 : Int), .bool (decide (L2 ≠ []))]) wx) from fun wx h => by
        have := top_is b m2 wx h.wnd
        rwa [h.sim.top, h.sim.some] at this)
      have HRT := Lib.hid (fun (wx : World) (h : PlAt s b p cb (k + 1) w wx m2 L2 v2) => rtop_is s v2 L2 wx h.rd (by have := h.len; omega))
      generalize rTop L2 = tp at *
      generalize decide (L2 ≠ []) = sm at *
      go_wp2_with fail
      refine (HTP.out _ S8.out).mono ?_
      rintro e w9 ⟨rfl, ho⟩
      have S9 := Lib.hid (S8.out.step ho)
      clear ho S8 HTP
      go_wp2_with (refine wpList_load_want (o := ⟨some 100, _, _, _, _, _⟩) rfl _ _ rfl p rfl _ _ _ S9.out.x Try.underlying30 rfl Try.sizeRw ?_)
      refine (HRT.out _ S9.out).mono ?_
      rintro e w10 ⟨rfl, ho⟩
      have S10 := Lib.hid (S9.out.step ho)
      clear ho S9 HRT
      go_wp2
      go_loopw [21] (fun i wr => ∃ t : Nat, t ≤ 2 ∧ i = .int .i64 (t : Int) ∧ PlAt s b p cb (k + 1) w wr m2 L2 v2) (fun i _ => 2 - (intOf i).toNat)
      case atStart => exact ⟨0, by omega, rfl, S10.out⟩
      case round =>
        obtain ⟨t, ht, rfl, hS⟩ := hrel
        obtain ⟨wr1, hwr1⟩ : ∃ x, x = wr := ⟨_, rfl⟩
        have T := Lib.hid hS
        rw [← hwr1] at T
        subst hwr1
        clear hS S10
        by_cases htl : t < 2
        · obtain ⟨D, hD⟩ := T.out.wnd
          have HMI := Lib.hid (missing_is b m2 D _ hD T.out.fit)
          have hml := miss_len T.out.fit
          have HSM := Lib.hid (T.out.sim.miss hs1)
          have HRM := Lib.hid (fun (wx : World) (h : PlAt s b p cb (k + 1) w wx m2 L2 v2) => rmissing_is s v2 L2 wx h.rd (by have := h.len; omega) hs1 hs2 h.lt)
          unfold Missed at HMI
          unfold RMissed at HRM
          rw [← HSM.out] at HRM
          clear hD HSM
          generalize m2.miss = ms at *
          go_wp2_with fail
          refine HMI.out.mono ?_
          rintro e w11 ⟨u, rfl, hu, hbl⟩
          have T11 := Lib.hid (T.out.step (Only.of_below hbl))
          have U11 := Lib.hid hu
          have HOB := Lib.hid (Only.of_below hbl)
          obtain ⟨A2, c2, rfl, hc2⟩ := own_slice hu
          clear hu hbl HMI
          go_wp2_with (refine wpList_load_want (o := ⟨some 119, _, _, _, _, _⟩) rfl _ _ rfl p rfl _ _ _ T11.out.x Try.underlying30 rfl Try.sizeRw ?_)
          refine (HRM.out _ T11.out).mono ?_
          rintro e w12 ⟨u2, rfl, hu2, ho⟩
          have T12 := Lib.hid (T11.out.step ho)
          have U12 := Lib.hid (owned_only U11.out ho (by simp))
          have R12 := Lib.hid hu2
          have HOB12 := Lib.hid (HOB.out.trans ho (fun _ _ e => e))
          clear ho hu2 T11 U11 HRM
          go_wp2_with fail
          refine (same64 _ _ ms _ (own_rd64 U12.out) R12.out (by omega)).mono ?_
          rintro e w13 ⟨rfl, ho⟩
          have T13 := Lib.hid (T12.out.step ho)
          have U13 := Lib.hid (owned_only U12.out ho (by simp))
          have HOB13 := Lib.hid (HOB12.out.trans ho (fun _ _ e => e))
          clear ho T12 U12 R12 HOB12
          have P13 := Lib.hid (SpAt.first U13.out HOB13.out)
          obtain ⟨M, hM⟩ : ∃ M, ms.length = M := ⟨_, rfl⟩
          rw [hM] at P13 hml hc2 ⊢
          clear U13 HOB HOB13 T13 hM
          go_wp2
          go_loopw [23] (fun i wr2 => ∃ j : Nat, j ≤ M ∧ i = .int .i64 (j : Int) ∧ SpAt A2 M wr1 wr2) (fun i _ => M - (intOf i).toNat)
          case atStart => exact ⟨0, by omega, rfl, P13.out⟩
          case round =>
            obtain ⟨j, hj, rfl, hP⟩ := hrel
            have P := Lib.hid hP
            clear hP P13
            by_cases hjM : j < M
            · obtain ⟨gr, cur, rfl, hgr, hic, hcs⟩ := P.out.2 (by omega)
              have cj := hic.cell j
              rw [Array.getElem?_eq_getElem (by omega)] at cj
              have fj := hic.free j
              generalize cur[j] = old at cj
              have NP := Lib.hid (SpAt.put (j := j) P.out.1 rfl hgr hic hcs (.int .u64 7))
              have hjI : (j : Int) < (M : Int) := by omega
              clear hic hcs
              go_wp2
              exact ⟨⟨j + 1, by omega, by go_num, NP.out⟩, by simp [intOf]; omega⟩
            · obtain rfl : j = M := by omega
              have T14 := Lib.hid (T.out.step P.out.1)
              clear T P hjM
              go_wp2
              exact ⟨⟨t + 1, by omega, by go_num, T14.out⟩, by simp [intOf]; omega⟩
        · obtain rfl : t = 2 := by omega
          go_wp2
          exact ⟨⟨k + 1, by omega, by go_num, _, _, _, T.out⟩, by simp [intOf]; omega⟩
    · obtain rfl : k = N := by omega
      clear hkl hk
      obtain ⟨wr1, hwr1⟩ : ∃ x, x = wr := ⟨_, rfl⟩
      rw [← hwr1] at S
      go_wp2
      go_loopw [24] (fun i wr2 => ∃ j : Nat, j ≤ 3 ∧ i = .int .i64 (j : Int) ∧ Only (fun _ => False) wr1 wr2) (fun i _ => 3 - (intOf i).toNat)
      case atStart => exact ⟨0, by omega, rfl, by rw [hwr1]; exact Only.refl _ _⟩
      case round =>
        obtain ⟨j, hj, rfl, hO⟩ := hrel
        have T := Lib.hid (S.out.step hO)
        have OT := Lib.hid hO
        clear hO S hwr1
        by_cases hj3 : j < 3
        · go_upto_region 34 with (fail)
          refine plays34 b cb j m hj3 _ _ _ _ _ _ _ _ _ _ _ _ _ _ _ _ _ _ _ _ _ _ _ _ _ _ _ _ _ _ _ _ _ _ _ _ _ _ _ _ _ _ _ _ _ _ _ _ _ _ _ _ _ _ _ _ _ _ _ _ _ _ _ _ _ _ _ _ _ _ _ _ _ _ _ _ _ _ _ _ _ _ _ _ _ _ _ _ _ _ _ _ _ _ _ _ _ _ _ _ _ _ _ _ _ _ _ _ _ _ _ _ _ _ _ _ _ _ _ _ _ _ _ _ _ _ _ _ _ _ _ _ _ _ _ _ _ _ _ _ _ _ _ _ _ _ _ _ _ _ _ _ _ _ _ _ _ _ _ _ _ _ _ _ _ _ _ _ _ T.out.wnd (T.out.count j hj3) T.out.cnt.lt ?_
          rintro y136 y137 y138 y139 y140 y141 y142 w5 ho
          have O5 := Lib.hid (OT.out.trans ho (fun _ _ e => e))
          clear ho T OT
          go_wp2
          refine ⟨⟨_, _, _, _, _, _, _, _, _, _, _, _, _, _, ?_, rfl⟩, ?_⟩
          · exact ⟨j + 1, by omega, by go_num, O5.out⟩
          · simp [intOf]; omega
        · obtain rfl : j = 3 := by omega
          clear hj3 hj
          have HWD := Lib.hid (fun wx => word_is sz wx)
          have HRW := Lib.hid (fun wx => rword_is sz wx)
          have HOUT := Lib.hid (fun wx (h : ¬ (0 ≤ sz ∧ sz < 3)) => count_out b sz m wx h)
          have OTT := Lib.hid T.out.only
          generalize wordS sz = ws at *
          by_cases h0 : 0 ≤ sz
          · by_cases h3 : sz < 3
            · go_wp2_with fail
              refine (HWD.out _).mono ?_
              rintro e w5 ⟨rfl, rfl⟩
              go_wp2_with fail
              refine (HRW.out _).mono ?_
              rintro e w5 ⟨rfl, rfl⟩
              go_wp2_with fail
              refine (nworks_is _).mono ?_
              rintro e w8 ⟨rfl, ho⟩
              have O8 := Lib.hid (OTT.out.trans ho (fun _ _ e => e))
              clear ho
              go_wp2
              go_ret
              exact ⟨rfl, O8.out⟩
            · have HO2 := Lib.hid (fun wx => HOUT.out wx (fun h => h3 h.2))
              have h3b : 3 ≤ sz := by omega
              go_wp2_with fail
              refine (HWD.out _).mono ?_
              rintro e w5 ⟨rfl, rfl⟩
              go_wp2_with fail
              refine (HRW.out _).mono ?_
              rintro e w5 ⟨rfl, rfl⟩
              go_wp2_with fail
              refine (HO2.out _).mono ?_
              rintro e w5 ⟨rfl, rfl⟩
              go_wp2_with fail
              refine (nworks_is _).mono ?_
              rintro e w8 ⟨rfl, ho⟩
              have O8 := Lib.hid (OTT.out.trans ho (fun _ _ e => e))
              clear ho
              go_wp2
              go_ret
              exact ⟨rfl, O8.out⟩
          · have HO2 := Lib.hid (fun wx => HOUT.out wx (fun h => h0 h.1))
            have h0b : sz < 0 := by omega
            go_wp2_with fail
            refine (HWD.out _).mono ?_
            rintro e w5 ⟨rfl, rfl⟩
            go_wp2_with fail
            refine (HRW.out _).mono ?_
            rintro e w5 ⟨rfl, rfl⟩
            go_wp2_with fail
            refine (HO2.out _).mono ?_
            rintro e w5 ⟨rfl, rfl⟩
            go_wp2_with fail
            refine (nworks_is _).mono ?_
            rintro e w8 ⟨rfl, ho⟩
            have O8 := Lib.hid (OTT.out.trans ho (fun _ _ e => e))
            clear ho
            go_wp2
            go_ret
            exact ⟨rfl, O8.out⟩
end Go.Proofs.Ytllchikjdpoopaa
