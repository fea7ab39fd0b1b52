/- The reference of layer 10: first. Conditions: as each says. -/
import Derived.Test.YtdcclighccejhaaRoW
set_option linter.unusedVariables false
set_option linter.unusedSimpArgs false
namespace Go.Proofs.Ytdcclighccejhaa
open Go Go.RowKit

/-- The reference's buffer. -/
structure Rb where
  size : Int
  hold : Nat
  next : Nat
  begun : Bool
  ws : List Wt
def Rb.cells (r : Rb) (v : Value) : Array Value := #[.int .i64 r.size, .int .u64 (r.hold : Int), .int .u64 (r.next : Int), .bool r.begun, v]
/-- Packets that wait, in a row that can be read. -/
structure RdL (w : World) (v : Value) (ws : List Wt) (us : List V3) : Prop where
  sl : ∃ A c, v = .slice A ws.length c ∧ ws.length ≤ c
  len : us.length = ws.length
  at_ : ∀ (i : Nat) (x : Wt) (u : V3), ws[i]? = some x → us[i]? = some u → (∃ g o n c, v = .slice (some ⟨g, o, none⟩) n c ∧ w.rangeAt g (o + i * 13) (x.cls u)) ∧ RdPk x.p u.1 u.2.1 u.2.2 w
theorem RdL.pure {w w1 : World} {v : Value} {l : List Wt} {us : List V3} (h : RdL w v l us) (ho : Only (fun _ => False) w w1) : RdL w1 v l us :=
  ⟨h.sl, h.len, fun i a u ha hu => by
    obtain ⟨⟨g, o, n, c, e, hr⟩, hp⟩ := h.at_ i a u ha hu
    exact ⟨⟨g, o, n, c, e, range_pure hr ho⟩, hp.only ho⟩⟩
theorem RdL.nil (w : World) : RdL w (.slice none 0 0) [] [] := ⟨⟨none, 0, rfl, Nat.le_refl _⟩, rfl, fun i x u hx => by simp at hx⟩
theorem RdL.tail {w : World} {n c : Nat} {x : Wt} {ws : List Wt} {u : V3} {us : List V3} {g o : Nat} (h : RdL w (.slice (some ⟨g, o, none⟩) n c) (x :: ws) (u :: us)) : RdL w (.slice (if c = 1 then some ⟨g, o, none⟩ else some ⟨g, o + 13, none⟩) (n - 1) (c - 1)) ws us := by
  obtain ⟨A', c', e, hc⟩ := h.sl
  injection e with e1 e2 e3
  subst e3
  simp only [List.length_cons] at e2 hc
  refine ⟨⟨_, c - 1, by rw [e2]; rfl, by omega⟩, by have := h.len; simpa using this, fun i y z hy hz => ?_⟩
  obtain ⟨⟨g', o', n', c', e, hr⟩, hp⟩ := h.at_ (i + 1) y z (by simpa using hy) (by simpa using hz)
  injection e with f1 f2 f3
  injection f1 with f1
  injection f1 with f1 f4 f5
  subst f1 f4
  have hil := (List.getElem?_eq_some_iff.1 hy).1
  rw [if_neg (by omega)]
  refine ⟨⟨g, o + 13, _, _, rfl, ?_⟩, hp⟩
  rw [show o + 13 + i * 13 = o + (i + 1) * 13 by omega]
  exact hr
theorem Try.infoRo : (Try.prog.info? 92).map (fun i => (i.zero, i.size, i.bytes)) = some (some (.agg #[.bool false, .int .u64 0, .int .u64 0, .bool false, .int .u8 0, .int .u16 0, .int .u32 0, .int .u32 0, .slice none 0 0, .bool false, .int .u16 0, .slice none 0 0, .slice none 0 0, .int .u8 0]), 14, 128) := by kernel_rfl
theorem Try.sizeRo : (Try.prog.info? 92).map (·.size) = some 14 := by kernel_rfl
theorem sty_ro : Sty 66 92 14 128 := by
  obtain ⟨i0, hi, hz0, hz1, hz2⟩ := info_parts Try.infoRo
  exact ⟨Try.underlying66, ⟨i0, _, hi, hz0, hz1, hz2, rfl⟩, by decide⟩
theorem Try.sizeRb : (Try.prog.info? 32).map (·.size) = some 5 := by kernel_rfl
theorem Try.sizeRw : (Try.prog.info? 87).map (·.size) = some 13 := by kernel_rfl
def zeroRb : Array Value := #[.int .i64 0, .int .u64 0, .int .u64 0, .bool false, .slice none 0 0]
/-- What first answers. -/
def FirstDone (r : Rb) (v : Value) (x : Wt) (u : V3) (ws : List Wt) (us : List V3) (w : World) (e : Ending) (w' : World) : Prop :=
  ∃ v2 vo, e = .returned (.tuple #[.agg (Rb.cells ⟨r.size, r.hold, x.n + 1, r.begun, ws⟩ v2), vo]) ∧ (∀ W, RdL W v (x :: ws) (u :: us) → RdL W v2 ws us) ∧ OwnS w' w.heap.size 92 14 vo ((stepIt r.next x u).map It.cls) ∧ Only (fun _ => False) w w'
set_option maxRecDepth 100000 in
set_option maxHeartbeats 16000000 in
theorem rfirst_is (r : Rb) (x : Wt) (u : V3) (ws : List Wt) (us : List V3) (v : Value) (w : World) (h : RdL w v (x :: ws) (u :: us)) (hn : x.n ≤ 4611686018427387904) (hx : r.next ≤ x.n) :
    Calls Try.prog 50 #[.agg (r.cells v)] w (FirstDone r v x u ws us w) := by
  obtain ⟨⟨g, o, n, c, rfl, hr⟩, hp⟩ := h.at_ 0 x u rfl rfl
  obtain ⟨A', c', e, hc⟩ := h.sl
  injection e with e1 e2 e3
  subst e3
  simp only [List.length_cons] at e2 hc
  have HT := Lib.hid (fun W (hW : RdL W (.slice (some ⟨g, o, none⟩) n c) (x :: ws) (u :: us)) => hW.tail)
  obtain ⟨q0, q1, q2, q3, q4, q5, q6, q7, q8, q9, q10, hq⟩ : ∃ q0 q1 q2 q3 q4 q5 q6 q7 q8 q9 q10 : Value, x.p.cls u.1 u.2.1 u.2.2 = #[q0, q1, q2, q3, q4, q5, q6, q7, q8, q9, q10] := ⟨_, _, _, _, _, _, _, _, _, _, _, rfl⟩
  have hcl : x.cls u = [.int .u64 (x.n : Int), .int .u64 (x.came : Int), q0, q1, q2, q3, q4, q5, q6, q7, q8, q9, q10] := by unfold Wt.cls; rw [hq]
  have RA := Lib.hid (show w.rangeAt g o [.int .u64 (x.n : Int), .int .u64 (x.came : Int), q0, q1, q2, q3, q4, q5, q6, q7, q8, q9, q10] from by rw [← hcl]; simpa using hr)
  have hpk : (pkIt x u).cls = [.bool false, .int .u64 (x.n : Int), .int .u64 (x.n : Int), q0, q1, q2, q3, q4, q5, q6, q7, q8, q9, q10] := by
    unfold pkIt It.cls
    rw [sl_of hp.s, sl_of (src_isSl hp.e), sl_of (src_isSl hp.p), hq]
  have HPK := Lib.hid hpk
  have HONE := Lib.hid (show ∀ z ∈ [.bool false, .int .u64 (x.n : Int), .int .u64 (x.n : Int), q0, q1, q2, q3, q4, q5, q6, q7, q8, q9, q10], z.oneCell' = true from by rw [← hpk]; exact (pkIt x u).cls_one)
  have HON13 := Lib.hid (show (#[.int .u64 (x.n : Int), .int .u64 (x.came : Int), q0, q1, q2, q3, q4, q5, q6, q7, q8, q9, q10] : Array Value).all (·.oneCell') = true from all_oneCell_toArray (cs := [.int .u64 (x.n : Int), .int .u64 (x.came : Int), q0, q1, q2, q3, q4, q5, q6, q7, q8, q9, q10]) (fun z hz => by
    simp only [List.mem_cons] at hz
    rcases hz with rfl | rfl | hz
    · rfl
    · rfl
    · exact HONE.out z (by simp only [List.mem_cons]; exact .inr (.inr (.inr hz)))))
  have hst : IntKind.u64.wrap ((x.n : Int) + 1) = ((x.n + 1 : Nat) : Int) := by rw [IntKind.wrap_u64]; omega
  have hsb : IntKind.u64.wrap ((x.n : Int) - 1) = if x.n = 0 then 18446744073709551615 else ((x.n - 1 : Nat) : Int) := by rw [IntKind.wrap_u64]; split <;> omega
  have hn1 : (1 : Int) ≤ (n : Int) := by omega
  have hnc : (n : Int) ≤ (c : Int) := by omega
  have h1c : 1 ≤ c := by omega
  have h1n : 1 ≤ n := by omega
  clear h hp hq hcl hpk hr e1 e2 hc
  obtain ⟨z, hz⟩ : ∃ z, x.n = z := ⟨_, rfl⟩
  obtain ⟨cm, hcm⟩ : ∃ cm, x.came = cm := ⟨_, rfl⟩
  rw [hz] at RA HPK HONE HON13 hst hsb hx hn
  rw [hcm] at RA HON13
  have HZ := Lib.hid hz
  unfold Rb.cells
  obtain ⟨sz, hsz⟩ : ∃ sz, r.size = sz := ⟨_, rfl⟩
  obtain ⟨hold, hhold⟩ : ∃ hold, r.hold = hold := ⟨_, rfl⟩
  obtain ⟨nx, hnx⟩ : ∃ nx, r.next = nx := ⟨_, rfl⟩
  obtain ⟨bg, hbg⟩ : ∃ bg, r.begun = bg := ⟨_, rfl⟩
  rw [hnx] at hx
  have HR := Lib.hid (And.intro hsz (And.intro hhold (And.intro hnx hbg)))
  rw [hsz, hhold, hnx, hbg]
  clear hz hcm hsz hhold hnx hbg hsb
  by_cases hc1 : c = 1
  · subst hc1
    by_cases hgt : z = nx
    · subst hgt
      go_enter Try.func50, Try.ntmps50
      go_upto_region 1 with (fail)
      generalize hw1 : World.alloc (World.alloc _ _) _ = w1
      have O1 := Lib.hid (show Only (fun _ => False) w w1 from by rw [← hw1]; exact ((Only.refl _ w).alloc _).alloc _)
      have I1 := Lib.hid (show Is w1 w.heap.size 32 #[.int .i64 sz, .int .u64 (hold : Int), .int .u64 (z : Int), .bool bg, .slice (some ⟨g, o, none⟩) n 1] from by rw [← hw1]; exact (Is.made w _ _).alloc _)
      have J1 := Lib.hid (show Is w1 (w.heap.size + 1) 32 zeroRb from by
        rw [← hw1]
        have := Is.made (w.alloc (.cells #[.int .i64 sz, .int .u64 (hold : Int), .int .u64 (z : Int), .bool bg, .slice (some ⟨g, o, none⟩) n 1] 32)) 32 zeroRb
        rw [World.size_alloc] at this
        exact this)
      have R1 := Lib.hid (range_pure RA.out O1.out)
      obtain ⟨b1, hb1⟩ : ∃ b1, w.heap.size = b1 := ⟨_, rfl⟩
      obtain ⟨b2, hb2⟩ : ∃ b2, w.heap.size + 1 = b2 := ⟨_, rfl⟩
      have HBB := Lib.hid (show b1 = w.heap.size ∧ b2 = w.heap.size + 1 from ⟨hb1.symm, hb2.symm⟩)
      rw [hb2] at J1 ⊢
      rw [hb1] at I1 ⊢
      clear hw1 hb1 hb2
      have c14 : w1.cell? ⟨b1, 4, none⟩ = some (.slice (some ⟨g, o, none⟩) n 1) := I1.out.cell 4
      have hne1 : ¬ w1.heap.size = b1 := by have := I1.out.lt; omega
      have HNE := Lib.hid (show b2 ≠ b1 from by have := HBB.out; omega)
      go_upto_region 2 with (first
        | (refine wpList_load_mid rfl 87 _ rfl g o rfl [.int .u64 (z : Int), .int .u64 (cm : Int), q0, q1, q2, q3, q4, q5, q6, q7, q8, q9, q10] _ R1.out Try.underlying87 rfl Try.sizeRw ?_)
        | (refine wpList_store_is (o := ⟨none, _, _, _, _, _⟩) rfl 87 _ _ rfl w1.heap.size #[.int .u64 (z : Int), .int .u64 (cm : Int), q0, q1, q2, q3, q4, q5, q6, q7, q8, q9, q10] rfl rfl 87 _ (Is.made w1 _ _) Try.sizeRw rfl HON13.out ?_; intro w4 hi4 ho4; have O4 := Lib.hid (((Only.refl _ w1).alloc _).trans ho4 (fun i hi e => by omega) : Only (fun _ => False) w1 w4); have I4 := Lib.hid hi4; have O14 := Lib.hid (O1.out.trans O4.out (fun _ _ e => e)); have K1 := Lib.hid (I1.out.only O4.out (by simp)); have K2 := Lib.hid (J1.out.only O4.out (by simp)); clear hi4 ho4; have c0 : w4.cell? ⟨w1.heap.size, 0, none⟩ = some (.int .u64 (z : Int)) := I4.out.cell 0; have c2 : w4.cell? ⟨b1, 2, none⟩ = some (.int .u64 (z : Int)) := K1.out.cell 2; have RP := Lib.hid (show w4.rangeAt w1.heap.size 2 [q0, q1, q2, q3, q4, q5, q6, q7, q8, q9, q10] from fun j v hj => by rw [I4.out.cell, show 2 + j = j + 2 by omega]; simpa using hj)))
      go_upto_region 8 with (first
        | (at_builtin; refine wpList_append_struct _ rfl _ _ sty_ro rfl w.heap.size _ [] rfl (OwnS.only (OwnS.nil w4 w.heap.size 92 14) ((Only.refl (fun _ => False) _).alloc _) (by simp)) w4.heap.size [.bool false, .int .u64 (z : Int), .int .u64 (z : Int), q0, q1, q2, q3, q4, q5, q6, q7, q8, q9, q10] rfl (Is.made w4 _ _) rfl HONE.out (by simp) (by decide) (Nat.le_trans O14.out.size (by simp)) ?_; intro v6 w6 hS6 hO6; obtain ⟨A6, k6, hv6, -⟩ := hS6.slice; subst hv6; have S6 := Lib.hid hS6; have Q1 := Lib.hid ((K1.out.alloc _).only hO6 (fun e => owned_off (OwnS.nil w4 w.heap.size 92 14).1 K1.out (by decide) e)); have Q2 := Lib.hid ((K2.out.alloc _).only hO6 (fun e => owned_off (OwnS.nil w4 w.heap.size 92 14).1 K2.out (by decide) e)); have Q4 := Lib.hid ((I4.out.alloc _).only hO6 (fun e => owned_off (OwnS.nil w4 w.heap.size 92 14).1 I4.out (by decide) e)); have O6 := Lib.hid ((O14.out.alloc _).trans hO6 (fun i hi e => by have := ((OwnS.nil w4 w.heap.size 92 14).lt i e).1; omega) : Only (fun _ => False) w w6); clear hS6 hO6; have d4 : w6.cell? ⟨b1, 4, none⟩ = some (.slice (some ⟨g, o, none⟩) n 1) := Q1.out.cell 4; have f4 := Q1.out.free 4; have f2 := Q1.out.free 2; have d2 : w6.cell? ⟨b1, 2, none⟩ = some (.int .u64 (z : Int)) := Q1.out.cell 2; have d0 : w6.cell? ⟨w1.heap.size, 0, none⟩ = some (.int .u64 (z : Int)) := Q4.out.cell 0)
        | (refine wpList_load_mid rfl 74 _ rfl w1.heap.size 2 rfl [q0, q1, q2, q3, q4, q5, q6, q7, q8, q9, q10] _ RP.out Try.underlying74 rfl Try.sizeRk ?_))
      go_wp2_with (first
        | (refine wpList_load_want rfl _ _ rfl b1 rfl _ #[.int .i64 sz, .int .u64 (hold : Int), .int .u64 ((z + 1 : Nat) : Int), .bool bg, (.slice (some ⟨g, o, none⟩) (n - 1) 0)] _ ((Q1.out.put 4 _).put 2 _) Try.underlying32 rfl Try.sizeRb ?_)
        | (refine wpList_store_is (o := ⟨none, _, _, _, _, _⟩) rfl 32 _ _ rfl b2 #[.int .i64 sz, .int .u64 (hold : Int), .int .u64 ((z + 1 : Nat) : Int), .bool bg, (.slice (some ⟨g, o, none⟩) (n - 1) 0)] rfl rfl 32 zeroRb ((Q2.out.far HNE.out _).far HNE.out _) Try.sizeRb rfl (by simp [Value.oneCell']) ?_; intro w8 hi8 ho8))
      obtain ⟨e1, e2, e3, e4⟩ := HR.out
      have O68 : Only (fun k => k = b1 ∨ k = b2) w6 w8 := Only.trans (Only.set (S := fun k => k = b1 ∨ k = b2) (p := ⟨b1, 2, none⟩) (Only.set (S := fun k => k = b1 ∨ k = b2) (p := ⟨b1, 4, none⟩) (Only.refl _ w6) (fun _ => .inl rfl) _) (fun _ => .inl rfl) _) ho8 (fun _ _ e => .inr e)
      have O8 : Only (fun _ => False) w w8 := O6.out.trans O68 (fun i hi e => by have := HBB.out; omega)
      have hT8 : ∀ W, RdL W (.slice (some ⟨g, o, none⟩) n 1) (x :: ws) (u :: us) → RdL W (.slice (some ⟨g, o, none⟩) (n - 1) 0) ws us := fun W hW => by
        have := HT.out W hW
        simpa using this
      refine bodyPost_ret (res_cell Try.results50 _ w8 b2 32 #[.int .i64 sz, .int .u64 (hold : Int), .int .u64 ((z + 1 : Nat) : Int), .bool bg, (.slice (some ⟨g, o, none⟩) (n - 1) 0)] _ (.slice A6 1 k6) rfl rfl hi8 Try.underlying32 rfl Try.sizeRb) rfl ⟨(.slice (some ⟨g, o, none⟩) (n - 1) 0), .slice A6 1 k6, ?_, hT8, ?_, O8⟩
      · rw [HZ.out, e1, e2, e4]
        rfl
      · have hS8 := S6.out.only O68 (fun k hk e => by
          rcases e with e | e
          · exact owned_off S6.out.1 Q1.out (by decide) (by rw [hk, e])
          · exact owned_off S6.out.1 Q2.out (by decide) (by rw [hk, e]))
        rw [e3]
        unfold stepIt
        rw [if_pos HZ.out]
        skip
        simp only [List.map_cons, List.map_nil, HPK.out]
        exact hS8
    · skip
      obtain ⟨z1, hz1⟩ : ∃ z1, z - 1 = z1 := ⟨_, rfl⟩
      have HZ1 := Lib.hid hz1
      have hsub : IntKind.u64.wrap ((z : Int) - 1) = (z1 : Int) := by rw [IntKind.wrap_u64]; omega
      have hgtI : (nx : Int) < (z : Int) := by omega
      have HG1 := Lib.hid (show ∀ v ∈ ([.bool true, .int .u64 (nx : Int), .int .u64 (z1 : Int), .bool false, .int .u8 0, .int .u16 0, .int .u32 0, .int .u32 0, .slice none 0 0, .bool false, .int .u16 0, .slice none 0 0, .slice none 0 0, .int .u8 0] : List Value), v.oneCell' = true from (gapIt nx z1).cls_one)
      clear hz1
      go_enter Try.func50, Try.ntmps50
      go_upto_region 1 with (fail)
      generalize hw1 : World.alloc (World.alloc _ _) _ = w1
      have O1 := Lib.hid (show Only (fun _ => False) w w1 from by rw [← hw1]; exact ((Only.refl _ w).alloc _).alloc _)
      have I1 := Lib.hid (show Is w1 w.heap.size 32 #[.int .i64 sz, .int .u64 (hold : Int), .int .u64 (nx : Int), .bool bg, .slice (some ⟨g, o, none⟩) n 1] from by rw [← hw1]; exact (Is.made w _ _).alloc _)
      have J1 := Lib.hid (show Is w1 (w.heap.size + 1) 32 zeroRb from by
        rw [← hw1]
        have := Is.made (w.alloc (.cells #[.int .i64 sz, .int .u64 (hold : Int), .int .u64 (nx : Int), .bool bg, .slice (some ⟨g, o, none⟩) n 1] 32)) 32 zeroRb
        rw [World.size_alloc] at this
        exact this)
      have R1 := Lib.hid (range_pure RA.out O1.out)
      obtain ⟨b1, hb1⟩ : ∃ b1, w.heap.size = b1 := ⟨_, rfl⟩
      obtain ⟨b2, hb2⟩ : ∃ b2, w.heap.size + 1 = b2 := ⟨_, rfl⟩
      have HBB := Lib.hid (show b1 = w.heap.size ∧ b2 = w.heap.size + 1 from ⟨hb1.symm, hb2.symm⟩)
      rw [hb2] at J1 ⊢
      rw [hb1] at I1 ⊢
      clear hw1 hb1 hb2
      have c14 : w1.cell? ⟨b1, 4, none⟩ = some (.slice (some ⟨g, o, none⟩) n 1) := I1.out.cell 4
      have hne1 : ¬ w1.heap.size = b1 := by have := I1.out.lt; omega
      have HNE := Lib.hid (show b2 ≠ b1 from by have := HBB.out; omega)
      go_upto_region 2 with (first
        | (refine wpList_load_mid rfl 87 _ rfl g o rfl [.int .u64 (z : Int), .int .u64 (cm : Int), q0, q1, q2, q3, q4, q5, q6, q7, q8, q9, q10] _ R1.out Try.underlying87 rfl Try.sizeRw ?_)
        | (refine wpList_store_is (o := ⟨none, _, _, _, _, _⟩) rfl 87 _ _ rfl w1.heap.size #[.int .u64 (z : Int), .int .u64 (cm : Int), q0, q1, q2, q3, q4, q5, q6, q7, q8, q9, q10] rfl rfl 87 _ (Is.made w1 _ _) Try.sizeRw rfl HON13.out ?_; intro w4 hi4 ho4; have O4 := Lib.hid (((Only.refl _ w1).alloc _).trans ho4 (fun i hi e => by omega) : Only (fun _ => False) w1 w4); have I4 := Lib.hid hi4; have O14 := Lib.hid (O1.out.trans O4.out (fun _ _ e => e)); have K1 := Lib.hid (I1.out.only O4.out (by simp)); have K2 := Lib.hid (J1.out.only O4.out (by simp)); clear hi4 ho4; have c0 : w4.cell? ⟨w1.heap.size, 0, none⟩ = some (.int .u64 (z : Int)) := I4.out.cell 0; have c2 : w4.cell? ⟨b1, 2, none⟩ = some (.int .u64 (nx : Int)) := K1.out.cell 2; have RP := Lib.hid (show w4.rangeAt w1.heap.size 2 [q0, q1, q2, q3, q4, q5, q6, q7, q8, q9, q10] from fun j v hj => by rw [I4.out.cell, show 2 + j = j + 2 by omega]; simpa using hj)))
      go_upto_region 5 with (first
        | (at_builtin; refine wpList_append_struct _ rfl _ _ sty_ro rfl w.heap.size (.slice none 0 0) [] rfl (OwnS.nil _ _ _ _) w4.heap.size [.bool true, .int .u64 (nx : Int), .int .u64 (z1 : Int), .bool false, .int .u8 0, .int .u16 0, .int .u32 0, .int .u32 0, .slice none 0 0, .bool false, .int .u16 0, .slice none 0 0, .slice none 0 0, .int .u8 0] rfl (Is.made w4 _ _) rfl HG1.out (by decide) (by decide) (Nat.le_trans O14.out.size (by simp)) ?_; intro v5 w5 hS5 hO5; obtain ⟨A5, k5, rfl, -⟩ := hS5.slice; have O5 := Lib.hid (((Only.refl _ w4).alloc _).trans hO5 (fun i hi e => by simp [Value.ownBlock] at e) : Only (fun _ => False) w4 w5); have S5 := Lib.hid hS5; clear hS5 hO5; have c05 := (I4.out.only O5.out (by simp)).cell 0; simp at c05; have RP5 := Lib.hid (range_pure RP.out O5.out)))
      go_upto_region 8 with (first
        | (at_builtin; refine wpList_append_struct _ rfl _ _ sty_ro rfl w.heap.size _ [[.bool true, .int .u64 (nx : Int), .int .u64 (z1 : Int), .bool false, .int .u8 0, .int .u16 0, .int .u32 0, .int .u32 0, .slice none 0 0, .bool false, .int .u16 0, .slice none 0 0, .slice none 0 0, .int .u8 0]] rfl (OwnS.only S5.out ((Only.refl (fun _ => False) _).alloc _) (by simp)) w5.heap.size [.bool false, .int .u64 (z : Int), .int .u64 (z : Int), q0, q1, q2, q3, q4, q5, q6, q7, q8, q9, q10] rfl (Is.made w5 _ _) rfl HONE.out (by simp) (by decide) (Nat.le_trans (O14.out.trans O5.out (fun _ _ e => e)).size (by simp)) ?_; intro v6 w6 hS6 hO6; obtain ⟨A6, k6, hv6, -⟩ := hS6.slice; subst hv6; have S6 := Lib.hid hS6; have Q1 := Lib.hid (((K1.out.only O5.out (by simp)).alloc _).only hO6 (fun e => owned_off S5.out.1 (K1.out.only O5.out (by simp)) (by decide) e)); have Q2 := Lib.hid (((K2.out.only O5.out (by simp)).alloc _).only hO6 (fun e => owned_off S5.out.1 (K2.out.only O5.out (by simp)) (by decide) e)); have Q4 := Lib.hid (((I4.out.only O5.out (by simp)).alloc _).only hO6 (fun e => owned_off S5.out.1 (I4.out.only O5.out (by simp)) (by decide) e)); have O6 := Lib.hid (((O14.out.trans O5.out (fun _ _ e => e)).alloc _).trans hO6 (fun i hi e => by have := (S5.out.lt i e).1; omega) : Only (fun _ => False) w w6); clear hS6 hO6; have d4 : w6.cell? ⟨b1, 4, none⟩ = some (.slice (some ⟨g, o, none⟩) n 1) := Q1.out.cell 4; have f4 := Q1.out.free 4; have f2 := Q1.out.free 2; have d2 : w6.cell? ⟨b1, 2, none⟩ = some (.int .u64 (nx : Int)) := Q1.out.cell 2; have d0 : w6.cell? ⟨w1.heap.size, 0, none⟩ = some (.int .u64 (z : Int)) := Q4.out.cell 0)
        | (refine wpList_load_mid rfl 74 _ rfl w1.heap.size 2 rfl [q0, q1, q2, q3, q4, q5, q6, q7, q8, q9, q10] _ RP5.out Try.underlying74 rfl Try.sizeRk ?_))
      go_wp2_with (first
        | (refine wpList_load_want rfl _ _ rfl b1 rfl _ #[.int .i64 sz, .int .u64 (hold : Int), .int .u64 ((z + 1 : Nat) : Int), .bool bg, (.slice (some ⟨g, o, none⟩) (n - 1) 0)] _ ((Q1.out.put 4 _).put 2 _) Try.underlying32 rfl Try.sizeRb ?_)
        | (refine wpList_store_is (o := ⟨none, _, _, _, _, _⟩) rfl 32 _ _ rfl b2 #[.int .i64 sz, .int .u64 (hold : Int), .int .u64 ((z + 1 : Nat) : Int), .bool bg, (.slice (some ⟨g, o, none⟩) (n - 1) 0)] rfl rfl 32 zeroRb ((Q2.out.far HNE.out _).far HNE.out _) Try.sizeRb rfl (by simp [Value.oneCell']) ?_; intro w8 hi8 ho8))
      obtain ⟨e1, e2, e3, e4⟩ := HR.out
      have O68 : Only (fun k => k = b1 ∨ k = b2) w6 w8 := Only.trans (Only.set (S := fun k => k = b1 ∨ k = b2) (p := ⟨b1, 2, none⟩) (Only.set (S := fun k => k = b1 ∨ k = b2) (p := ⟨b1, 4, none⟩) (Only.refl _ w6) (fun _ => .inl rfl) _) (fun _ => .inl rfl) _) ho8 (fun _ _ e => .inr e)
      have O8 : Only (fun _ => False) w w8 := O6.out.trans O68 (fun i hi e => by have := HBB.out; omega)
      have hT8 : ∀ W, RdL W (.slice (some ⟨g, o, none⟩) n 1) (x :: ws) (u :: us) → RdL W (.slice (some ⟨g, o, none⟩) (n - 1) 0) ws us := fun W hW => by
        have := HT.out W hW
        simpa using this
      refine bodyPost_ret (res_cell Try.results50 _ w8 b2 32 #[.int .i64 sz, .int .u64 (hold : Int), .int .u64 ((z + 1 : Nat) : Int), .bool bg, (.slice (some ⟨g, o, none⟩) (n - 1) 0)] _ (.slice A6 2 k6) rfl rfl hi8 Try.underlying32 rfl Try.sizeRb) rfl ⟨(.slice (some ⟨g, o, none⟩) (n - 1) 0), .slice A6 2 k6, ?_, hT8, ?_, O8⟩
      · rw [HZ.out, e1, e2, e4]
        rfl
      · have hS8 := S6.out.only O68 (fun k hk e => by
          rcases e with e | e
          · exact owned_off S6.out.1 Q1.out (by decide) (by rw [hk, e])
          · exact owned_off S6.out.1 Q2.out (by decide) (by rw [hk, e]))
        rw [e3]
        unfold stepIt
        rw [if_neg (by rw [HZ.out]; exact hgt)]
        have hgc : (gapIt nx (x.n - 1)).cls = [.bool true, .int .u64 (nx : Int), .int .u64 (z1 : Int), .bool false, .int .u8 0, .int .u16 0, .int .u32 0, .int .u32 0, .slice none 0 0, .bool false, .int .u16 0, .slice none 0 0, .slice none 0 0, .int .u8 0] := by rw [HZ.out]; exact (by rw [HZ1.out]; rfl)
        simp only [List.map_cons, List.map_nil, hgc, HPK.out]
        exact hS8
  · by_cases hgt : z = nx
    · subst hgt
      go_enter Try.func50, Try.ntmps50
      go_upto_region 1 with (fail)
      generalize hw1 : World.alloc (World.alloc _ _) _ = w1
      have O1 := Lib.hid (show Only (fun _ => False) w w1 from by rw [← hw1]; exact ((Only.refl _ w).alloc _).alloc _)
      have I1 := Lib.hid (show Is w1 w.heap.size 32 #[.int .i64 sz, .int .u64 (hold : Int), .int .u64 (z : Int), .bool bg, .slice (some ⟨g, o, none⟩) n c] from by rw [← hw1]; exact (Is.made w _ _).alloc _)
      have J1 := Lib.hid (show Is w1 (w.heap.size + 1) 32 zeroRb from by
        rw [← hw1]
        have := Is.made (w.alloc (.cells #[.int .i64 sz, .int .u64 (hold : Int), .int .u64 (z : Int), .bool bg, .slice (some ⟨g, o, none⟩) n c] 32)) 32 zeroRb
        rw [World.size_alloc] at this
        exact this)
      have R1 := Lib.hid (range_pure RA.out O1.out)
      obtain ⟨b1, hb1⟩ : ∃ b1, w.heap.size = b1 := ⟨_, rfl⟩
      obtain ⟨b2, hb2⟩ : ∃ b2, w.heap.size + 1 = b2 := ⟨_, rfl⟩
      have HBB := Lib.hid (show b1 = w.heap.size ∧ b2 = w.heap.size + 1 from ⟨hb1.symm, hb2.symm⟩)
      rw [hb2] at J1 ⊢
      rw [hb1] at I1 ⊢
      clear hw1 hb1 hb2
      have c14 : w1.cell? ⟨b1, 4, none⟩ = some (.slice (some ⟨g, o, none⟩) n c) := I1.out.cell 4
      have hne1 : ¬ w1.heap.size = b1 := by have := I1.out.lt; omega
      have HNE := Lib.hid (show b2 ≠ b1 from by have := HBB.out; omega)
      go_upto_region 2 with (first
        | (refine wpList_load_mid rfl 87 _ rfl g o rfl [.int .u64 (z : Int), .int .u64 (cm : Int), q0, q1, q2, q3, q4, q5, q6, q7, q8, q9, q10] _ R1.out Try.underlying87 rfl Try.sizeRw ?_)
        | (refine wpList_store_is (o := ⟨none, _, _, _, _, _⟩) rfl 87 _ _ rfl w1.heap.size #[.int .u64 (z : Int), .int .u64 (cm : Int), q0, q1, q2, q3, q4, q5, q6, q7, q8, q9, q10] rfl rfl 87 _ (Is.made w1 _ _) Try.sizeRw rfl HON13.out ?_; intro w4 hi4 ho4; have O4 := Lib.hid (((Only.refl _ w1).alloc _).trans ho4 (fun i hi e => by omega) : Only (fun _ => False) w1 w4); have I4 := Lib.hid hi4; have O14 := Lib.hid (O1.out.trans O4.out (fun _ _ e => e)); have K1 := Lib.hid (I1.out.only O4.out (by simp)); have K2 := Lib.hid (J1.out.only O4.out (by simp)); clear hi4 ho4; have c0 : w4.cell? ⟨w1.heap.size, 0, none⟩ = some (.int .u64 (z : Int)) := I4.out.cell 0; have c2 : w4.cell? ⟨b1, 2, none⟩ = some (.int .u64 (z : Int)) := K1.out.cell 2; have RP := Lib.hid (show w4.rangeAt w1.heap.size 2 [q0, q1, q2, q3, q4, q5, q6, q7, q8, q9, q10] from fun j v hj => by rw [I4.out.cell, show 2 + j = j + 2 by omega]; simpa using hj)))
      go_upto_region 8 with (first
        | (at_builtin; refine wpList_append_struct _ rfl _ _ sty_ro rfl w.heap.size _ [] rfl (OwnS.only (OwnS.nil w4 w.heap.size 92 14) ((Only.refl (fun _ => False) _).alloc _) (by simp)) w4.heap.size [.bool false, .int .u64 (z : Int), .int .u64 (z : Int), q0, q1, q2, q3, q4, q5, q6, q7, q8, q9, q10] rfl (Is.made w4 _ _) rfl HONE.out (by simp) (by decide) (Nat.le_trans O14.out.size (by simp)) ?_; intro v6 w6 hS6 hO6; obtain ⟨A6, k6, hv6, -⟩ := hS6.slice; subst hv6; have S6 := Lib.hid hS6; have Q1 := Lib.hid ((K1.out.alloc _).only hO6 (fun e => owned_off (OwnS.nil w4 w.heap.size 92 14).1 K1.out (by decide) e)); have Q2 := Lib.hid ((K2.out.alloc _).only hO6 (fun e => owned_off (OwnS.nil w4 w.heap.size 92 14).1 K2.out (by decide) e)); have Q4 := Lib.hid ((I4.out.alloc _).only hO6 (fun e => owned_off (OwnS.nil w4 w.heap.size 92 14).1 I4.out (by decide) e)); have O6 := Lib.hid ((O14.out.alloc _).trans hO6 (fun i hi e => by have := ((OwnS.nil w4 w.heap.size 92 14).lt i e).1; omega) : Only (fun _ => False) w w6); clear hS6 hO6; have d4 : w6.cell? ⟨b1, 4, none⟩ = some (.slice (some ⟨g, o, none⟩) n c) := Q1.out.cell 4; have f4 := Q1.out.free 4; have f2 := Q1.out.free 2; have d2 : w6.cell? ⟨b1, 2, none⟩ = some (.int .u64 (z : Int)) := Q1.out.cell 2; have d0 : w6.cell? ⟨w1.heap.size, 0, none⟩ = some (.int .u64 (z : Int)) := Q4.out.cell 0)
        | (refine wpList_load_mid rfl 74 _ rfl w1.heap.size 2 rfl [q0, q1, q2, q3, q4, q5, q6, q7, q8, q9, q10] _ RP.out Try.underlying74 rfl Try.sizeRk ?_))
      go_wp2_with (first
        | (refine wpList_load_want rfl _ _ rfl b1 rfl _ #[.int .i64 sz, .int .u64 (hold : Int), .int .u64 ((z + 1 : Nat) : Int), .bool bg, (.slice (some ⟨g, o + 13, none⟩) (n - 1) (c - 1))] _ ((Q1.out.put 4 _).put 2 _) Try.underlying32 rfl Try.sizeRb ?_)
        | (refine wpList_store_is (o := ⟨none, _, _, _, _, _⟩) rfl 32 _ _ rfl b2 #[.int .i64 sz, .int .u64 (hold : Int), .int .u64 ((z + 1 : Nat) : Int), .bool bg, (.slice (some ⟨g, o + 13, none⟩) (n - 1) (c - 1))] rfl rfl 32 zeroRb ((Q2.out.far HNE.out _).far HNE.out _) Try.sizeRb rfl (by simp [Value.oneCell']) ?_; intro w8 hi8 ho8))
      obtain ⟨e1, e2, e3, e4⟩ := HR.out
      have O68 : Only (fun k => k = b1 ∨ k = b2) w6 w8 := Only.trans (Only.set (S := fun k => k = b1 ∨ k = b2) (p := ⟨b1, 2, none⟩) (Only.set (S := fun k => k = b1 ∨ k = b2) (p := ⟨b1, 4, none⟩) (Only.refl _ w6) (fun _ => .inl rfl) _) (fun _ => .inl rfl) _) ho8 (fun _ _ e => .inr e)
      have O8 : Only (fun _ => False) w w8 := O6.out.trans O68 (fun i hi e => by have := HBB.out; omega)
      have hT8 : ∀ W, RdL W (.slice (some ⟨g, o, none⟩) n c) (x :: ws) (u :: us) → RdL W (.slice (some ⟨g, o + 13, none⟩) (n - 1) (c - 1)) ws us := fun W hW => by
        have := HT.out W hW
        rwa [if_neg hc1] at this
      refine bodyPost_ret (res_cell Try.results50 _ w8 b2 32 #[.int .i64 sz, .int .u64 (hold : Int), .int .u64 ((z + 1 : Nat) : Int), .bool bg, (.slice (some ⟨g, o + 13, none⟩) (n - 1) (c - 1))] _ (.slice A6 1 k6) rfl rfl hi8 Try.underlying32 rfl Try.sizeRb) rfl ⟨(.slice (some ⟨g, o + 13, none⟩) (n - 1) (c - 1)), .slice A6 1 k6, ?_, hT8, ?_, O8⟩
      · rw [HZ.out, e1, e2, e4]
        rfl
      · have hS8 := S6.out.only O68 (fun k hk e => by
          rcases e with e | e
          · exact owned_off S6.out.1 Q1.out (by decide) (by rw [hk, e])
          · exact owned_off S6.out.1 Q2.out (by decide) (by rw [hk, e]))
        rw [e3]
        unfold stepIt
        rw [if_pos HZ.out]
        skip
        simp only [List.map_cons, List.map_nil, HPK.out]
        exact hS8
    · skip
      obtain ⟨z1, hz1⟩ : ∃ z1, z - 1 = z1 := ⟨_, rfl⟩
      have HZ1 := Lib.hid hz1
      have hsub : IntKind.u64.wrap ((z : Int) - 1) = (z1 : Int) := by rw [IntKind.wrap_u64]; omega
      have hgtI : (nx : Int) < (z : Int) := by omega
      have HG1 := Lib.hid (show ∀ v ∈ ([.bool true, .int .u64 (nx : Int), .int .u64 (z1 : Int), .bool false, .int .u8 0, .int .u16 0, .int .u32 0, .int .u32 0, .slice none 0 0, .bool false, .int .u16 0, .slice none 0 0, .slice none 0 0, .int .u8 0] : List Value), v.oneCell' = true from (gapIt nx z1).cls_one)
      clear hz1
      go_enter Try.func50, Try.ntmps50
      go_upto_region 1 with (fail)
      generalize hw1 : World.alloc (World.alloc _ _) _ = w1
      have O1 := Lib.hid (show Only (fun _ => False) w w1 from by rw [← hw1]; exact ((Only.refl _ w).alloc _).alloc _)
      have I1 := Lib.hid (show Is w1 w.heap.size 32 #[.int .i64 sz, .int .u64 (hold : Int), .int .u64 (nx : Int), .bool bg, .slice (some ⟨g, o, none⟩) n c] from by rw [← hw1]; exact (Is.made w _ _).alloc _)
      have J1 := Lib.hid (show Is w1 (w.heap.size + 1) 32 zeroRb from by
        rw [← hw1]
        have := Is.made (w.alloc (.cells #[.int .i64 sz, .int .u64 (hold : Int), .int .u64 (nx : Int), .bool bg, .slice (some ⟨g, o, none⟩) n c] 32)) 32 zeroRb
        rw [World.size_alloc] at this
        exact this)
      have R1 := Lib.hid (range_pure RA.out O1.out)
      obtain ⟨b1, hb1⟩ : ∃ b1, w.heap.size = b1 := ⟨_, rfl⟩
      obtain ⟨b2, hb2⟩ : ∃ b2, w.heap.size + 1 = b2 := ⟨_, rfl⟩
      have HBB := Lib.hid (show b1 = w.heap.size ∧ b2 = w.heap.size + 1 from ⟨hb1.symm, hb2.symm⟩)
      rw [hb2] at J1 ⊢
      rw [hb1] at I1 ⊢
      clear hw1 hb1 hb2
      have c14 : w1.cell? ⟨b1, 4, none⟩ = some (.slice (some ⟨g, o, none⟩) n c) := I1.out.cell 4
      have hne1 : ¬ w1.heap.size = b1 := by have := I1.out.lt; omega
      have HNE := Lib.hid (show b2 ≠ b1 from by have := HBB.out; omega)
      go_upto_region 2 with (first
        | (refine wpList_load_mid rfl 87 _ rfl g o rfl [.int .u64 (z : Int), .int .u64 (cm : Int), q0, q1, q2, q3, q4, q5, q6, q7, q8, q9, q10] _ R1.out Try.underlying87 rfl Try.sizeRw ?_)
        | (refine wpList_store_is (o := ⟨none, _, _, _, _, _⟩) rfl 87 _ _ rfl w1.heap.size #[.int .u64 (z : Int), .int .u64 (cm : Int), q0, q1, q2, q3, q4, q5, q6, q7, q8, q9, q10] rfl rfl 87 _ (Is.made w1 _ _) Try.sizeRw rfl HON13.out ?_; intro w4 hi4 ho4; have O4 := Lib.hid (((Only.refl _ w1).alloc _).trans ho4 (fun i hi e => by omega) : Only (fun _ => False) w1 w4); have I4 := Lib.hid hi4; have O14 := Lib.hid (O1.out.trans O4.out (fun _ _ e => e)); have K1 := Lib.hid (I1.out.only O4.out (by simp)); have K2 := Lib.hid (J1.out.only O4.out (by simp)); clear hi4 ho4; have c0 : w4.cell? ⟨w1.heap.size, 0, none⟩ = some (.int .u64 (z : Int)) := I4.out.cell 0; have c2 : w4.cell? ⟨b1, 2, none⟩ = some (.int .u64 (nx : Int)) := K1.out.cell 2; have RP := Lib.hid (show w4.rangeAt w1.heap.size 2 [q0, q1, q2, q3, q4, q5, q6, q7, q8, q9, q10] from fun j v hj => by rw [I4.out.cell, show 2 + j = j + 2 by omega]; simpa using hj)))
      go_upto_region 5 with (first
        | (at_builtin; refine wpList_append_struct _ rfl _ _ sty_ro rfl w.heap.size (.slice none 0 0) [] rfl (OwnS.nil _ _ _ _) w4.heap.size [.bool true, .int .u64 (nx : Int), .int .u64 (z1 : Int), .bool false, .int .u8 0, .int .u16 0, .int .u32 0, .int .u32 0, .slice none 0 0, .bool false, .int .u16 0, .slice none 0 0, .slice none 0 0, .int .u8 0] rfl (Is.made w4 _ _) rfl HG1.out (by decide) (by decide) (Nat.le_trans O14.out.size (by simp)) ?_; intro v5 w5 hS5 hO5; obtain ⟨A5, k5, rfl, -⟩ := hS5.slice; have O5 := Lib.hid (((Only.refl _ w4).alloc _).trans hO5 (fun i hi e => by simp [Value.ownBlock] at e) : Only (fun _ => False) w4 w5); have S5 := Lib.hid hS5; clear hS5 hO5; have c05 := (I4.out.only O5.out (by simp)).cell 0; simp at c05; have RP5 := Lib.hid (range_pure RP.out O5.out)))
      go_upto_region 8 with (first
        | (at_builtin; refine wpList_append_struct _ rfl _ _ sty_ro rfl w.heap.size _ [[.bool true, .int .u64 (nx : Int), .int .u64 (z1 : Int), .bool false, .int .u8 0, .int .u16 0, .int .u32 0, .int .u32 0, .slice none 0 0, .bool false, .int .u16 0, .slice none 0 0, .slice none 0 0, .int .u8 0]] rfl (OwnS.only S5.out ((Only.refl (fun _ => False) _).alloc _) (by simp)) w5.heap.size [.bool false, .int .u64 (z : Int), .int .u64 (z : Int), q0, q1, q2, q3, q4, q5, q6, q7, q8, q9, q10] rfl (Is.made w5 _ _) rfl HONE.out (by simp) (by decide) (Nat.le_trans (O14.out.trans O5.out (fun _ _ e => e)).size (by simp)) ?_; intro v6 w6 hS6 hO6; obtain ⟨A6, k6, hv6, -⟩ := hS6.slice; subst hv6; have S6 := Lib.hid hS6; have Q1 := Lib.hid (((K1.out.only O5.out (by simp)).alloc _).only hO6 (fun e => owned_off S5.out.1 (K1.out.only O5.out (by simp)) (by decide) e)); have Q2 := Lib.hid (((K2.out.only O5.out (by simp)).alloc _).only hO6 (fun e => owned_off S5.out.1 (K2.out.only O5.out (by simp)) (by decide) e)); have Q4 := Lib.hid (((I4.out.only O5.out (by simp)).alloc _).only hO6 (fun e => owned_off S5.out.1 (I4.out.only O5.out (by simp)) (by decide) e)); have O6 := Lib.hid (((O14.out.trans O5.out (fun _ _ e => e)).alloc _).trans hO6 (fun i hi e => by have := (S5.out.lt i e).1; omega) : Only (fun _ => False) w w6); clear hS6 hO6; have d4 : w6.cell? ⟨b1, 4, none⟩ = some (.slice (some ⟨g, o, none⟩) n c) := Q1.out.cell 4; have f4 := Q1.out.free 4; have f2 := Q1.out.free 2; have d2 : w6.cell? ⟨b1, 2, none⟩ = some (.int .u64 (nx : Int)) := Q1.out.cell 2; have d0 : w6.cell? ⟨w1.heap.size, 0, none⟩ = some (.int .u64 (z : Int)) := Q4.out.cell 0)
        | (refine wpList_load_mid rfl 74 _ rfl w1.heap.size 2 rfl [q0, q1, q2, q3, q4, q5, q6, q7, q8, q9, q10] _ RP5.out Try.underlying74 rfl Try.sizeRk ?_))
      go_wp2_with (first
        | (refine wpList_load_want rfl _ _ rfl b1 rfl _ #[.int .i64 sz, .int .u64 (hold : Int), .int .u64 ((z + 1 : Nat) : Int), .bool bg, (.slice (some ⟨g, o + 13, none⟩) (n - 1) (c - 1))] _ ((Q1.out.put 4 _).put 2 _) Try.underlying32 rfl Try.sizeRb ?_)
        | (refine wpList_store_is (o := ⟨none, _, _, _, _, _⟩) rfl 32 _ _ rfl b2 #[.int .i64 sz, .int .u64 (hold : Int), .int .u64 ((z + 1 : Nat) : Int), .bool bg, (.slice (some ⟨g, o + 13, none⟩) (n - 1) (c - 1))] rfl rfl 32 zeroRb ((Q2.out.far HNE.out _).far HNE.out _) Try.sizeRb rfl (by simp [Value.oneCell']) ?_; intro w8 hi8 ho8))
      obtain ⟨e1, e2, e3, e4⟩ := HR.out
      have O68 : Only (fun k => k = b1 ∨ k = b2) w6 w8 := Only.trans (Only.set (S := fun k => k = b1 ∨ k = b2) (p := ⟨b1, 2, none⟩) (Only.set (S := fun k => k = b1 ∨ k = b2) (p := ⟨b1, 4, none⟩) (Only.refl _ w6) (fun _ => .inl rfl) _) (fun _ => .inl rfl) _) ho8 (fun _ _ e => .inr e)
      have O8 : Only (fun _ => False) w w8 := O6.out.trans O68 (fun i hi e => by have := HBB.out; omega)
      have hT8 : ∀ W, RdL W (.slice (some ⟨g, o, none⟩) n c) (x :: ws) (u :: us) → RdL W (.slice (some ⟨g, o + 13, none⟩) (n - 1) (c - 1)) ws us := fun W hW => by
        have := HT.out W hW
        rwa [if_neg hc1] at this
      refine bodyPost_ret (res_cell Try.results50 _ w8 b2 32 #[.int .i64 sz, .int .u64 (hold : Int), .int .u64 ((z + 1 : Nat) : Int), .bool bg, (.slice (some ⟨g, o + 13, none⟩) (n - 1) (c - 1))] _ (.slice A6 2 k6) rfl rfl hi8 Try.underlying32 rfl Try.sizeRb) rfl ⟨(.slice (some ⟨g, o + 13, none⟩) (n - 1) (c - 1)), .slice A6 2 k6, ?_, hT8, ?_, O8⟩
      · rw [HZ.out, e1, e2, e4]
        rfl
      · have hS8 := S6.out.only O68 (fun k hk e => by
          rcases e with e | e
          · exact owned_off S6.out.1 Q1.out (by decide) (by rw [hk, e])
          · exact owned_off S6.out.1 Q2.out (by decide) (by rw [hk, e]))
        rw [e3]
        unfold stepIt
        rw [if_neg (by rw [HZ.out]; exact hgt)]
        have hgc : (gapIt nx (x.n - 1)).cls = [.bool true, .int .u64 (nx : Int), .int .u64 (z1 : Int), .bool false, .int .u8 0, .int .u16 0, .int .u32 0, .int .u32 0, .slice none 0 0, .bool false, .int .u16 0, .slice none 0 0, .slice none 0 0, .int .u8 0] := by rw [HZ.out]; exact (by rw [HZ1.out]; rfl)
        simp only [List.map_cons, List.map_nil, hgc, HPK.out]
        exact hS8
end Go.Proofs.Ytdcclighccejhaa
