/- Merged of RsB RsC RsD RsE RsF RsG RsI. Conditions: as each says. -/
import Derived.Test.YtdcclighccejhaaRsA
/- reorder: In, of a packet that can be read behind a write into the buffer. Conditions: as each says. -/
set_option linter.unusedVariables false
set_option linter.unusedSimpArgs false
namespace Go.Proofs.Ytdcclighccejhaa
open Go Go.RowKit

set_option maxRecDepth 20000 in
set_option maxHeartbeats 4000000 in
theorem rin_yesG (b n now B : Nat) (p : Pk) (vc ve vp : Value) (m : Bf) (v : Value) (us : List V3) (w : World) (h : Bfr w b m v us B) (hg : m.Good) (hyes : m.takes n) (hn : n ≤ 4611686018427387904) (hnow : now < 18446744073709551616) (hBs : B ≤ w.heap.size)
    (hn0 : vc = .slice none 0 0 ∨ ∃ ad n c, vc = .slice (some ad) n c) (hl : p.csrc.length ≤ 1000000 ∧ p.ext.length ≤ 1000000 ∧ p.pay.length ≤ 1000000) (hfar : ∀ wx, Only (fun k => k = b) w wx → Rd .u32 wx vc (nats p.csrc) ∧ Src wx ve p.ext ∧ Src wx vp p.pay) :
    Calls Try.prog 16 #[ptr b, .int .u64 (n : Int), .agg (p.cls vc ve vp), .int .u64 (now : Int)] w (InLeft b B m v us ⟨n, now, p⟩ w) := by
  have HT := Lib.hid (fun (w1 : World) (ho : Only (fun _ => False) w w1) => takes_is b m v us B w1 (h.pure ho) hg.ok.fit)
  have HP := Lib.hid (fun (w1 : World) (ho : Only (fun _ => False) w w1) => place_is b n m v us B w1 (h.pure ho) hg.ok.fit)
  have HDC := Lib.hid (fun k => place_dec hg (n := n) (k := k))
  have HPOS := Lib.hid (fun k => pos_of m.ws n k)
  have HCP := Lib.hid (fun (wx : World) (ho : Only (fun k => k = b) w wx) => copyof_is p vc ve vp wx (hfar wx ho).1 hn0 (hfar wx ho).2.1 (hfar wx ho).2.2 hl)
  have HOKI := Lib.hid (ins_ok hg ⟨n, now, p⟩ hn hnow hyes)
  have HLOW := Lib.hid (show ∀ a ∈ us, ∀ j, Blk a j → j < w.heap.size from fun a ha j hj => by
    obtain ⟨i, hi⟩ := List.getElem?_of_mem ha
    have hil : i < m.ws.length := by rw [← h.pks.len]; exact (List.getElem?_eq_some_iff.1 hi).1
    exact (OwnPk.blk (h.pks.own i _ a (List.getElem?_eq_getElem hil) hi) j hj).2)
  have HVL := Lib.hid (fun j (e : v.ownBlock = some j) => (h.row.lt j e).2)
  have hd : decide (∃ x ∈ m.ws, x.n = n) = false := by simp; exact fun x hx => hyes.1 x hx
  have HD := Lib.hid hd
  have HLT := Lib.hid hyes.2
  have HBS := Lib.hid hBs
  have H := Lib.hid h
  obtain ⟨S, hS⟩ : ∃ S, m.size = S := ⟨_, rfl⟩
  have HSI := Lib.hid hS
  obtain ⟨L, hL⟩ : ∃ L, m.ws.length = L := ⟨_, rfl⟩
  have HLN := Lib.hid hL
  have HLE := Lib.hid (show 1 ≤ S ∧ S ≤ 256 ∧ L ≤ S from by rw [← hS, ← hL]; exact ⟨hg.one, hg.le, hg.len⟩)
  have hwr : IntKind.u64.wrap ((n : Int) - 1) = (((n + 18446744073709551615) % 18446744073709551616 : Nat) : Int) := by rw [IntKind.wrap_u64]; omega
  clear h hg hyes hn0 hl hfar hd hS hL hBs
  go_enter Try.func16, Try.ntmps16
  go_wp2_with fail
  generalize hw1 : World.alloc _ _ = w1
  have O1 := Lib.hid (show Only (fun _ => False) w w1 from by rw [← hw1]; exact (Only.refl _ w).alloc _)
  have I1 := Lib.hid (show Is w1 w.heap.size 42 (p.cls vc ve vp) from by rw [← hw1]; exact Is.made w _ _)
  obtain ⟨pb, hpb⟩ : ∃ pb, w.heap.size = pb := ⟨_, rfl⟩
  rw [hpb] at I1 ⊢
  clear hw1 hpb
  refine (HT.out w1 O1.out).mono ?_
  rintro e w2 ⟨rfl, rfl⟩
  clear HT
  go_wp2_with fail
  refine (HP.out _ O1.out).mono ?_
  rintro e w3 ⟨k, rfl, hk, hlo, hhi, ho⟩
  rw [HDC.out k hk hlo hhi, HD.out]
  have HK := Lib.hid (show k = m.pos n from (HPOS.out k hk hlo hhi).symm)
  have O3 := Lib.hid (O1.out.trans ho (fun _ _ e => e))
  have I3 := Lib.hid (I1.out.only ho (by simp))
  have hB3 := Lib.hid (H.out.pure O3.out)
  rw [HLN.out] at hk
  have c2 := hB3.out.went
  have c3 := hB3.out.last
  clear hlo hhi ho HP HDC HPOS HD O1 I1
  cases hs : m.some with
  | true =>
    rw [hs] at c2
    have hlI : ¬ (n : Int) ≤ (m.last : Int) := by have := HLT.out hs; omega
    obtain ⟨m1, hm1⟩ : ∃ m1, m.begun n = m1 := ⟨_, rfl⟩
    have HM1 := Lib.hid (show m1.ws = m.ws ∧ m1.size = S ∧ m1 = m.begun n from ⟨by rw [← hm1, begun_ws], by rw [← hm1, begun_size, HSI.out], hm1.symm⟩)
    have hB8 : Bfr w3 b m1 v us B := by rw [← hm1]; unfold Bf.begun; rw [hs, if_pos rfl]; exact hB3.out
    have hI8 := I3.out
    have hO8 : Only (fun k => k = b) w w3 := O3.out.mono (fun _ _ e => e.elim)
    generalize hlst : m.last = lst at c3 hlI
    clear hlst hs hm1 hB3
    go_upto_region 8 with (fail)

    have HB8 := Lib.hid hB8
    have HI8 := Lib.hid hI8
    have O8 := Lib.hid hO8
    clear hB8 hI8 hO8
    refine ri8 b pb B n now k p vc ve vp m1 v us w3 HB8.out HI8.out (by rw [HM1.out.1, HLN.out]; exact hk) (by rw [HM1.out.1, HLN.out]; have := HLE.out; omega) (Nat.le_trans HBS.out O8.out.size) (fun wx ho => HCP.out wx (O8.out.trans ho (fun _ _ e => e.elim))) _ _ _ _ _ _ _ _ _ _ _ _ _ _ _ _ _ _ _ _ _ _ _ _ _ _ _ _ _ _ _ _ _ _ _ _ _ _ _ _ _ _ _ _ _ _ _ _ _ _ _ _ _ _ _ _ _ _ _ _ _ _ _ _ _ _ _ _ _ _ _ _ w3 rfl ?_
    rintro y49 y50 y51 y52 y53 y54 y55 y56 y57 y58 y59 y60 y61 y62 y63 w9 ⟨u, w10, v2, ⟨hS, hO, hOn⟩, rfl⟩
    have HAF := Lib.hid (after_ri8 HB8.out (fun a ha j hj => Nat.lt_of_lt_of_le (HLOW.out a ha j hj) O8.out.size) (Nat.le_trans HBS.out O8.out.size) hS hO hOn (by rw [HM1.out.1, HLN.out]; exact hk))
    generalize hw11 : World.setCell _ _ _ = w11
    rw [hw11] at HAF
    obtain ⟨m2, hm2⟩ : ∃ m2, ({ m1 with ws := insAt m1.ws k ⟨n, now, p⟩ } : Bf) = m2 := ⟨_, rfl⟩
    rw [hm2] at HAF
    have HM2 := Lib.hid (show m2 = m.ins ⟨n, now, p⟩ from by rw [← hm2, HM1.out.1, HM1.out.2.2, HK.out]; rfl)
    have hlen2 : m2.ws.length = L + 1 := by rw [← hm2]; show (insAt m1.ws k _).length = _; rw [insAt_length _ _ _ (by rw [HM1.out.1, HLN.out]; exact hk), HM1.out.1, HLN.out]
    have hsz2 : m2.size = S := by rw [← hm2]; exact HM1.out.2.1
    have HOK := Lib.hid (show m2.Ok from by rw [HM2.out]; exact HOKI.out)
    have HL2 := Lib.hid (fun (w12 : World) (ho : Only (fun _ => False) w11 w12) (must : Int) => leave_is b B must m2 v2 (insAt us k u) w12 (HAF.out.1.pure ho) HOK.out)
    obtain ⟨A2, c2, hv2, hc2⟩ := HAF.out.1.slice
    subst hv2
    have c4 := HAF.out.1.list
    have c0 := HAF.out.1.size
    rw [hlen2] at c4 hc2
    rw [hsz2] at c0
    have e3 : IntKind.i64.wrap (((L + 1 : Nat) : Int) - (S : Int)) = (L : Int) + 1 - S := by rw [IntKind.wrap_i64]; have := HLE.out; omega
    have e4 : IntKind.i64.wrap ((L : Int) + 1 - (S : Int)) = (L : Int) + 1 - S := by rw [IntKind.wrap_i64]; have := HLE.out; omega
    clear hS hO hOn hw11 hm2 hlen2 hsz2 hk
    go_wp2_with fail
    go_still_tail 11, (by kernel_rfl)
    go_wp2_with fail
    refine (HL2.out _ ((Only.refl _ w11).drewN 1) _).mono ?_
    rintro e w13 ⟨vo, rfl, hLo, hLg, hLp, hLn⟩
    have HEN := Lib.hid (And.intro hLo (And.intro hLg (And.intro hLp hLn)))
    clear hLo hLg hLp hLn e3 e4 c0 c4
    go_wp2
    go_ret2
    obtain ⟨q1, q2, q3, q4⟩ := HEN.out
    rw [HM2.out] at q1 q2 q3 q4
    have O11 : Only (fun k => k = b ∨ v.ownBlock = some k) w w11 := (O8.out.mono (fun _ _ e => .inl e)).trans HAF.out.2.2 (fun _ _ e => e)
    have HFR := HAF.out.2.1
    rw [HK.out] at q1 q2 q3
    rw [← HSI.out, ← HLN.out] at q1 q2
    refine ⟨vo, u, rfl, fun j hj => Nat.le_trans O8.out.size (HFR j hj), _, rfl, ⟨owned_low q1.1 O11.size, q1.2⟩, q2, q3, ?_⟩
    refine ((O11.drewN 1).mono (fun j hj e => e.elim .inl (fun e => .inr ⟨(H.out.row.lt j e).1, own_blk_is H.out.row.1 e⟩))).trans q4 (fun j hj e => ?_)
    rcases e with e | e
    · exact .inl e
    · by_cases hjb : j = b
      · exact .inl hjb
      · by_cases hjv : v.ownBlock = some j
        · exact .inr ⟨(H.out.row.lt j hjv).1, own_blk_is H.out.row.1 hjv⟩
        · have e' : (Value.slice A2 m2.ws.length c2).ownBlock = some j := by rw [HM2.out]; exact e
          obtain ⟨cs, hcs⟩ := own_blk_is HAF.out.1.row.1 e'
          exact .inr ⟨(HAF.out.1.row.lt j e').1, cs, (O11.same j hj (fun e => e.elim hjb hjv)).symm.trans hcs⟩
  | false =>
    rw [hs] at c2
    obtain ⟨m1, hm1⟩ : ∃ m1, m.begun n = m1 := ⟨_, rfl⟩
    have HM1 := Lib.hid (show m1.ws = m.ws ∧ m1.size = S ∧ m1 = m.begun n from ⟨by rw [← hm1, begun_ws], by rw [← hm1, begun_size, HSI.out], hm1.symm⟩)
    have HB0 := Lib.hid (show Bfr ((w3.setCell ⟨b, 2, none⟩ (.bool true)).setCell ⟨b, 3, none⟩ (.int .u64 (((n + 18446744073709551615) % 18446744073709551616 : Nat) : Int))) b m1 v us B from by rw [← hm1]; exact hB3.out.put_begun n hs)
    have ff2 := hB3.out.is.free 2
    have ff3 := hB3.out.is.free 3
    obtain ⟨nl, hnl⟩ : ∃ nl, (n + 18446744073709551615) % 18446744073709551616 = nl := ⟨_, rfl⟩
    rw [hnl] at hwr HB0
    generalize hlst : m.last = lst at c3
    have HPB := Lib.hid (show pb ≠ b from fun e => I3.out.apart hB3.out.is (by decide) e)
    clear hlst hs hm1 hB3 hnl
    go_upto_region 8 with (fail)
    generalize hw8 : World.setCell (World.setCell _ _ _) _ _ = w8
    have hO8 : Only (fun k => k = b) w w8 := by rw [← hw8]; exact Only.set (S := fun k => k = b) (p := ⟨b, 3, none⟩) (Only.set (S := fun k => k = b) (p := ⟨b, 2, none⟩) (O3.out.mono (fun _ _ e => e.elim)) (fun _ => rfl) _) (fun _ => rfl) _
    have hI8 : Is w8 pb 42 (p.cls vc ve vp) := by rw [← hw8]; exact (I3.out.far HPB.out _).far HPB.out _
    have hB8 : Bfr w8 b m1 v us B := by rw [← hw8]; exact HB0.out
    clear hw8 ff2 ff3 c2 c3 hwr HB0

    have HB8 := Lib.hid hB8
    have HI8 := Lib.hid hI8
    have O8 := Lib.hid hO8
    clear hB8 hI8 hO8
    refine ri8 b pb B n now k p vc ve vp m1 v us w8 HB8.out HI8.out (by rw [HM1.out.1, HLN.out]; exact hk) (by rw [HM1.out.1, HLN.out]; have := HLE.out; omega) (Nat.le_trans HBS.out O8.out.size) (fun wx ho => HCP.out wx (O8.out.trans ho (fun _ _ e => e.elim))) _ _ _ _ _ _ _ _ _ _ _ _ _ _ _ _ _ _ _ _ _ _ _ _ _ _ _ _ _ _ _ _ _ _ _ _ _ _ _ _ _ _ _ _ _ _ _ _ _ _ _ _ _ _ _ _ _ _ _ _ _ _ _ _ _ _ _ _ _ _ _ _ w8 rfl ?_
    rintro y49 y50 y51 y52 y53 y54 y55 y56 y57 y58 y59 y60 y61 y62 y63 w9 ⟨u, w10, v2, ⟨hS, hO, hOn⟩, rfl⟩
    have HAF := Lib.hid (after_ri8 HB8.out (fun a ha j hj => Nat.lt_of_lt_of_le (HLOW.out a ha j hj) O8.out.size) (Nat.le_trans HBS.out O8.out.size) hS hO hOn (by rw [HM1.out.1, HLN.out]; exact hk))
    generalize hw11 : World.setCell _ _ _ = w11
    rw [hw11] at HAF
    obtain ⟨m2, hm2⟩ : ∃ m2, ({ m1 with ws := insAt m1.ws k ⟨n, now, p⟩ } : Bf) = m2 := ⟨_, rfl⟩
    rw [hm2] at HAF
    have HM2 := Lib.hid (show m2 = m.ins ⟨n, now, p⟩ from by rw [← hm2, HM1.out.1, HM1.out.2.2, HK.out]; rfl)
    have hlen2 : m2.ws.length = L + 1 := by rw [← hm2]; show (insAt m1.ws k _).length = _; rw [insAt_length _ _ _ (by rw [HM1.out.1, HLN.out]; exact hk), HM1.out.1, HLN.out]
    have hsz2 : m2.size = S := by rw [← hm2]; exact HM1.out.2.1
    have HOK := Lib.hid (show m2.Ok from by rw [HM2.out]; exact HOKI.out)
    have HL2 := Lib.hid (fun (w12 : World) (ho : Only (fun _ => False) w11 w12) (must : Int) => leave_is b B must m2 v2 (insAt us k u) w12 (HAF.out.1.pure ho) HOK.out)
    obtain ⟨A2, c2, hv2, hc2⟩ := HAF.out.1.slice
    subst hv2
    have c4 := HAF.out.1.list
    have c0 := HAF.out.1.size
    rw [hlen2] at c4 hc2
    rw [hsz2] at c0
    have e3 : IntKind.i64.wrap (((L + 1 : Nat) : Int) - (S : Int)) = (L : Int) + 1 - S := by rw [IntKind.wrap_i64]; have := HLE.out; omega
    have e4 : IntKind.i64.wrap ((L : Int) + 1 - (S : Int)) = (L : Int) + 1 - S := by rw [IntKind.wrap_i64]; have := HLE.out; omega
    clear hS hO hOn hw11 hm2 hlen2 hsz2 hk
    go_wp2_with fail
    go_still_tail 11, (by kernel_rfl)
    go_wp2_with fail
    refine (HL2.out _ ((Only.refl _ w11).drewN 1) _).mono ?_
    rintro e w13 ⟨vo, rfl, hLo, hLg, hLp, hLn⟩
    have HEN := Lib.hid (And.intro hLo (And.intro hLg (And.intro hLp hLn)))
    clear hLo hLg hLp hLn e3 e4 c0 c4
    go_wp2
    go_ret2
    obtain ⟨q1, q2, q3, q4⟩ := HEN.out
    rw [HM2.out] at q1 q2 q3 q4
    have O11 : Only (fun k => k = b ∨ v.ownBlock = some k) w w11 := (O8.out.mono (fun _ _ e => .inl e)).trans HAF.out.2.2 (fun _ _ e => e)
    have HFR := HAF.out.2.1
    rw [HK.out] at q1 q2 q3
    rw [← HSI.out, ← HLN.out] at q1 q2
    refine ⟨vo, u, rfl, fun j hj => Nat.le_trans O8.out.size (HFR j hj), _, rfl, ⟨owned_low q1.1 O11.size, q1.2⟩, q2, q3, ?_⟩
    refine ((O11.drewN 1).mono (fun j hj e => e.elim .inl (fun e => .inr ⟨(H.out.row.lt j e).1, own_blk_is H.out.row.1 e⟩))).trans q4 (fun j hj e => ?_)
    rcases e with e | e
    · exact .inl e
    · by_cases hjb : j = b
      · exact .inl hjb
      · by_cases hjv : v.ownBlock = some j
        · exact .inr ⟨(H.out.row.lt j hjv).1, own_blk_is H.out.row.1 hjv⟩
        · have e' : (Value.slice A2 m2.ws.length c2).ownBlock = some j := by rw [HM2.out]; exact e
          obtain ⟨cs, hcs⟩ := own_blk_is HAF.out.1.row.1 e'
          exact .inr ⟨(HAF.out.1.row.lt j e').1, cs, (O11.same j hj (fun e => e.elim hjb hjv)).symm.trans hcs⟩
theorem rin_doneG (b n now B : Nat) (p : Pk) (vc ve vp : Value) (m : Bf) (v : Value) (us : List V3) (w : World) (h : Bfr w b m v us B) (hg : m.Good) (hyes : m.takes n) (hn : n ≤ 4611686018427387904) (hnow : now < 18446744073709551616) (hBs : B ≤ w.heap.size)
    (hn0 : vc = .slice none 0 0 ∨ ∃ ad n c, vc = .slice (some ad) n c) (hl : p.csrc.length ≤ 1000000 ∧ p.ext.length ≤ 1000000 ∧ p.pay.length ≤ 1000000) (hfar : ∀ wx, Only (fun k => k = b) w wx → Rd .u32 wx vc (nats p.csrc) ∧ Src wx ve p.ext ∧ Src wx vp p.pay) :
    Calls Try.prog 16 #[ptr b, .int .u64 (n : Int), .agg (p.cls vc ve vp), .int .u64 (now : Int)] w (InDone b B m us ⟨n, now, p⟩ w) := by
  refine (rin_yesG b n now B p vc ve vp m v us w h hg hyes hn hnow hBs hn0 hl hfar).mono ?_
  rintro e w' ⟨vo, u, rfl, hb, out, rfl, h1, h2, h3, h4⟩
  have hlen : (insAt us (m.pos n) u).length = (m.ins ⟨n, now, p⟩).ws.length := by
    show _ = (insAt m.ws (m.pos n) _).length
    rw [insAt_length _ _ _ (pos_le m n), insAt_length _ _ _ (by rw [h.pks.len]; exact pos_le m n), h.pks.len]
  rw [cnt_goes _ hlen] at h2
  rw [lv_goes _ hlen] at h1
  exact ⟨vo, u, rfl, hb, h1, h2, h3, h4⟩
end Go.Proofs.Ytdcclighccejhaa

/- ReorderAll, plainly: what came, what went, what waits. Conditions: as each says. -/
set_option linter.unusedVariables false
set_option linter.unusedSimpArgs false
namespace Go.Proofs.Ytdcclighccejhaa
open Go Go.RowKit

/-- What goes, one behind the other. -/
def chain : Nat → List It → Nat → Prop
  | a, [], b => a = b
  | a, x :: t, b => x.a = a ∧ x.a ≤ x.z ∧ (x.gap = false → x.z = x.a) ∧ chain (x.z + 1) t b
theorem chain_append : ∀ (l l' : List It) (a b c : Nat), chain a l b → chain b l' c → chain a (l ++ l') c
  | [], l', a, b, c, h, h' => by cases h; exact h'
  | x :: t, l', a, b, c, h, h' => ⟨h.1, h.2.1, h.2.2.1, chain_append t l' _ b c h.2.2.2 h'⟩
theorem chain_le : ∀ (l : List It) (a b : Nat), chain a l b → a ≤ b ∧ ∀ x ∈ l, a ≤ x.a ∧ x.a ≤ x.z ∧ x.z + 1 ≤ b
  | [], a, b, h => by cases h; exact ⟨Nat.le_refl _, by simp⟩
  | x :: t, a, b, h => by
    obtain ⟨h1, h2, h3, h4⟩ := h
    obtain ⟨i1, i2⟩ := chain_le t _ _ h4
    refine ⟨by omega, fun y hy => ?_⟩
    rcases List.mem_cons.1 hy with rfl | hy
    · exact ⟨by omega, h2, i1⟩
    · have := i2 y hy
      omega
theorem chain_pw : ∀ (l : List It) (a b : Nat), chain a l b → l.Pairwise (fun x y => x.z < y.a)
  | [], a, b, h => List.Pairwise.nil
  | x :: t, a, b, h => by
    obtain ⟨h1, h2, h3, h4⟩ := h
    refine List.pairwise_cons.2 ⟨fun y hy => ?_, chain_pw t _ _ h4⟩
    have := ((chain_le t _ _ h4).2 y hy).1
    omega
theorem chain_one : ∀ {l : List It} {a b : Nat}, chain a l b → ∀ {x : It}, x ∈ l → x.gap = false → x.z = x.a
  | [], a, b, _, x, hx, _ => by simp at hx
  | y :: t, a, b, h, x, hx, hg => by
    obtain ⟨h1, h2, h3, h4⟩ := h
    rcases List.mem_cons.1 hx with e | h5
    · subst e
      exact h3 hg
    · exact chain_one h4 h5 hg
theorem pw_or {α : Type} {R : α → α → Prop} : ∀ {l : List α}, l.Pairwise R → ∀ x ∈ l, ∀ y ∈ l, x = y ∨ R x y ∨ R y x
  | [], _, x, hx, _, _ => by simp at hx
  | z :: t, h, x, hx, y, hy => by
    obtain ⟨h1, h2⟩ := List.pairwise_cons.1 h
    rcases List.mem_cons.1 hx with e1 | g1
    · rcases List.mem_cons.1 hy with e2 | g2
      · exact .inl (e1.trans e2.symm)
      · exact .inr (.inl (by rw [e1]; exact h1 y g2))
    · rcases List.mem_cons.1 hy with e2 | g2
      · exact .inr (.inr (by rw [e2]; exact h1 x g1))
      · exact pw_or h2 x g1 y g2
def asc : Nat → List Wt → Prop
  | _, [] => True
  | a, x :: t => a ≤ x.n ∧ asc (x.n + 1) t
def nxt : Nat → List Wt → Nat
  | a, [] => a
  | _, x :: t => nxt (x.n + 1) t
theorem asc_take : ∀ (ws : List Wt) (a j : Nat), asc a ws → asc a (ws.take j)
  | [], a, j, h => by rw [List.take_nil]; trivial
  | x :: t, a, 0, h => trivial
  | x :: t, a, j + 1, h => ⟨h.1, asc_take t _ j h.2⟩
theorem chain_items : ∀ (ws : List Wt) (us : List V3) (a : Nat), us.length = ws.length → asc a ws → chain a (items a ws us) (nxt a ws)
  | [], us, a, _, _ => by rw [items_nil]; rfl
  | x :: t, [], a, h, _ => by simp at h
  | x :: t, u :: us, a, h, ha => by
    have ih := chain_items t us (x.n + 1) (by simpa using h) ha.2
    show chain a (stepIt a x u ++ items (x.n + 1) t us) (nxt (x.n + 1) t)
    unfold stepIt
    split
    · rename_i e
      exact ⟨e, Nat.le_refl _, fun _ => rfl, ih⟩
    · rename_i e
      have := ha.1
      refine ⟨rfl, ?_, ?_, ?_, ?_, ?_, ih⟩
      · show a ≤ x.n - 1
        omega
      · intro h
        cases h
      · show x.n = x.n - 1 + 1
        omega
      · exact Nat.le_refl _
      · exact fun _ => rfl
theorem nxt_at : ∀ (ws : List Wt) (a j : Nat), j ≤ ws.length → nxt a (ws.take j) = nxAt a ws j
  | [], a, j, h => by
    have : j = 0 := by simpa using h
    subst this
    rfl
  | x :: t, a, 0, _ => rfl
  | x :: t, a, 1, _ => by
    show nxt (x.n + 1) (t.take 0) = _
    rfl
  | x :: t, a, j + 2, h => by
    have ih := nxt_at t (x.n + 1) (j + 1) (by simpa using h)
    show nxt (x.n + 1) (t.take (j + 1)) = _
    rw [ih]
    unfold nxAt
    rw [if_neg (by omega), if_neg (by omega)]
    simp
theorem asc_of : ∀ (ws : List Wt) (a : Nat), (∀ x ∈ ws, a ≤ x.n) → (∀ (i j : Nat) (x y : Wt), i < j → ws[i]? = some x → ws[j]? = some y → x.n < y.n) → asc a ws
  | [], _, _, _ => trivial
  | x :: t, a, h1, h2 => ⟨h1 x (by simp), asc_of t _ (fun y hy => by
      obtain ⟨i, hi⟩ := List.getElem?_of_mem hy
      have := h2 0 (i + 1) x y (by omega) rfl (by simpa using hi)
      omega) (fun i j y z hij hy hz => h2 (i + 1) (j + 1) y z (by omega) (by simpa using hy) (by simpa using hz))⟩
theorem good_asc {m : Bf} (h : m.Good) : asc m.nx m.ws := asc_of _ _ (fun x hx => h.ok.nx x hx) h.rise
/-- What came, what went, what waits. -/
structure AllP (ins : List Ac) (out : List It) (m : Bf) : Prop where
  emp : ins = [] → out = [] ∧ m.some = false
  some : ∀ a0, ins.head? = Option.some a0 → m.some = true ∧ chain a0.n out m.nx
  nod : ins.Pairwise (fun a b => a.n ≠ b.n)
  wait : ∀ x ∈ m.ws, ∃ a ∈ ins, a.n = x.n ∧ a.p = x.p ∧ a.now = x.came
  pkt : ∀ x ∈ out, x.gap = false → ∃ a ∈ ins, a.n = x.a ∧ a.p = x.p
  all : ∀ a ∈ ins, (∃ x ∈ out, x.gap = false ∧ x.a = a.n) ∨ (∃ x ∈ m.ws, x.n = a.n)
  cnt : (out.filter (fun x => !x.gap)).length + m.ws.length = ins.length
theorem items_cnt : ∀ (ws : List Wt) (us : List V3) (a : Nat), us.length = ws.length → ((items a ws us).filter (fun x => !x.gap)).length = ws.length
  | [], us, a, _ => by rw [items_nil]; rfl
  | x :: t, [], a, h => by simp at h
  | x :: t, u :: us, a, h => by
    have ih := items_cnt t us (x.n + 1) (by simpa using h)
    show ((stepIt a x u ++ items (x.n + 1) t us).filter _).length = _
    rw [List.filter_append, List.length_append, ih, List.length_cons]
    unfold stepIt
    split <;> simp [pkIt, gapIt] <;> omega
theorem items_pkt : ∀ (ws : List Wt) (us : List V3) (a : Nat) (x : It), x ∈ items a ws us → x.gap = false → ∃ y ∈ ws, x.a = y.n ∧ x.p = y.p
  | [], us, a, x, h, _ => by rw [items_nil] at h; simp at h
  | y :: t, [], a, x, h, _ => by simp [items] at h
  | y :: t, u :: us, a, x, h, hg => by
    change x ∈ stepIt a y u ++ items (y.n + 1) t us at h
    rcases List.mem_append.1 h with h | h
    · unfold stepIt at h
      split at h
      · have e : x = pkIt y u := by simpa using h
        subst e
        exact ⟨y, by simp, rfl, rfl⟩
      · rcases List.mem_cons.1 h with e | h
        · subst e
          cases hg
        · have e : x = pkIt y u := by simpa using h
          subst e
          exact ⟨y, by simp, rfl, rfl⟩
    · obtain ⟨z, hz, h1, h2⟩ := items_pkt t us _ x h hg
      exact ⟨z, List.mem_cons_of_mem _ hz, h1, h2⟩
theorem items_has : ∀ (ws : List Wt) (us : List V3) (a : Nat), us.length = ws.length → ∀ y ∈ ws, ∃ x ∈ items a ws us, x.gap = false ∧ x.a = y.n
  | [], us, a, _, y, h => by simp at h
  | y :: t, [], a, h, _, _ => by simp at h
  | y :: t, u :: us, a, h, z, hz => by
    show ∃ x ∈ stepIt a y u ++ items (y.n + 1) t us, _
    rcases List.mem_cons.1 hz with rfl | hz
    · refine ⟨pkIt z u, List.mem_append_left _ ?_, rfl, rfl⟩
      unfold stepIt
      split <;> simp
    · obtain ⟨x, hx, h1, h2⟩ := items_has t us (y.n + 1) (by simpa using h) z hz
      exact ⟨x, List.mem_append_right _ hx, h1, h2⟩
theorem AllP.gone {ins : List Ac} {out : List It} {m : Bf} (h : AllP ins out m) (hg : m.Good) {j : Nat} (hj : j ≤ m.ws.length) (us : List V3) (hu : us.length = m.ws.length) : AllP ins (out ++ items m.nx (m.ws.take j) (us.take j)) (m.gone j) := by
  have hul : (us.take j).length = (m.ws.take j).length := by rw [List.length_take, List.length_take, hu]
  refine ⟨fun e => ?_, fun a0 h0 => ?_, h.nod, fun x hx => h.wait x (drop_mem hx), fun x hx hgp => ?_, fun a ha => ?_, ?_⟩
  · obtain ⟨h1, h2⟩ := h.emp e
    have hw := hg.emp h2
    refine ⟨?_, h2⟩
    rw [h1, hw, List.take_nil, items_nil]
    rfl
  · obtain ⟨h1, h2⟩ := h.some a0 h0
    refine ⟨h1, chain_append _ _ _ _ _ h2 ?_⟩
    rw [nx_gone (fun x hx => (hg.nums x hx).1) hj, ← nxt_at _ _ _ hj]
    exact chain_items _ _ _ hul (asc_take _ _ _ (good_asc hg))
  · rcases List.mem_append.1 hx with hx | hx
    · exact h.pkt x hx hgp
    · obtain ⟨y, hy, h1, h2⟩ := items_pkt _ _ _ x hx hgp
      obtain ⟨a, ha, h3, h4, -⟩ := h.wait y (List.mem_of_mem_take hy)
      exact ⟨a, ha, by omega, by rw [h4, h2]⟩
  · rcases h.all a ha with ⟨x, hx, h1, h2⟩ | ⟨x, hx, h1⟩
    · exact .inl ⟨x, List.mem_append_left _ hx, h1, h2⟩
    · rw [← List.take_append_drop j m.ws] at hx
      rcases List.mem_append.1 hx with hx | hx
      · obtain ⟨z, hz, h2, h3⟩ := items_has _ _ m.nx hul x hx
        exact .inl ⟨z, List.mem_append_right _ hz, h2, by omega⟩
      · exact .inr ⟨x, hx, h1⟩
  · rw [List.filter_append, List.length_append, items_cnt _ _ _ hul]
    show _ + (m.ws.drop j).length = _
    have := h.cnt
    rw [List.length_take, List.length_drop]
    omega
theorem AllP.ins {ins : List Ac} {out : List It} {m : Bf} (h : AllP ins out m) (hg : m.Good) (a : Ac) (ha : a.n ≤ 4611686018427387904) (ht : m.takes a.n) : AllP (ins ++ [a]) out (m.ins ⟨a.n, a.now, a.p⟩) := by
  have hnx := ins_nx hg ⟨a.n, a.now, a.p⟩ ha
  refine ⟨fun e => by simp at e, fun a0 h0 => ⟨ins_some _ _, ?_⟩, ?_, fun x hx => ?_, fun x hx hgp => ?_, fun c hc => ?_, ?_⟩
  · rw [hnx]
    cases hi : ins with
    | nil =>
      obtain ⟨h1, h2⟩ := h.emp hi
      rw [hi] at h0
      have e : a = a0 := by simpa using h0
      subst e
      rw [h1, h2]
      rfl
    | cons c t =>
      have h0' : ins.head? = Option.some a0 := by rw [hi] at h0 ⊢; simpa using h0
      obtain ⟨h1, h2⟩ := h.some a0 h0'
      rw [h1, if_pos rfl, ← hg.nx_some h1]
      exact h2
  · rw [List.pairwise_append]
    refine ⟨h.nod, List.pairwise_singleton _ _, fun c hc d hd => ?_⟩
    have e : d = a := by simpa using hd
    subst e
    intro e
    have hsome : m.some = true ∧ ∃ a0, chain a0 out m.nx := by
      cases hi : ins with
      | nil => rw [hi] at hc; simp at hc
      | cons b t =>
        obtain ⟨h1, h2⟩ := h.some b (by rw [hi]; rfl)
        exact ⟨h1, _, h2⟩
    obtain ⟨h1, a0, h2⟩ := hsome
    rcases h.all c hc with ⟨x, hx, h3, h4⟩ | ⟨x, hx, h3⟩
    · have h5 := (chain_le _ _ _ h2).2 x hx
      have h6 := hg.nx_some h1
      have h7 := ht.2 h1
      omega
    · exact ht.1 x hx (by omega)
  · rcases mem_insAt hx with rfl | hx
    · exact ⟨a, by simp, rfl, rfl, rfl⟩
    · obtain ⟨c, hc, h1⟩ := h.wait x hx
      exact ⟨c, List.mem_append_left _ hc, h1⟩
  · obtain ⟨c, hc, h1⟩ := h.pkt x hx hgp
    exact ⟨c, List.mem_append_left _ hc, h1⟩
  · rcases List.mem_append.1 hc with hc | hc
    · rcases h.all c hc with h1 | ⟨x, hx, h1⟩
      · exact .inl h1
      · refine .inr ⟨x, ?_, h1⟩
        show x ∈ insAt m.ws (m.pos a.n) _
        unfold insAt
        rw [← List.take_append_drop (m.pos a.n) m.ws] at hx
        rcases List.mem_append.1 hx with hx | hx
        · exact List.mem_append_left _ hx
        · exact List.mem_append_right _ (List.mem_cons_of_mem _ hx)
    · have e : c = a := by simpa using hc
      subst e
      refine .inr ⟨⟨c.n, c.now, c.p⟩, ?_, rfl⟩
      show _ ∈ insAt m.ws (m.pos c.n) _
      unfold insAt
      simp
  · have h1 : (m.ins ⟨a.n, a.now, a.p⟩).ws.length = m.ws.length + 1 := insAt_length _ _ _ (pos_le m a.n)
    have := h.cnt
    rw [h1, List.length_append, List.length_singleton]
    omega
/-- When all has gone. -/
structure Told (ins : List Ac) (out : List It) : Prop where
  emp : ins = [] → out = []
  ch : ∀ a0, ins.head? = some a0 → ∃ e, chain a0.n out e ∧ e ≤ 4611686018427387905
  gap : ∀ x ∈ out, x.gap = true → ∀ a ∈ ins, ¬ (x.a ≤ a.n ∧ a.n ≤ x.z)
  pkt : ∀ x ∈ out, x.gap = false → (∃ a ∈ ins, a.n = x.a) ∧ ∀ a ∈ ins, a.n = x.a → a.p = x.p
  cnt : (out.filter (fun x => !x.gap)).length = ins.length
theorem nod_eq {ins : List Ac} (h : ins.Pairwise (fun a b => a.n ≠ b.n)) {a b : Ac} (ha : a ∈ ins) (hb : b ∈ ins) (e : a.n = b.n) : a = b := by
  rcases pw_or h a ha b hb with h1 | h1 | h1
  · exact h1
  · exact absurd e h1
  · exact absurd e.symm h1
theorem AllP.told {ins : List Ac} {out : List It} {m : Bf} (h : AllP ins out m) (hg : m.Good) (hw : m.ws = []) : Told ins out := by
  refine ⟨fun e => (h.emp e).1, fun a0 h0 => ?_, fun x hx hgp a ha => ?_, fun x hx hgp => ?_, by have := h.cnt; rw [hw] at this; simpa using this⟩
  · obtain ⟨h1, h2⟩ := h.some a0 h0
    refine ⟨_, h2, ?_⟩
    rw [hg.nx_some h1]
    have := hg.top h1
    omega
  · rintro ⟨h1, h2⟩
    have hch : ∃ a0, chain a0 out m.nx := by
      cases hi : ins with
      | nil => rw [hi] at ha; simp at ha
      | cons b t => exact ⟨_, (h.some b (by rw [hi]; rfl)).2⟩
    obtain ⟨a0, hch⟩ := hch
    rcases h.all a ha with ⟨y, hy, h3, h4⟩ | ⟨y, hy, h3⟩
    · have h5 := chain_one hch hy h3
      rcases pw_or (chain_pw _ _ _ hch) x hx y hy with e | e | e
      · rw [e, h3] at hgp; cases hgp
      · omega
      · omega
    · rw [hw] at hy; simp at hy
  · obtain ⟨a, ha, h1, h2⟩ := h.pkt x hx hgp
    exact ⟨⟨a, ha, h1⟩, fun b hb e => by rw [nod_eq h.nod hb ha (by omega), h2]⟩
theorem mustGo_after (f : Nat → Bool) : ∀ (k i : Nat), mustGo f k ≤ i → i < k → f i = true
  | 0, i, _, h => by omega
  | k + 1, i, h, hi => by
    rw [mustGo] at h
    by_cases hf : f k = true
    · rw [if_pos hf] at h
      by_cases e : i = k
      · rw [e, hf]
      · exact mustGo_after f k i h (by omega)
    · rw [if_neg hf] at h
      omega
/-- What waits behind a tick has not waited for long. -/
theorem tick_young {m : Bf} (now : Nat) : ∀ x ∈ m.ws.drop (m.goes (m.must now)), x.waits now < m.hold := by
  intro x hx
  obtain ⟨i, hi⟩ := List.getElem?_of_mem hx
  rw [List.getElem?_drop] at hi
  have hil := (List.getElem?_eq_some_iff.1 hi).1
  have h1 := gn_must (m.must now : Int) m.ws 0 m.nx
  have h2 : m.must now ≤ m.goes (m.must now) := by
    unfold Bf.goes at hil ⊢
    rcases h1 with h1 | h1 <;> omega
  have h3 := mustGo_after (m.young now) m.ws.length _ (show mustGo (m.young now) m.ws.length ≤ m.goes (m.must now) + i from by
    have : m.must now = mustGo (m.young now) m.ws.length := rfl
    omega) hil
  unfold Bf.young at h3
  rw [hi] at h3
  simpa using h3
theorem flush_all (m : Bf) : m.goes m.ws.length = m.ws.length := by
  have h1 := gn_must (m.ws.length : Int) m.ws 0 m.nx
  have h2 := m.goes_le m.ws.length
  unfold Bf.goes at h2 ⊢
  rcases h1 with h1 | h1 <;> omega
end Go.Proofs.Ytdcclighccejhaa

/- ReorderAll's told: what goes, read; rtp.Same of the same packets; a drawn region. Conditions: as each says. -/
set_option linter.unusedVariables false
set_option linter.unusedSimpArgs false
namespace Go.Proofs.Ytdcclighccejhaa
open Go Go.RowKit

/-- A packet's bytes are bytes. -/
def BFit (p : Pk) : Prop := (∀ x ∈ p.ext, x < 256) ∧ ∀ x ∈ p.pay, x < 256
set_option maxRecDepth 100000 in
set_option maxHeartbeats 1000000 in
theorem same_trueB (p : Pk) (vc ve vp uc ue up : Value) (w : World) (hf : BFit p) (hc : Rd .u32 w vc (nats p.csrc)) (hd : Rd .u32 w uc (nats p.csrc)) (he : Src w ve p.ext) (hg : Src w ue p.ext) (hp : Src w vp p.pay) (hq : Src w up p.pay) (hl : p.csrc.length ≤ 140737488355328) :
    Calls Try.prog 35 #[p.val vc ve vp, p.val uc ue up] w fun e w' => e = .returned (.bool true) ∧ Pure w w' := by
  obtain ⟨Ac, cc, rfl⟩ := hc.slice
  obtain ⟨Bc, dc, rfl⟩ := hd.slice
  obtain ⟨Ae, ce, rfl⟩ := he.slice
  obtain ⟨Be, de, rfl⟩ := hg.slice
  obtain ⟨Ap, cp, rfl⟩ := hp.slice
  obtain ⟨Bp, dp, rfl⟩ := hq.slice
  have H1 := Lib.hid (fun w' (ho : Pure w w') => ints_equal _ _ p.csrc p.csrc w' (hc.pure ho) (hd.pure ho) hl)
  have H2 := Lib.hid (fun w' (ho : Pure w w') => bytes_equal _ _ p.ext p.ext w' (he.pure ho) (hg.pure ho) hf.1 hf.1)
  have H3 := Lib.hid (fun w' (ho : Pure w w') => bytes_equal _ _ p.pay p.pay w' (hp.pure ho) (hq.pure ho) hf.2 hf.2)
  simp only [decide_true] at H1 H2 H3
  clear hc hd he hg hp hq hf hl
  obtain ⟨m, ty, sq, tm, ss, cs, hx, pr, ex, py, pd⟩ := p
  simp only [Pk.val] at *
  go_enter Try.func35, Try.ntmps35
  go_wp2_with fail
  refine (H1.out _ (((Only.refl _ w).alloc _).alloc _)).mono ?_
  rintro e w1 ⟨rfl, n, rfl⟩
  go_wp2_with fail
  refine (H2.out _ ((((Only.refl _ w).alloc _).alloc _).drewN _)).mono ?_
  rintro e w2 ⟨rfl, rfl⟩
  go_wp2_with fail
  refine (H3.out _ ((((Only.refl _ w).alloc _).alloc _).drewN _)).mono ?_
  rintro e w3 ⟨rfl, rfl⟩
  go_wp2
  go_ret
  exact ⟨rfl, (((Only.refl _ w).alloc _).alloc _).drewN _⟩
theorem same_pkB (p : Pk) (u u' : V3) (w : World) (hf : BFit p) (h : RdPk p u.1 u.2.1 u.2.2 w) (h' : RdPk p u'.1 u'.2.1 u'.2.2 w) (hl : p.csrc.length ≤ 1000) :
    Calls Try.prog 35 #[.agg (p.cls u.1 u.2.1 u.2.2), .agg (p.cls u'.1 u'.2.1 u'.2.2)] w (SaysO (.bool true) w) :=
  (same_trueB p _ _ _ _ _ _ w hf h.c h'.c h.e h'.e h.p h'.p (by omega)).mono fun _ _ ⟨h1, h2⟩ => ⟨h1, h2⟩
/-- What goes, in a row that can be read. -/
structure RdIt (w : World) (v : Value) (l : List It) : Prop where
  sl : ∃ A c, v = .slice A l.length c ∧ l.length ≤ c
  at_ : ∀ (i : Nat) (x : It), l[i]? = some x → (∃ g n c, v = .slice (some ⟨g, 0, none⟩) n c ∧ w.rangeAt g (i * 14) x.cls) ∧ RdPk x.p x.u.1 x.u.2.1 x.u.2.2 w
theorem RdIt.pure {w w1 : World} {v : Value} {l : List It} (h : RdIt w v l) (ho : Only (fun _ => False) w w1) : RdIt w1 v l :=
  ⟨h.sl, fun i x hx => by
    obtain ⟨⟨g, n, c, e, hr⟩, hp⟩ := h.at_ i x hx
    exact ⟨⟨g, n, c, e, range_pure hr ho⟩, hp.only ho⟩⟩
/-- Amid a round of told. -/
structure Td (ga oa r8 k : Nat) (acs : List Value) (ocs : Array Value) (w0 wx : World) : Prop where
  ra : wx.rangeAt ga (oa + k * 14) acs
  is : Is wx r8 62 ocs
  pure : Only (fun _ => False) w0 wx
theorem Td.go {ga oa r8 k : Nat} {acs : List Value} {ocs : Array Value} {w0 wx wy : World} (h : Td ga oa r8 k acs ocs w0 wx) (ho : Only (fun _ => False) wx wy) : Td ga oa r8 k acs ocs w0 wy :=
  ⟨range_pure h.ra ho, h.is.only ho (by simp), h.pure.trans ho (fun _ _ e => e)⟩
theorem is_mid {g n : Nat} {T : TypeId} {cs : Array Value} {w : World} (h : Is w g T cs) (l : List Value) (hl : ∀ j z, l[j]? = some z → cs[n + j]? = some z) : w.rangeAt g n l := fun j v hj => by
  rw [h.cell]
  exact hl j v hj
theorem range_tail {g o : Nat} {a b c : Value} {l : List Value} {w : World} (h : w.rangeAt g o (a :: b :: c :: l)) : w.rangeAt g (o + 3) l := fun j v hj => by
  have := h (j + 3) v (by simpa using hj)
  rwa [show o + (j + 3) = o + 3 + j by omega] at this
def rt17_A : List (List Nat) := ([] :: [0] :: [1, 0] :: [2, 1, 0] :: [2, 1, 0] :: [3, 4, 2, 1, 0] :: [5, 2, 3, 4, 1, 0] :: [6, 2, 5, 3, 4, 1, 0] :: [2, 1, 0] :: [8, 2, 1, 0] :: (7 :: 9 :: 2 :: 6 :: 5 :: 3 :: 4 :: 1 :: 0 :: 8 :: []) :: (10 :: 2 :: 7 :: 9 :: 6 :: 5 :: 3 :: 4 :: 1 :: 0 :: 8 :: []) :: (2 :: 11 :: 1 :: 0 :: 10 :: 7 :: 9 :: 6 :: 5 :: 3 :: 4 :: 8 :: []) :: [])
def rt17_kill : List (List Nat) := ([] :: [] :: [] :: [] :: [] :: [] :: [] :: [] :: [] :: [] :: [] :: [] :: [] :: [])
def rt17_uses : List (List Nat) := ([] :: [] :: [] :: [] :: [] :: [] :: [] :: [] :: [] :: [] :: [] :: [] :: [] :: [])
noncomputable def rt17_code : Code := ((Try.f17.body.bind (codeRegion 17)).getD .skip)
set_option maxRecDepth 100000 in
set_option maxHeartbeats 4000000 in
theorem rt17_in (ga oa r8 k M ca : Nat) (x0 x1 x2 o1 o2 : Value) (P P2 : List Value) (w0 : World) (hk : k < M) (hM : M ≤ 60) (hsz1 : (Try.prog.info? 42).map (·.size) = some P.length) (hsz2 : (Try.prog.info? 42).map (·.size) = some P2.length) (hs : ∀ w1, Only (fun _ => False) w0 w1 → Calls Try.prog 35 #[.agg P.toArray, .agg P2.toArray] w1 (SaysO (.bool true) w1)) (u1 u2 u3 u4 u5 u6 u7 u9 u11 u12 u13 u14 u15 u16 u17 u18 u19 u20 u21 u22 u23 u24 u25 u26 u27 u28 u29 u30 u31 u32 u33 u34 u35 u36 u37 u38 u39 u40 u41 u42 u43 u44 u45 u46 u47 u48 u49 u50 u51 u52 u53 u54 u55 u56 u57 u58 u59 u60 u61 u62 u63 u64 u65 u66 u67 u68 u69 u70 u71 u72 u73 u74 u75 u76 u77 u78 u79 u80 u81 u82 u83 u84 u85 u86 u87 u88 u89 u90 u91 u92 u93 u94 u95 u96 u97 u98 u99 u100 u101 u102 u103 u104 u105 u106 : Value) (w : World) (hG : Td ga oa r8 k (x0 :: x1 :: x2 :: P) (.bool false :: o1 :: o2 :: P2).toArray w0 w) :
    Code.wp Try.prog rt17_code (fun e a w' => ∃ y69 y70 y71 y72 y73 y74 y75 y76 y77 y78 y79 y80 : Value, a = ⟨(List.toArray (.slice (some ⟨ga, oa, none⟩) M ca :: u1 :: u2 :: u3 :: u4 :: u5 :: u6 :: u7 :: .pointer (some ⟨r8, 0, none⟩) :: u9 :: .int .i64 (k : Int) :: u11 :: u12 :: u13 :: u14 :: u15 :: u16 :: u17 :: u18 :: u19 :: u20 :: u21 :: u22 :: u23 :: u24 :: u25 :: u26 :: u27 :: u28 :: u29 :: u30 :: u31 :: u32 :: u33 :: u34 :: u35 :: u36 :: u37 :: u38 :: u39 :: u40 :: u41 :: u42 :: u43 :: u44 :: u45 :: u46 :: u47 :: u48 :: u49 :: u50 :: u51 :: u52 :: u53 :: u54 :: u55 :: u56 :: u57 :: u58 :: u59 :: u60 :: u61 :: u62 :: u63 :: u64 :: u65 :: u66 :: u67 :: u68 :: y69 :: y70 :: y71 :: y72 :: y73 :: y74 :: y75 :: y76 :: y77 :: y78 :: y79 :: y80 :: (.bool false) :: u82 :: u83 :: u84 :: u85 :: u86 :: u87 :: u88 :: u89 :: u90 :: u91 :: u92 :: u93 :: u94 :: u95 :: u96 :: u97 :: u98 :: u99 :: u100 :: u101 :: u102 :: u103 :: u104 :: u105 :: u106 :: [])), []⟩ ∧ e = .normal ∧ (Only (fun _ => False) w0 w')) ⟨(List.toArray (.slice (some ⟨ga, oa, none⟩) M ca :: u1 :: u2 :: u3 :: u4 :: u5 :: u6 :: u7 :: .pointer (some ⟨r8, 0, none⟩) :: u9 :: .int .i64 (k : Int) :: u11 :: u12 :: u13 :: u14 :: u15 :: u16 :: u17 :: u18 :: u19 :: u20 :: u21 :: u22 :: u23 :: u24 :: u25 :: u26 :: u27 :: u28 :: u29 :: u30 :: u31 :: u32 :: u33 :: u34 :: u35 :: u36 :: u37 :: u38 :: u39 :: u40 :: u41 :: u42 :: u43 :: u44 :: u45 :: u46 :: u47 :: u48 :: u49 :: u50 :: u51 :: u52 :: u53 :: u54 :: u55 :: u56 :: u57 :: u58 :: u59 :: u60 :: u61 :: u62 :: u63 :: u64 :: u65 :: u66 :: u67 :: u68 :: u69 :: u70 :: u71 :: u72 :: u73 :: u74 :: u75 :: u76 :: u77 :: u78 :: u79 :: u80 :: u81 :: u82 :: u83 :: u84 :: u85 :: u86 :: u87 :: u88 :: u89 :: u90 :: u91 :: u92 :: u93 :: u94 :: u95 :: u96 :: u97 :: u98 :: u99 :: u100 :: u101 :: u102 :: u103 :: u104 :: u105 :: u106 :: [])), []⟩ w := by
  conv => arg 2; whnf
  have HS := Lib.hid hs
  clear hs
  have hkI : (k : Int) < (M : Int) := by omega
  refine wp_region_posts rt17_A [10] [] rt17_kill rt17_uses [] [] [] []
      (some ?v0 :: some (.bool false) :: some ?v2 :: some ?v3 :: some ?v4 :: some ?v5 :: some ?v6 :: some ((.agg P.toArray)) :: some ?v8 :: some ((.agg P2.toArray)) :: some (.bool true) :: some (.bool false) :: some (.bool false) :: [])
      ?T (fun wx => Td ga oa r8 k (x0 :: x1 :: x2 :: P) (.bool false :: o1 :: o2 :: P2).toArray w0 wx) ?W ?E (by kernel_rfl) (by kernel_rfl) (by kernel_rfl) (fun x => ?hT) ?hF ?hini (Reg.all_ops ?runs) ?pres ?fin
  case W => exact fun j x wz => True
  case E => exact fun i wx wy => Only (fun _ => False) wx wy
  case hT =>
    simp only [Reg.fillV, Act.put, List.setIfInBounds_toArray, List.set_cons_zero, List.set_cons_succ]
    rfl
  case runs =>
    refine And.intro ?_ ?_
    · refine Reg.ob_pure (fun _ => rfl) rfl rfl rfl rfl (fun x w1 hF => ?_)
      go_simp
      with_reducible rfl
    refine And.intro ?_ ?_
    · refine Reg.ob_pure (fun _ => rfl) rfl rfl rfl rfl (fun x w1 hF => ?_)
      have g0 := hF.is.cell 0
      simp at g0
      go_simp
    refine And.intro ?_ ?_
    · refine Reg.ob_pure (fun _ => rfl) rfl rfl rfl rfl (fun x w1 hF => ?_)
      go_simp
      with_reducible rfl
    refine And.intro ?_ ?_
    · refine Reg.ob_pure (fun _ => rfl) rfl rfl rfl rfl (fun x w1 hF => ?_)
      go_simp
      with_reducible rfl
    refine And.intro ?_ ?_
    · refine Reg.ob_pure (fun _ => rfl) rfl rfl rfl rfl (fun x w1 hF => ?_)
      go_simp
      with_reducible rfl
    refine And.intro ?_ ?_
    · refine Reg.ob_pure (fun _ => rfl) rfl rfl rfl rfl (fun x w1 hF => ?_)
      go_simp
      with_reducible rfl
    refine And.intro ?_ ?_
    · refine Reg.ob_pure (fun _ => rfl) rfl rfl rfl rfl (fun x w1 hF => ?_)
      go_simp
      with_reducible rfl
    refine And.intro ?_ ?_
    · refine Reg.ob_known (fun _ => rfl) rfl rfl (fun x w1 hF hU K hK => ?_)
      refine wp_load_mid 42 _ rfl ga (oa + k * 14 + 3) rfl P _ (range_tail (hF rfl).ra) Try.underlying42 rfl hsz1 ?_
      exact hK w1 (fun h _ _ => absurd h (by decide)) rfl
    refine And.intro ?_ ?_
    · refine Reg.ob_pure (fun _ => rfl) rfl rfl rfl rfl (fun x w1 hF => ?_)
      go_simp
      with_reducible rfl
    refine And.intro ?_ ?_
    · refine Reg.ob_known (fun _ => rfl) rfl rfl (fun x w1 hF hU K hK => ?_)
      refine wp_load_mid 42 _ rfl r8 3 rfl P2 _ (is_mid (hF rfl).is P2 (fun j z hj => by rw [show 3 + j = j + 3 by omega]; simpa using hj)) Try.underlying42 rfl hsz2 ?_
      exact hK w1 (fun h _ _ => absurd h (by decide)) rfl
    refine And.intro ?_ ?_
    · refine Reg.ob_known (fun _ => rfl) rfl rfl (fun x w1 hF hU K hK => ?_)
      replace hF := hF rfl
      go_simp
      refine (HS.out w1 hF.pure).mono ?_
      rintro e w6 ⟨rfl, ho⟩
      exact hK w6 (fun _ _ _ => hF.go ho) ho
    refine And.intro ?_ ?_
    · refine Reg.ob_pure (fun _ => rfl) rfl rfl rfl rfl (fun x w1 hF => ?_)
      go_simp
    refine And.intro ?_ ?_
    · refine Reg.ob_pure (fun _ => rfl) rfl rfl rfl rfl (fun x w1 hF => ?_)
      go_simp
    exact trivial
  case hF =>
    exact hG.go ((Only.refl _ _).drewN 1)
  case hini =>
    exact trivial
  case pres =>
    intro i hi j hj
    simp at hj
  case fin =>
    rintro x w9 hF hU
    repeat apply Exists.intro
    exact ⟨rfl, rfl, (hF rfl).pure⟩

set_option maxRecDepth 100000 in
set_option maxHeartbeats 4000000 in
theorem rt17 (ga oa r8 k M ca : Nat) (x0 x1 x2 o1 o2 : Value) (P P2 : List Value) (w0 : World) (hk : k < M) (hM : M ≤ 60) (hsz1 : (Try.prog.info? 42).map (·.size) = some P.length) (hsz2 : (Try.prog.info? 42).map (·.size) = some P2.length) (hs : ∀ w1, Only (fun _ => False) w0 w1 → Calls Try.prog 35 #[.agg P.toArray, .agg P2.toArray] w1 (SaysO (.bool true) w1)) (u1 u2 u3 u4 u5 u6 u7 u9 u11 u12 u13 u14 u15 u16 u17 u18 u19 u20 u21 u22 u23 u24 u25 u26 u27 u28 u29 u30 u31 u32 u33 u34 u35 u36 u37 u38 u39 u40 u41 u42 u43 u44 u45 u46 u47 u48 u49 u50 u51 u52 u53 u54 u55 u56 u57 u58 u59 u60 u61 u62 u63 u64 u65 u66 u67 u68 u69 u70 u71 u72 u73 u74 u75 u76 u77 u78 u79 u80 u81 u82 u83 u84 u85 u86 u87 u88 u89 u90 u91 u92 u93 u94 u95 u96 u97 u98 u99 u100 u101 u102 u103 u104 u105 u106 : Value) (Q : Exit → Act → World → Prop) (w : World) (hG : Td ga oa r8 k (x0 :: x1 :: x2 :: P) (.bool false :: o1 :: o2 :: P2).toArray w0 w)
    (hend : ∀ (y69 y70 y71 y72 y73 y74 y75 y76 y77 y78 y79 y80 : Value) (w' : World), (Only (fun _ => False) w0 w') → Q .normal ⟨(List.toArray (.slice (some ⟨ga, oa, none⟩) M ca :: u1 :: u2 :: u3 :: u4 :: u5 :: u6 :: u7 :: .pointer (some ⟨r8, 0, none⟩) :: u9 :: .int .i64 (k : Int) :: u11 :: u12 :: u13 :: u14 :: u15 :: u16 :: u17 :: u18 :: u19 :: u20 :: u21 :: u22 :: u23 :: u24 :: u25 :: u26 :: u27 :: u28 :: u29 :: u30 :: u31 :: u32 :: u33 :: u34 :: u35 :: u36 :: u37 :: u38 :: u39 :: u40 :: u41 :: u42 :: u43 :: u44 :: u45 :: u46 :: u47 :: u48 :: u49 :: u50 :: u51 :: u52 :: u53 :: u54 :: u55 :: u56 :: u57 :: u58 :: u59 :: u60 :: u61 :: u62 :: u63 :: u64 :: u65 :: u66 :: u67 :: u68 :: y69 :: y70 :: y71 :: y72 :: y73 :: y74 :: y75 :: y76 :: y77 :: y78 :: y79 :: y80 :: (.bool false) :: u82 :: u83 :: u84 :: u85 :: u86 :: u87 :: u88 :: u89 :: u90 :: u91 :: u92 :: u93 :: u94 :: u95 :: u96 :: u97 :: u98 :: u99 :: u100 :: u101 :: u102 :: u103 :: u104 :: u105 :: u106 :: [])), []⟩ w') :
    Code.wp Try.prog rt17_code Q ⟨(List.toArray (.slice (some ⟨ga, oa, none⟩) M ca :: u1 :: u2 :: u3 :: u4 :: u5 :: u6 :: u7 :: .pointer (some ⟨r8, 0, none⟩) :: u9 :: .int .i64 (k : Int) :: u11 :: u12 :: u13 :: u14 :: u15 :: u16 :: u17 :: u18 :: u19 :: u20 :: u21 :: u22 :: u23 :: u24 :: u25 :: u26 :: u27 :: u28 :: u29 :: u30 :: u31 :: u32 :: u33 :: u34 :: u35 :: u36 :: u37 :: u38 :: u39 :: u40 :: u41 :: u42 :: u43 :: u44 :: u45 :: u46 :: u47 :: u48 :: u49 :: u50 :: u51 :: u52 :: u53 :: u54 :: u55 :: u56 :: u57 :: u58 :: u59 :: u60 :: u61 :: u62 :: u63 :: u64 :: u65 :: u66 :: u67 :: u68 :: u69 :: u70 :: u71 :: u72 :: u73 :: u74 :: u75 :: u76 :: u77 :: u78 :: u79 :: u80 :: u81 :: u82 :: u83 :: u84 :: u85 :: u86 :: u87 :: u88 :: u89 :: u90 :: u91 :: u92 :: u93 :: u94 :: u95 :: u96 :: u97 :: u98 :: u99 :: u100 :: u101 :: u102 :: u103 :: u104 :: u105 :: u106 :: [])), []⟩ w := by
  refine wp_mono (rt17_in ga oa r8 k M ca x0 x1 x2 o1 o2 P P2 w0 hk hM hsz1 hsz2 hs _ _ _ _ _ _ _ _ _ _ _ _ _ _ _ _ _ _ _ _ _ _ _ _ _ _ _ _ _ _ _ _ _ _ _ _ _ _ _ _ _ _ _ _ _ _ _ _ _ _ _ _ _ _ _ _ _ _ _ _ _ _ _ _ _ _ _ _ _ _ _ _ _ _ _ _ _ _ _ _ _ _ _ _ _ _ _ _ _ _ _ _ _ _ _ _ _ _ _ _ _ _ _ _ w hG) ?_
  rintro e a w' h
  obtain ⟨y69, h⟩ := h
  obtain ⟨y70, h⟩ := h
  obtain ⟨y71, h⟩ := h
  obtain ⟨y72, h⟩ := h
  obtain ⟨y73, h⟩ := h
  obtain ⟨y74, h⟩ := h
  obtain ⟨y75, h⟩ := h
  obtain ⟨y76, h⟩ := h
  obtain ⟨y77, h⟩ := h
  obtain ⟨y78, h⟩ := h
  obtain ⟨y79, h⟩ := h
  obtain ⟨y80, h⟩ := h
  obtain ⟨h, rfl, hq⟩ := h
  subst h
  exact hend y69 y70 y71 y72 y73 y74 y75 y76 y77 y78 y79 y80 w' hq
end Go.Proofs.Ytdcclighccejhaa

/- ReorderAll's told. Conditions: as it says. -/
set_option linter.unusedVariables false
set_option linter.unusedSimpArgs false
namespace Go.Proofs.Ytdcclighccejhaa
open Go Go.RowKit

/-- Is there one among them whose number lies so? -/
def camB (ins : List Ac) (x : It) : Bool := ins.any fun a => decide (x.a ≤ a.n ∧ a.n ≤ x.z)
theorem camB_snoc {ins : List Ac} {k : Nat} {a : Ac} (h : ins[k]? = some a) (x : It) : camB (ins.take (k + 1)) x = (camB (ins.take k) x || decide (x.a ≤ a.n ∧ a.n ≤ x.z)) := by
  unfold camB
  rw [List.take_add_one, h, List.any_append]
  simp
theorem Told.cam {ins : List Ac} {out : List It} (h : Told ins out) {x : It} (hx : x ∈ out) : camB ins x = !x.gap := by
  cases hg : x.gap with
  | true =>
    unfold camB
    rw [Bool.not_true, List.any_eq_false]
    intro a ha
    have := h.gap x hx hg a ha
    simpa using this
  | false =>
    obtain ⟨⟨a, ha, e⟩, -⟩ := h.pkt x hx hg
    unfold camB
    rw [Bool.not_false, List.any_eq_true]
    have : x.a ≤ x.z := by
      cases hi : ins with
      | nil => rw [hi] at ha; simp at ha
      | cons b t =>
        obtain ⟨e', hch, -⟩ := h.ch b (by rw [hi]; rfl)
        exact ((chain_le _ _ _ hch).2 x hx).2.1
    exact ⟨a, ha, by simp; omega⟩
def cntP (l : List It) : Nat := (l.filter (fun x => !x.gap)).length
theorem cntP_snoc {l : List It} {i : Nat} {x : It} (h : l[i]? = some x) : cntP (l.take (i + 1)) = cntP (l.take i) + if x.gap then 0 else 1 := by
  unfold cntP
  rw [List.take_add_one, h, List.filter_append, List.length_append]
  cases hg : x.gap <;> simp [hg]
theorem cntP_le (l : List It) (i : Nat) : cntP (l.take i) ≤ i := by
  unfold cntP
  have h1 := List.length_filter_le (fun x : It => !x.gap) (l.take i)
  have h2 := List.length_take_le i l
  omega
theorem drop_get {α : Type} {l : List α} {i : Nat} {x : α} (h : l[i]? = some x) : l.drop i = x :: l.drop (i + 1) := by
  have hi := (List.getElem?_eq_some_iff.1 h)
  obtain ⟨h1, h2⟩ := hi
  rw [List.drop_eq_getElem_cons h1, h2]
set_option maxRecDepth 100000 in
set_option maxHeartbeats 8000000 in
theorem told_some (vi vo : Value) (ins : List Ac) (ui : List V3) (out : List It) (w : World) (hi : RdAs w vi ins ui) (hO : RdIt w vo out) (hT : Told ins out) (hbf : ∀ a ∈ ins, BFit a.p ∧ a.p.csrc.length ≤ 1000) (hl1 : ins.length ≤ 60) (hl2 : out.length ≤ 20000) (hpos : 0 < ins.length) :
    Calls Try.prog 17 #[vi, vo] w (SaysO (.bool true) w) := by
  obtain ⟨A1, c1, rfl, hc1⟩ := hi.sl
  obtain ⟨A2, c2, rfl, hc2⟩ := hO.sl
  obtain ⟨a0, ha0⟩ : ∃ a0, ins[0]? = some a0 := ⟨_, List.getElem?_eq_getElem hpos⟩
  obtain ⟨e9, hch, he9⟩ := hT.ch a0 (by rw [List.head?_eq_getElem?]; exact ha0)
  obtain ⟨u0, hu0⟩ : ∃ u0, ui[0]? = some u0 := ⟨_, List.getElem?_eq_getElem (by rw [hi.len]; exact hpos)⟩
  obtain ⟨⟨g0, o0, n0, c0, e0, hr0⟩, -⟩ := hi.at_ 0 a0 u0 ha0 hu0
  injection e0 with e01 e02 e03
  subst e01
  clear e02 e03
  have hcell : w.cell? ⟨g0, o0 + 1, none⟩ = some (.int .u64 (a0.n : Int)) := by
    have := hr0 1 _ rfl
    rwa [show o0 + 0 * 14 + 1 = o0 + 1 by omega] at this
  have HI := Lib.hid hi
  have HO := Lib.hid hO
  have HT := Lib.hid hT
  have HBF := Lib.hid hbf
  have HE9 := Lib.hid he9
  have HCH := Lib.hid hch
  obtain ⟨M, hM⟩ : ∃ M, ins.length = M := ⟨_, rfl⟩
  obtain ⟨N, hN⟩ : ∃ N, out.length = N := ⟨_, rfl⟩
  have HM := Lib.hid hM
  have HN := Lib.hid hN
  rw [hM] at hl1 hpos hc1 ⊢
  rw [hN] at hl2 hc2 ⊢
  have HL2 := Lib.hid hl2
  have HL1 := Lib.hid hl1
  obtain ⟨nn, hnn⟩ : ∃ nn, a0.n = nn := ⟨_, rfl⟩
  rw [hnn] at hcell HCH
  have hM0 : ¬ (M : Int) = 0 := by omega
  have hM0b : ((M : Int) == 0) = false := by simp; omega
  have hMp : (0 : Int) < (M : Int) := by omega
  clear hi hO hT hbf hch he9 hM hN hr0 ha0 hu0 hnn
  go_enter Try.func17, Try.ntmps17
  go_wp2
  clear hcell hM0 hM0b hMp
  go_loopw [5, 6, 7] (fun s5 s6 s7 wr => ∃ (i nx : Nat), i ≤ N ∧ s7 = .int .i64 (i : Int) ∧ s5 = .int .u64 (nx : Int) ∧ s6 = .int .i64 (cntP (out.take i) : Int) ∧ chain nx (out.drop i) e9 ∧ Only (fun _ => False) w wr) (fun _ _ s7 _ => N - (intOf s7).toNat)
  case atStart => exact ⟨0, nn, by omega, rfl, rfl, rfl, HCH.out, Only.refl _ w⟩
  case round =>
    obtain ⟨i, nx, hiN, rfl, rfl, rfl, hch, ho⟩ := hrel
    obtain ⟨wr1, hwr1⟩ : ∃ x, x = wr := ⟨_, rfl⟩
    have O := Lib.hid ho
    rw [← hwr1] at O
    subst hwr1
    have HC := Lib.hid hch
    have HCN := Lib.hid (cntP_le out i)
    obtain ⟨cn, hcn⟩ : ∃ cn, cntP (out.take i) = cn := ⟨_, rfl⟩
    have HCNE := Lib.hid hcn
    rw [hcn] at HCN ⊢
    clear ho hch HCH hcn
    by_cases hlt : i < N
    · obtain ⟨x, hx⟩ : ∃ x, out[i]? = some x := ⟨_, List.getElem?_eq_getElem (by rw [HN.out]; exact hlt)⟩
      have hmem := List.mem_of_getElem? hx
      obtain ⟨⟨g2, n2, c3, e2, hra⟩, hrd⟩ := HO.out.at_ i x hx
      injection e2 with e3 e4 e5
      subst e3
      clear e4 e5
      have hdr := drop_get hx
      have hch := HC.out
      rw [hdr] at hch
      obtain ⟨k1, k2, k3, k4⟩ := hch
      have k5 := (chain_le _ _ _ k4).1
      have HK := Lib.hid (show x.a = nx ∧ x.a ≤ x.z ∧ (x.gap = false → x.z = x.a) ∧ chain (x.z + 1) (out.drop (i + 1)) e9 ∧ x.z + 1 ≤ 4611686018427387905 from ⟨k1, k2, k3, k4, Nat.le_trans k5 HE9.out⟩)
      have HCS := Lib.hid (cntP_snoc hx)
      have HCAM := Lib.hid (HT.out.cam hmem)
      have HPK := Lib.hid (fun hg a ha e => (HT.out.pkt x hmem hg).2 a ha e)
      have HRD := Lib.hid hrd
      have HRA := Lib.hid (range_pure hra O.out)
      have HNE := Lib.hid (show ∀ y ∈ x.cls, y.oneCell' = true from It.cls_one x)
      have hcl : x.cls = .bool x.gap :: .int .u64 (x.a : Int) :: .int .u64 (x.z : Int) :: (x.p.cls x.u.1 x.u.2.1 x.u.2.2).toList := its_cls_rd hrd
      obtain ⟨PP, hPP⟩ : ∃ PP, (x.p.cls x.u.1 x.u.2.1 x.u.2.2).toList = PP := ⟨_, rfl⟩
      have HPP := Lib.hid hPP
      rw [hPP] at hcl
      rw [hcl] at HRA HNE
      have hszP : (Try.prog.info? 42).map (·.size) = some PP.length := by rw [← hPP]; exact Try.sizePq
      have hlP : PP.length = 11 := by rw [← hPP]; rfl
      have HSZP := Lib.hid (And.intro hszP hlP)
      obtain ⟨gp, hgp⟩ : ∃ gp, x.gap = gp := ⟨_, rfl⟩
      obtain ⟨fa, hfa⟩ : ∃ fa, x.a = fa := ⟨_, rfl⟩
      obtain ⟨fz, hfz⟩ : ∃ fz, x.z = fz := ⟨_, rfl⟩
      have HXE := Lib.hid (show x.gap = gp ∧ x.a = fa ∧ x.z = fz from ⟨hgp, hfa, hfz⟩)
      rw [hgp, hfa, hfz] at HRA HNE
      have HNM := Lib.hid (show fa = nx ∧ fa ≤ fz ∧ (gp = false → fz = fa) ∧ fz + 1 ≤ 4611686018427387905 from by
        rw [← hgp, ← hfa, ← hfz]; exact ⟨HK.out.1, HK.out.2.1, HK.out.2.2.1, HK.out.2.2.2.2⟩)
      clear hx hmem hra hrd hdr k1 k2 k3 k4 k5 hcl hPP hszP hlP hgp hfa hfz
      have hOT : (Try.prog.info? 62).map (·.size) = some (Value.bool gp :: Value.int .u64 (fa : Int) :: Value.int .u64 (fz : Int) :: PP).length := by rw [Try.infoOt]; simp [HSZP.out.2]
      have hOT2 : (Try.prog.info? 62).map (·.size) = some (Value.bool gp :: Value.int .u64 (fa : Int) :: Value.int .u64 (fz : Int) :: PP).toArray.size := by rw [Try.infoOt]; simp [HSZP.out.2]
      have HV := Lib.hid (all_oneCell_toArray HNE.out)
      have HZ := Lib.hid (show Is (wr1.alloc (.cells #[.bool false, .int .u64 0, .int .u64 0, .bool false, .int .u8 0, .int .u16 0, .int .u32 0, .int .u32 0, .slice none 0 0, .bool false, .int .u16 0, .slice none 0 0, .slice none 0 0, .int .u8 0] 62)) wr1.heap.size 62 #[.bool false, .int .u64 0, .int .u64 0, .bool false, .int .u8 0, .int .u16 0, .int .u32 0, .int .u32 0, .slice none 0 0, .bool false, .int .u16 0, .slice none 0 0, .slice none 0 0, .int .u8 0] from Is.made wr1 _ _)
      have hZs : (#[.bool false, .int .u64 0, .int .u64 0, .bool false, .int .u8 0, .int .u16 0, .int .u32 0, .int .u32 0, .slice none 0 0, .bool false, .int .u16 0, .slice none 0 0, .slice none 0 0, .int .u8 0] : Array Value).size = (Value.bool gp :: Value.int .u64 (fa : Int) :: Value.int .u64 (fz : Int) :: PP).toArray.size := by simp [HSZP.out.2]
      have hltI : (i : Int) < (N : Int) := by omega
      go_upto_region 9 with (first
        | (refine wpList_load_mid rfl 62 _ rfl g2 (i * 14) rfl (.bool gp :: .int .u64 (fa : Int) :: .int .u64 (fz : Int) :: PP) _ HRA.out Try.underlying62 rfl hOT ?_)
        | (refine wpList_store_is (o := ⟨none, _, _, _, _, _⟩) rfl 62 _ _ rfl wr1.heap.size (.bool gp :: .int .u64 (fa : Int) :: .int .u64 (fz : Int) :: PP).toArray rfl rfl 62 #[.bool false, .int .u64 0, .int .u64 0, .bool false, .int .u8 0, .int .u16 0, .int .u32 0, .int .u32 0, .slice none 0 0, .bool false, .int .u16 0, .slice none 0 0, .slice none 0 0, .int .u8 0] HZ.out hOT2 hZs HV.out ?_; intro w4 hi4 ho4; have I4 := Lib.hid hi4; have O4 := Lib.hid (((Only.refl _ wr1).alloc _).trans ho4 (fun i hi e => by omega) : Only (fun _ => False) wr1 w4); clear hi4 ho4))
      obtain ⟨r8, hr8⟩ : ∃ r, wr1.heap.size = r := ⟨_, rfl⟩
      rw [hr8] at I4 ⊢
      clear hr8 HZ hOT hOT2 hZs HV HNE HRA
      have d0 : w4.cell? ⟨r8, 0, none⟩ = some (.bool gp) := by rw [I4.out.cell]; simp
      have d1 : w4.cell? ⟨r8, 1, none⟩ = some (.int .u64 (fa : Int)) := by rw [I4.out.cell]; simp
      have d2 : w4.cell? ⟨r8, 2, none⟩ = some (.int .u64 (fz : Int)) := by rw [I4.out.cell]; simp
      have hn1 : ¬ (fa : Int) ≠ (nx : Int) := by have := HNM.out; omega
      have hn1' : (fa : Int) = (nx : Int) := by have := HNM.out; omega
      have hn2 : ¬ (fz : Int) < (fa : Int) := by have := HNM.out; omega
      have hfz : (fz : Int) ≤ 4611686018427387904 := by have := HNM.out; omega
      have hwr : IntKind.u64.wrap ((fz : Int) + 1) = (fz : Int) + 1 := by rw [IntKind.wrap_u64]; omega
      go_wp2
      clear d0 d1 d2 hn1 hn1' hn2 hwr
      go_loopw [9, 10] (fun s9 s10 wr => ∃ k : Nat, k ≤ M ∧ s10 = .int .i64 (k : Int) ∧ s9 = .bool (camB (ins.take k) x) ∧ Only (fun _ => False) w4 wr) (fun _ s10 _ => M - (intOf s10).toNat)
      case atStart => exact ⟨0, by omega, rfl, by simp [camB], Only.refl _ w4⟩
      case round =>
        obtain ⟨k, hk, rfl, rfl, hok⟩ := hrel
        have OK := Lib.hid hok
        have OWK := Lib.hid ((O.out.trans O4.out (fun _ _ e => e)).trans hok (fun _ _ e => e))
        have IK := Lib.hid (I4.out.only hok (by simp))
        clear hok
        obtain ⟨cm, hcm⟩ : ∃ cm, camB (ins.take k) x = cm := ⟨_, rfl⟩
        have HCM := Lib.hid hcm
        rw [hcm]
        clear hcm
        have hL60 := HL1.out
        by_cases hkM : k < M
        · obtain ⟨a, ha⟩ : ∃ a, ins[k]? = some a := ⟨_, List.getElem?_eq_getElem (by rw [HM.out]; exact hkM)⟩
          obtain ⟨u, hu⟩ : ∃ u, ui[k]? = some u := ⟨_, List.getElem?_eq_getElem (by rw [HI.out.len, HM.out]; exact hkM)⟩
          obtain ⟨⟨ga, oa, na, ca, e, hra⟩, hru⟩ := HI.out.at_ k a u ha hu
          injection e with e1 e2 e3
          have HE1 := Lib.hid e1
          rw [e1]
          clear e1 e2 e3
          have HRA := Lib.hid (range_pure hra OWK.out)
          have hca : wr.cell? ⟨ga, oa + k * 14 + 1, none⟩ = some (.int .u64 (a.n : Int)) := HRA.out 1 _ rfl
          have HSN := Lib.hid (camB_snoc ha x)
          rw [HXE.out.2.1, HXE.out.2.2, HCM.out] at HSN
          have HMA := Lib.hid (List.mem_of_getElem? ha)
          have HRU := Lib.hid (hru.1.only OWK.out)
          obtain ⟨an, han⟩ : ∃ an, a.n = an := ⟨_, rfl⟩
          have HAN := Lib.hid han
          rw [han] at hca HSN
          have d1 : wr.cell? ⟨r8, 1, none⟩ = some (.int .u64 (fa : Int)) := by rw [IK.out.cell]; simp
          have d2 : wr.cell? ⟨r8, 2, none⟩ = some (.int .u64 (fz : Int)) := by rw [IK.out.cell]; simp
          have hkMI : (k : Int) < (M : Int) := by omega
          clear ha hu hra hru han
          by_cases hlo : an < fa
          · have hloI : (an : Int) < (fa : Int) := by omega
            have hc2 : (cm || decide (fa ≤ an ∧ an ≤ fz)) = cm := by rw [decide_eq_false (by omega)]; simp
            go_upto_region 16 with (fail)
            go_quiet (fail)
            go_wp2
            exact ⟨⟨k + 1, by omega, by go_num, by rw [HSN.out, hc2], OK.out.trans ((Only.refl _ wr).drewN _) (fun _ _ e => e)⟩, by simp [intOf]; omega⟩
          · have hloI : ¬ (an : Int) < (fa : Int) := by omega
            by_cases hhi : fz < an
            · have hhiI : (fz : Int) < (an : Int) := by omega
              have hc2 : (cm || decide (fa ≤ an ∧ an ≤ fz)) = cm := by rw [decide_eq_false (by omega)]; simp
              go_upto_region 16 with (fail)
              go_quiet (fail)
              go_wp2
              exact ⟨⟨k + 1, by omega, by go_num, by rw [HSN.out, hc2], OK.out.trans ((Only.refl _ wr).drewN _) (fun _ _ e => e)⟩, by simp [intOf]; omega⟩
            · have hhiI : ¬ (fz : Int) < (an : Int) := by omega
              have hc2 : (cm || decide (fa ≤ an ∧ an ≤ fz)) = true := by rw [decide_eq_true (by omega)]; simp
              have hgf : gp = false := by
                rw [← HXE.out.1]
                cases hg : x.gap with
                | false => rfl
                | true =>
                  have := HCAM.out
                  rw [hg] at this
                  unfold camB at this
                  rw [Bool.not_true, List.any_eq_false] at this
                  have := this a HMA.out
                  rw [HXE.out.2.1, HXE.out.2.2, HAN.out] at this
                  simp at this
                  omega
              subst hgf
              have HEQ := Lib.hid (show a.p = x.p from HPK.out HXE.out.1 a HMA.out (by have := HXE.out; have := HNM.out.2.2.1 rfl; have := HAN.out; omega))
              have HSM := Lib.hid (show ∀ w1, Only (fun _ => False) wr w1 → Calls Try.prog 35 #[.agg (a.p.cls u.1 u.2.1 u.2.2).toList.toArray, .agg PP.toArray] w1 (SaysO (.bool true) w1) from fun w1 ho => by
                rw [← HPP.out, ← HEQ.out]
                have h2 := (HRD.out.only OWK.out).only ho
                rw [← HEQ.out] at h2
                exact same_pkB a.p u x.u w1 (HBF.out a HMA.out).1 (HRU.out.only ho) h2 (HBF.out a HMA.out).2)
              have hsz1 : (Try.prog.info? 42).map (·.size) = some (a.p.cls u.1 u.2.1 u.2.2).toList.length := Try.sizePq
              have HTD := Lib.hid (fun n : Nat => (⟨range_pure HRA.out (onlyN wr n), IK.out.only (onlyN wr n) (by simp), Only.refl _ _⟩ : Td ga oa r8 k (.int .i64 a.d :: .int .u64 (a.n : Int) :: .int .u64 (a.now : Int) :: (a.p.cls u.1 u.2.1 u.2.2).toList) (.bool false :: .int .u64 (fa : Int) :: .int .u64 (fz : Int) :: PP).toArray (wr.drewN n) (wr.drewN n)))
              go_upto_region 16 with (fail)
              go_quiet (fail)
              go_upto_region 17 with (fail)
              refine rt17 ga oa r8 k M c1 _ _ _ _ _ (a.p.cls u.1 u.2.1 u.2.2).toList PP (wr.drewN _) hkM hL60 hsz1 HSZP.out.1 (fun w1 ho => HSM.out w1 ((onlyN wr _).trans ho (fun _ _ e => e))) _ _ _ _ _ _ _ _ _ _ _ _ _ _ _ _ _ _ _ _ _ _ _ _ _ _ _ _ _ _ _ _ _ _ _ _ _ _ _ _ _ _ _ _ _ _ _ _ _ _ _ _ _ _ _ _ _ _ _ _ _ _ _ _ _ _ _ _ _ _ _ _ _ _ _ _ _ _ _ _ _ _ _ _ _ _ _ _ _ _ _ _ _ _ _ _ _ _ _ _ _ _ _ _ _ (wr.drewN _) (HTD.out _) ?_
              rintro y69 y70 y71 y72 y73 y74 y75 y76 y77 y78 y79 y80 w5 ho5
              have O5 := Lib.hid ((OK.out.trans (onlyN wr _) (fun _ _ e => e)).trans ho5 (fun _ _ e => e))
              clear ho5
              go_wp2
              exact ⟨⟨k + 1, by omega, by go_num, by rw [HSN.out, hc2], O5.out⟩, by simp [intOf]; omega⟩
        · obtain rfl : k = M := by omega
          have hcm : cm = !gp := by
            rw [← HCM.out, ← HXE.out.1, List.take_of_length_le (by rw [HM.out]; exact Nat.le_refl _)]
            exact HCAM.out
          subst hcm
          have d0 : wr.cell? ⟨r8, 0, none⟩ = some (.bool gp) := by rw [IK.out.cell]; simp
          have d1 : wr.cell? ⟨r8, 1, none⟩ = some (.int .u64 (fa : Int)) := by rw [IK.out.cell]; simp
          have d2 : wr.cell? ⟨r8, 2, none⟩ = some (.int .u64 (fz : Int)) := by rw [IK.out.cell]; simp
          have hcs := HCS.out
          rw [HCNE.out, HXE.out.1] at hcs
          have HCS2 := Lib.hid hcs
          have HCH2 := Lib.hid (show chain (fz + 1) (out.drop (i + 1)) e9 from by rw [← HXE.out.2.2]; exact HK.out.2.2.2.1)
          have hcnb : cn ≤ i := HCN.out
          have hl2b := HL2.out
          clear hcs hkM
          cases gp with
          | true =>
            go_wp2
            exact ⟨⟨i + 1, fz + 1, by omega, by go_num, by go_num, by rw [HCS2.out]; rfl, HCH2.out, OWK.out⟩, by simp [intOf]; omega⟩
          | false =>
            have hzz : (fz : Int) = (fa : Int) := by have := HNM.out.2.2.1 rfl; omega
            have hzz2 : ¬ (fz : Int) ≠ (fa : Int) := by omega
            go_wp2
            exact ⟨⟨i + 1, fz + 1, by omega, by go_num, by go_num, by rw [HCS2.out]; go_num, HCH2.out, OWK.out⟩, by simp [intOf]; omega⟩
    · obtain rfl : i = N := by omega
      have hcm : cn = M := by
        rw [← HCNE.out, List.take_of_length_le (by rw [HN.out]; exact Nat.le_refl _), ← HM.out]
        exact HT.out.cnt
      subst hcm
      go_wp2
      go_ret
      exact ⟨rfl, O.out⟩
end Go.Proofs.Ytdcclighccejhaa

/- ReorderAll: what lies in memory before a round; appends of rows that may be empty. Conditions: as each says. -/
set_option linter.unusedVariables false
set_option linter.unusedSimpArgs false
namespace Go.Proofs.Ytdcclighccejhaa
open Go Go.RowKit

theorem append_rowsG {o : Oper} {a : Act} {K : Act → World → Prop} {Q : Exit → Act → World → Prop} (w : World) (s x : Operand) {t T : TypeId} {sz bytes : Nat} (st : Sty t T sz bytes)
    (ho : o.op = .call { callee := .builtin .append, args := #[s, x], argTypes := #[t, t] })
    (B : Nat) (v : Value) (xss : List (List Value)) (hs : a.eval s = v) (hown : OwnS w B T sz v xss) (B2 : Nat) (v2 : Value) (yss : List (List Value)) (hx : a.eval x = v2) (hown2 : OwnS w B2 T sz v2 yss)
    (h1 : ∀ ys ∈ yss, ∀ u ∈ ys, u.oneCell' = true)
    (hl : xss.length + yss.length ≤ 100000) (hby : bytes ≤ 100000) (hB : B ≤ w.heap.size)
    (h : ∀ v' w', OwnS w' B T sz v' (xss ++ yss) → Only (fun k => v.ownBlock = some k) w w' → K (a.put o.dst v') w') :
    Oper.wp Try.prog o a w K Q := by
  rcases Nat.eq_zero_or_pos yss.length with h0 | hp
  · obtain rfl := List.eq_nil_of_length_eq_zero h0
    obtain ⟨i0, z, hi, hz0, hz1, hz2, hz3⟩ := st.info
    have hb1 : xss.length * bytes ≤ 100000 * 100000 := Nat.mul_le_mul (by simp at hl; omega) hby
    rcases hown2.1.2 with ⟨rfl, -⟩ | ⟨g, cap, cur, rfl, -⟩
    · have hrun := run_append_owned_none (P := Try.prog) w B t o.type T i0 sz st.und hi v xss.length xss.flatten hown.1
      unfold Oper.wp
      simp [execOp, ho, resolve, invoke, builtin, hs, hx, hrun, Result.andThen]
      exact h v w (by rw [List.append_nil]; exact hown) (Only.refl _ w)
    · refine wp_append_own w s x t ho B T i0 z sz bytes st.und hi hz0 hz1 hz2 hz3 st.pos v xss.length xss.flatten hs hown.1 ⟨g, 0, none⟩ 0 cap [] hx (by simp) (by simp) (by simp) (by unfold maxLen; simp at hl; omega) (by simp; omega) hB (fun v' w' h1 h2 _ => h v' w' ⟨?_, ?_⟩ ?_)
      · simpa using h1
      · rw [List.append_nil]
        exact hown.2
      · exact (Only.refl _ w).grown h2 (fun i hi _ => hi)
  · exact append_rows w s x st ho B v xss hs hown B2 v2 yss hx hown2 hp h1 hl hby hB h
theorem wpList_append_rowsG {ops : Array Oper} {rest : List Oper} {o : Oper} {a : Act} {Q : Exit → Act → World → Prop} (w : World) (hgd : o.guard = none) (s x : Operand) {t T : TypeId} {sz bytes : Nat} (st : Sty t T sz bytes)
    (ho : o.op = .call { callee := .builtin .append, args := #[s, x], argTypes := #[t, t] })
    (B : Nat) (v : Value) (xss : List (List Value)) (hs : a.eval s = v) (hown : OwnS w B T sz v xss) (B2 : Nat) (v2 : Value) (yss : List (List Value)) (hx : a.eval x = v2) (hown2 : OwnS w B2 T sz v2 yss)
    (h1 : ∀ ys ∈ yss, ∀ u ∈ ys, u.oneCell' = true)
    (hl : xss.length + yss.length ≤ 100000) (hby : bytes ≤ 100000) (hB : B ≤ w.heap.size)
    (h : ∀ v' w', OwnS w' B T sz v' (xss ++ yss) → Only (fun k => v.ownBlock = some k) w w' → wpList Try.prog ops Q rest (a.put o.dst v') w') :
    wpList Try.prog ops Q (o :: rest) a w :=
  wpList_plain hgd fun _ hK => append_rowsG w s x st ho B v xss hs hown B2 v2 yss hx hown2 h1 hl hby hB fun v' w' h1 h2 => hK _ _ (h v' w' h1 h2)
theorem Try.infoOtB : (Try.prog.info? 62).map (fun i => (i.zero, i.size, i.bytes)) = some (some (.agg #[.bool false, .int .u64 0, .int .u64 0, .bool false, .int .u8 0, .int .u16 0, .int .u32 0, .int .u32 0, .slice none 0 0, .bool false, .int .u16 0, .slice none 0 0, .slice none 0 0, .int .u8 0]), 14, 128) := by kernel_rfl
theorem sty_ot : Sty 47 62 14 128 := by
  obtain ⟨i0, h1, h2, h3, h4⟩ := info_parts Try.infoOtB
  exact ⟨Try.underlying47, ⟨i0, _, h1, h2, h3, h4, rfl⟩, by decide⟩
theorem Try.infoAcB : (Try.prog.info? 44).map (fun i => (i.zero, i.size, i.bytes)) = some (some (.agg #[.int .i64 0, .int .u64 0, .int .u64 0, .bool false, .int .u8 0, .int .u16 0, .int .u32 0, .int .u32 0, .slice none 0 0, .bool false, .int .u16 0, .slice none 0 0, .slice none 0 0, .int .u8 0]), 14, 128) := by kernel_rfl
theorem sty_ac : Sty 23 44 14 128 := by
  obtain ⟨i0, h1, h2, h3, h4⟩ := info_parts Try.infoAcB
  exact ⟨Try.underlying23, ⟨i0, _, h1, h2, h3, h4, rfl⟩, by decide⟩
theorem it_rowsA (l : List It) : ∀ ys ∈ l.map It.cls, ∀ u ∈ ys, u.oneCell' = true := by
  intro ys hy u hu
  obtain ⟨x, -, rfl⟩ := List.mem_map.1 hy
  exact It.cls_one x u hu
/-- What lies in memory. -/
structure Mm (b B0 B : Nat) (m : Bf) (v : Value) (us : List V3) (vin : Value) (ir : List (List Value)) (vout : Value) (orr : List (List Value)) (out : List It) (w0 wr : World) : Prop where
  bf : Bfr wr b m v us B
  inr : OwnS wr B0 44 14 vin ir
  outr : OwnS wr B0 62 14 vout orr
  outp : ∀ x ∈ out, OwnPk B x.p x.u.1 x.u.2.1 x.u.2.2 wr
  lb : B0 ≤ b
  lB : B0 ≤ B
  hB : B ≤ wr.heap.size
  b0 : w0.heap.size = B0
  only : Only (fun _ => False) w0 wr
section
variable {b B0 B : Nat} {m : Bf} {v : Value} {us : List V3} {vin : Value} {ir : List (List Value)} {vout : Value} {orr : List (List Value)} {out : List It} {w0 wr w1 : World}
theorem Mm.pure (h : Mm b B0 B m v us vin ir vout orr out w0 wr) (ho : Only (fun _ => False) wr w1) : Mm b B0 B m v us vin ir vout orr out w0 w1 :=
  ⟨h.bf.pure ho, h.inr.only ho (by simp), h.outr.only ho (by simp), fun x hx => (h.outp x hx).only ho, h.lb, h.lB, Nat.le_trans h.hB ho.size, h.b0, h.only.trans ho (fun _ _ e => e)⟩
/-- A call lets some go. -/
theorem Mm.call (h : Mm b B0 B m v us vin ir vout orr out w0 wr) {m' : Bf} {us' : List V3} {j : Nat} {vo : Value} (hw : WentO b B m' us' j wr w1 vo) :
    ∃ v', Mm b B0 B (m'.gone j) v' (us'.drop j) vin ir vout orr (out ++ items m'.nx (m'.ws.take j) (us'.take j)) w0 w1 ∧ OwnS w1 B0 62 14 vo ((items m'.nx (m'.ws.take j) (us'.take j)).map It.cls) := by
  obtain ⟨h1, ⟨v', h2⟩, h3, h4⟩ := hw
  have hs : ∀ (T : TypeId) (B' sz n : Nat) (v : Value) (xs : List Value), wr.ownsRow B' T sz v n xs → T ≠ 65 → T ≠ 79 → ∀ k, v.ownBlock = some k → ¬ (k = b ∨ (B ≤ k ∧ ∃ cs, Is wr k 79 cs)) := fun T B' sz n v xs hv t1 t2 k hk e => by
    rcases e with rfl | ⟨-, cs, hi⟩
    · exact owned_off hv h.bf.is t1 hk
    · exact owned_off hv hi t2 hk
  have hle : B0 ≤ wr.heap.size := by rw [← h.b0]; exact h.only.size
  refine ⟨v', ⟨h2, h.inr.only h4 (hs _ _ _ _ _ _ h.inr.1 (by decide) (by decide)), h.outr.only h4 (hs _ _ _ _ _ _ h.outr.1 (by decide) (by decide)), fun x hx => ?_, h.lb, h.lB, Nat.le_trans h.hB h4.size, h.b0, h.only.trans h4 (fun i hi e => ?_)⟩, ⟨owned_low h1.1 hle, h1.2⟩⟩
  · rcases List.mem_append.1 hx with hx | hx
    · exact (h.outp x hx).off h4 (fun k hk e => by
        rcases e with rfl | ⟨-, cs, hi⟩
        · exact (h.outp x hx).not_is h.bf.is (by decide) (by decide) hk
        · exact (h.outp x hx).not_is hi (by decide) (by decide) hk)
    · rcases items_mem _ _ _ x hx with ⟨e1, e2⟩ | ⟨i, y, u, g1, g2, g3, g4⟩
      · rw [e1, e2]
        exact ⟨World.ownsRow_nil _ _ _ _, World.ownsRow_nil _ _ _ _, World.ownsRow_nil _ _ _ _⟩
      · have hij : i < j := by
          have := (List.getElem?_eq_some_iff.1 g1).1
          rw [List.length_take] at this
          omega
        rw [List.getElem?_take_of_lt hij] at g1 g2
        rw [g3, g4]
        exact h3.own i y u g1 g2
  · have := h.lb
    have := h.lB
    have := h.b0
    rcases e with rfl | ⟨hk, -⟩ <;> omega
/-- What goes is appended. -/
theorem Mm.appOut (h : Mm b B0 B m v us vin ir vout orr out w0 wr) {vout' : Value} {ys : List (List Value)} (hS : OwnS w1 B0 62 14 vout' ys) (ho : Only (fun k => vout.ownBlock = some k) wr w1) : Mm b B0 B m v us vin ir vout' ys out w0 w1 := by
  have hpk : ∀ (B' : Nat) (p : Pk) (u : V3), OwnPk B' p u.1 u.2.1 u.2.2 wr → ∀ k, Blk u k → ¬ vout.ownBlock = some k := fun B' p u hu k hk e => hu.typed h.outr.1 (by decide) (by decide) k e hk
  refine ⟨h.bf.only ho (fun e => owned_off h.outr.1 h.bf.is (by decide) e) (fun k hk e => owned_apart h.bf.row.1 h.outr.1 (by decide) k hk e) (fun u hu k hk => ?_), h.inr.only ho (fun k hk e => owned_apart h.inr.1 h.outr.1 (by decide) k hk e), hS, fun x hx => (h.outp x hx).off ho (hpk _ _ _ (h.outp x hx)), h.lb, h.lB, Nat.le_trans h.hB ho.size, h.b0, h.only.trans ho (fun i hi e => ?_)⟩
  · obtain ⟨p, hp⟩ := us_own h.bf.pks u hu
    exact hpk _ p u hp k hk
  · have := (h.outr.lt i e).1
    have := h.b0
    omega
/-- A call is kept. -/
theorem Mm.appIn (h : Mm b B0 B m v us vin ir vout orr out w0 wr) {vin' : Value} {ys : List (List Value)} (hS : OwnS w1 B0 44 14 vin' ys) (ho : Only (fun k => vin.ownBlock = some k) wr w1) : Mm b B0 B m v us vin' ys vout orr out w0 w1 := by
  have hpk : ∀ (B' : Nat) (p : Pk) (u : V3), OwnPk B' p u.1 u.2.1 u.2.2 wr → ∀ k, Blk u k → ¬ vin.ownBlock = some k := fun B' p u hu k hk e => hu.typed h.inr.1 (by decide) (by decide) k e hk
  refine ⟨h.bf.only ho (fun e => owned_off h.inr.1 h.bf.is (by decide) e) (fun k hk e => owned_apart h.bf.row.1 h.inr.1 (by decide) k hk e) (fun u hu k hk => ?_), hS, h.outr.only ho (fun k hk e => owned_apart h.outr.1 h.inr.1 (by decide) k hk e), fun x hx => (h.outp x hx).off ho (hpk _ _ _ (h.outp x hx)), h.lb, h.lB, Nat.le_trans h.hB ho.size, h.b0, h.only.trans ho (fun i hi e => ?_)⟩
  · obtain ⟨p, hp⟩ := us_own h.bf.pks u hu
    exact hpk _ p u hp k hk
  · have := (h.inr.lt i e).1
    have := h.b0
    omega
/-- A box of a call is written. -/
theorem Mm.far (h : Mm b B0 B m v us vin ir vout orr out w0 wr) {g : Nat} {cs : Array Value} (hg : Is wr g 44 cs) (hgi : vin.ownBlock ≠ some g) (hg0 : B0 ≤ g) (ho : Only (fun k => k = g) wr w1) : Mm b B0 B m v us vin ir vout orr out w0 w1 := by
  have hpk : ∀ (B' : Nat) (p : Pk) (u : V3), OwnPk B' p u.1 u.2.1 u.2.2 wr → ∀ k, Blk u k → ¬ k = g := fun B' p u hu k hk e => by
    subst e
    exact hu.not_is hg (by decide) (by decide) hk
  refine ⟨h.bf.only ho (fun e => Is.apart h.bf.is hg (by decide) e) (fun k hk e => owned_off h.bf.row.1 hg (by decide) (by rw [hk, e])) (fun u hu k hk => ?_), h.inr.only ho (fun k hk e => hgi (by rw [hk, e])), h.outr.only ho (fun k hk e => owned_off h.outr.1 hg (by decide) (by rw [hk, e])), fun x hx => (h.outp x hx).off ho (hpk _ _ _ (h.outp x hx)), h.lb, h.lB, Nat.le_trans h.hB ho.size, h.b0, h.only.trans ho (fun i hi e => ?_)⟩
  · obtain ⟨p, hp⟩ := us_own h.bf.pks u hu
    exact hpk _ p u hp k hk
  · have := h.b0
    omega
end
/-- What holds plainly before round k. -/
structure Pl (size hold k now : Nat) (ins : List Ac) (ui : List V3) (out : List It) (m : Bf) (w0 : World) : Prop where
  good : m.Good
  sz : m.size = size ∧ m.hold = hold
  pl : AllP ins out m
  inl : ui.length = ins.length
  inu : ∀ (i : Nat) (a : Ac) (u : V3), ins[i]? = some a → ui[i]? = some u → RdU a.p u w0
  few : ∀ a ∈ ins, Bd a.p ∧ BFit a.p ∧ a.now ≤ now
  nb : now < 18446744073709551616
  len : ins.length ≤ k
  ln : out.length + 2 * m.ws.length ≤ 2 * ins.length
theorem Pl.go {size hold k now : Nat} {ins : List Ac} {ui : List V3} {out : List It} {m : Bf} {w0 : World} (h : Pl size hold k now ins ui out m w0) {j : Nat} (hj : j ≤ m.ws.length) (hg : (m.gone j).Good) (us : List V3) (hu : us.length = m.ws.length) : Pl size hold (k + 1) now ins ui (out ++ items m.nx (m.ws.take j) (us.take j)) (m.gone j) w0 := by
  refine ⟨hg, h.sz, h.pl.gone h.good hj us hu, h.inl, h.inu, h.few, h.nb, by have := h.len; omega, ?_⟩
  have h1 := items_len (m.ws.take j) (us.take j) m.nx
  have h2 := h.ln
  rw [List.length_append]
  rw [List.length_take] at h1
  show _ + 2 * (m.ws.drop j).length ≤ _
  rw [List.length_drop]
  omega
theorem Pl.late {size hold k now : Nat} {ins : List Ac} {ui : List V3} {out : List It} {m : Bf} {w0 : World} (h : Pl size hold k now ins ui out m w0) (now' : Nat) (h1 : now ≤ now') (h2 : now' < 18446744073709551616) : Pl size hold k now' ins ui out m w0 :=
  ⟨h.good, h.sz, h.pl, h.inl, h.inu, fun a ha => ⟨(h.few a ha).1, (h.few a ha).2.1, Nat.le_trans (h.few a ha).2.2 h1⟩, h2, h.len, h.ln⟩
theorem Pl.more {size hold k now : Nat} {ins : List Ac} {ui : List V3} {out : List It} {m : Bf} {w0 : World} (h : Pl size hold k now ins ui out m w0) : Pl size hold (k + 1) now ins ui out m w0 :=
  ⟨h.good, h.sz, h.pl, h.inl, h.inu, h.few, h.nb, by have := h.len; omega, h.ln⟩
end Go.Proofs.Ytdcclighccejhaa

/- ReorderAll: one that came, plainly. Conditions: as each says. -/
set_option linter.unusedVariables false
set_option linter.unusedSimpArgs false
namespace Go.Proofs.Ytdcclighccejhaa
open Go Go.RowKit

theorem AllP.goneG {ins : List Ac} {out : List It} {m : Bf} (h : AllP ins out m) (he : m.some = false → m.ws = []) (hn : ∀ x ∈ m.ws, x.n ≤ 4611686018427387904) (hasc : asc m.nx m.ws) {j : Nat} (hj : j ≤ m.ws.length) (us : List V3) (hu : us.length = m.ws.length) : AllP ins (out ++ items m.nx (m.ws.take j) (us.take j)) (m.gone j) := by
  have hul : (us.take j).length = (m.ws.take j).length := by rw [List.length_take, List.length_take, hu]
  refine ⟨fun e => ?_, fun a0 h0 => ?_, h.nod, fun x hx => h.wait x (drop_mem hx), fun x hx hgp => ?_, fun a ha => ?_, ?_⟩
  · obtain ⟨h1, h2⟩ := h.emp e
    have hw := he h2
    refine ⟨?_, h2⟩
    rw [h1, hw, List.take_nil, items_nil]
    rfl
  · obtain ⟨h1, h2⟩ := h.some a0 h0
    refine ⟨h1, chain_append _ _ _ _ _ h2 ?_⟩
    rw [nx_gone hn hj, ← nxt_at _ _ _ hj]
    exact chain_items _ _ _ hul (asc_take _ _ _ hasc)
  · rcases List.mem_append.1 hx with hx | hx
    · exact h.pkt x hx hgp
    · obtain ⟨y, hy, h1, h2⟩ := items_pkt _ _ _ x hx hgp
      obtain ⟨a, ha, h3, h4, -⟩ := h.wait y (List.mem_of_mem_take hy)
      exact ⟨a, ha, by omega, by rw [h4, h2]⟩
  · rcases h.all a ha with ⟨x, hx, h1, h2⟩ | ⟨x, hx, h1⟩
    · exact .inl ⟨x, List.mem_append_left _ hx, h1, h2⟩
    · rw [← List.take_append_drop j m.ws] at hx
      rcases List.mem_append.1 hx with hx | hx
      · obtain ⟨z, hz, h2, h3⟩ := items_has _ _ m.nx hul x hx
        exact .inl ⟨z, List.mem_append_right _ hz, h2, by omega⟩
      · exact .inr ⟨x, hx, h1⟩
  · rw [List.filter_append, List.length_append, items_cnt _ _ _ hul]
    show _ + (m.ws.drop j).length = _
    have := h.cnt
    rw [List.length_take, List.length_drop]
    omega
theorem ins_lists {α : Type} {l : List α} {x y : α} {i : Nat} (h : (l ++ [x])[i]? = some y) : (l[i]? = some y ∧ i < l.length) ∨ (i = l.length ∧ y = x) := by
  by_cases hi : i < l.length
  · rw [List.getElem?_append_left hi] at h
    exact .inl ⟨h, hi⟩
  · rw [List.getElem?_append_right (by omega)] at h
    cases hk : i - l.length with
    | zero =>
      rw [hk] at h
      exact .inr ⟨by omega, by simpa using h.symm⟩
    | succ n => rw [hk] at h; simp at h
theorem Pl.inn {size hold k now : Nat} {ins : List Ac} {ui : List V3} {out : List It} {m : Bf} {w0 : World} (h : Pl size hold k now ins ui out m w0) (a : Ac) (ha : a.n ≤ 4611686018427387904) (ht : m.takes a.n) (hnow : a.now = now) (u : V3) (hu : RdU a.p u w0) (hb : Bd a.p ∧ BFit a.p) (us : List V3) (hus : us.length = (m.ins ⟨a.n, a.now, a.p⟩).ws.length) :
    Pl size hold (k + 1) now (ins ++ [a]) (ui ++ [u]) (out ++ items (m.ins ⟨a.n, a.now, a.p⟩).nx ((m.ins ⟨a.n, a.now, a.p⟩).ws.take ((m.ins ⟨a.n, a.now, a.p⟩).goes m.much)) (us.take ((m.ins ⟨a.n, a.now, a.p⟩).goes m.much))) ((m.ins ⟨a.n, a.now, a.p⟩).gone ((m.ins ⟨a.n, a.now, a.p⟩).goes m.much)) w0 := by
  have hc : a.now < 18446744073709551616 := by have := h.nb; omega
  have hok := ins_ok h.good ⟨a.n, a.now, a.p⟩ ha hc ht
  have hl1 : (m.ins ⟨a.n, a.now, a.p⟩).ws.length = m.ws.length + 1 := insAt_length _ _ _ (pos_le m a.n)
  have hj := Bf.goes_le (m.ins ⟨a.n, a.now, a.p⟩) m.much
  have hnum : ∀ y ∈ (m.ins ⟨a.n, a.now, a.p⟩).ws, y.n ≤ 4611686018427387904 := fun y hy => by
    rcases mem_insAt hy with rfl | hy
    · exact ha
    · exact (h.good.nums y hy).1
  refine ⟨in_good h.good ⟨a.n, a.now, a.p⟩ ha hc ht, ⟨by rw [show ((m.ins ⟨a.n, a.now, a.p⟩).gone _).size = (m.begun a.n).size from rfl, begun_size]; exact h.sz.1, by rw [show ((m.ins ⟨a.n, a.now, a.p⟩).gone _).hold = (m.begun a.n).hold from rfl, begun_hold]; exact h.sz.2⟩,
    (h.pl.ins h.good a ha ht).goneG (fun e => by rw [ins_some] at e; cases e) hnum (asc_of _ _ hok.nx hok.fit.rise) hj us hus, by rw [List.length_append, List.length_append, h.inl]; rfl, fun i c x hi hx => ?_, fun c hcm => ?_, h.nb, by rw [List.length_append]; have := h.len; simp; omega, ?_⟩
  · rcases ins_lists hi with ⟨g1, g2⟩ | ⟨g1, g2⟩
    · rcases ins_lists hx with ⟨g3, -⟩ | ⟨g3, -⟩
      · exact h.inu i c x g1 g3
      · have := h.inl
        omega
    · rcases ins_lists hx with ⟨-, g3⟩ | ⟨-, g4⟩
      · have := h.inl
        omega
      · rw [g2, g4]
        exact hu
  · rcases List.mem_append.1 hcm with hcm | hcm
    · exact h.few c hcm
    · have e : c = a := by simpa using hcm
      subst e
      exact ⟨hb.1, hb.2, by omega⟩
  · have h1 := items_len ((m.ins ⟨a.n, a.now, a.p⟩).ws.take ((m.ins ⟨a.n, a.now, a.p⟩).goes m.much)) (us.take ((m.ins ⟨a.n, a.now, a.p⟩).goes m.much)) (m.ins ⟨a.n, a.now, a.p⟩).nx
    have h2 := h.ln
    rw [List.length_append, List.length_append]
    rw [List.length_take] at h1
    show _ + 2 * ((m.ins ⟨a.n, a.now, a.p⟩).ws.drop ((m.ins ⟨a.n, a.now, a.p⟩).goes m.much)).length ≤ _
    rw [List.length_drop]
    simp
    omega
/-- What waits behind a tick, and has come as one of these, has not waited for long. -/
theorem Pl.young {size hold k now : Nat} {ins : List Ac} {ui : List V3} {out : List It} {m : Bf} {w0 : World} (h : Pl size hold k now ins ui out m w0) : ∀ x ∈ (m.gone (m.goes (m.must now))).ws, ∀ a ∈ ins, x.n = a.n → now - a.now < hold ∧ a.now ≤ now := by
  intro x hx a ha e
  have h1 := tick_young (m := m) now x hx
  obtain ⟨c, hc, h2, -, h3⟩ := h.pl.wait x (drop_mem hx)
  have h4 := nod_eq h.pl.nod hc ha (by omega)
  have h5 := (h.few a ha).2.2
  rw [h4] at h3
  rw [h.sz.2] at h1
  have h6 : x.waits now = max now x.came - x.came := rfl
  rw [h6, ← h3, Nat.max_eq_left h5] at h1
  exact ⟨h1, h5⟩
end Go.Proofs.Ytdcclighccejhaa

/- ReorderAll: told of rows that are owned. Conditions: as each says. -/
set_option linter.unusedVariables false
set_option linter.unusedSimpArgs false
namespace Go.Proofs.Ytdcclighccejhaa
open Go Go.RowKit

theorem rdas_own {w : World} {B : Nat} {v : Value} {ins : List Ac} {ui : List V3} (h : OwnS w B 44 14 v (List.zipWith Ac.cls ins ui)) (hl : ui.length = ins.length) (hu : ∀ (i : Nat) (a : Ac) (u : V3), ins[i]? = some a → ui[i]? = some u → RdU a.p u w) : RdAs w v ins ui := by
  have hzl : (List.zipWith Ac.cls ins ui).length = ins.length := by rw [List.length_zipWith, hl, Nat.min_self]
  obtain ⟨A, c, e, hc⟩ := h.slice
  rw [hzl] at e hc
  refine ⟨⟨A, c, e, hc⟩, hl, fun i a u ha hx => ⟨?_, hu i a u ha hx⟩⟩
  have hil := (List.getElem?_eq_some_iff.1 ha).1
  obtain ⟨g, cg, e2, -⟩ := h.place (by omega)
  have hr := h.range (i := i) (xs := a.cls u) (by rw [e2]; rfl) (by rw [List.getElem?_zipWith, ha, hx])
  exact ⟨g, 0, _, _, e2, by rw [Nat.zero_add]; exact hr⟩
theorem rdit_own {w : World} {B B' : Nat} {v : Value} {out : List It} (h : OwnS w B 62 14 v (out.map It.cls)) (hp : ∀ x ∈ out, OwnPk B' x.p x.u.1 x.u.2.1 x.u.2.2 w) : RdIt w v out := by
  obtain ⟨A, c, e, hc⟩ := h.slice
  rw [List.length_map] at e hc
  refine ⟨⟨A, c, e, hc⟩, fun i x hx => ⟨?_, (hp x (List.mem_of_getElem? hx)).rd⟩⟩
  have hil := (List.getElem?_eq_some_iff.1 hx).1
  obtain ⟨g, cg, e2, -⟩ := h.place (by rw [List.length_map]; omega)
  have hr := h.range (i := i) (xs := x.cls) (by rw [e2]; rfl) (by rw [List.getElem?_map, hx]; rfl)
  exact ⟨g, _, _, e2, hr⟩
set_option maxRecDepth 100000 in
theorem told_none (A A2 : Option Addr) (c c2 : Nat) (w : World) : Calls Try.prog 17 #[.slice A 0 c, .slice A2 0 c2] w (SaysO (.bool true) w) := by
  go_enter Try.func17, Try.ntmps17
  go_wp2
  go_ret
  exact ⟨rfl, Only.refl _ w⟩
theorem told_is (vi vo : Value) (ins : List Ac) (ui : List V3) (out : List It) (w : World) (hi : RdAs w vi ins ui) (hO : RdIt w vo out) (hT : Told ins out) (hbf : ∀ a ∈ ins, BFit a.p ∧ a.p.csrc.length ≤ 1000) (hl1 : ins.length ≤ 60) (hl2 : out.length ≤ 20000) :
    Calls Try.prog 17 #[vi, vo] w (SaysO (.bool true) w) := by
  rcases Nat.eq_zero_or_pos ins.length with h0 | hp
  · have e := List.eq_nil_of_length_eq_zero h0
    have e2 := hT.emp e
    obtain ⟨A, c, e3, -⟩ := hi.sl
    obtain ⟨A2, c2, e4, -⟩ := hO.sl
    rw [e3, e4, e, e2]
    exact told_none A A2 c c2 w
  · exact told_some vi vo ins ui out w hi hO hT hbf hl1 hl2 hp
theorem zip_snoc {ins : List Ac} {ui : List V3} (h : ui.length = ins.length) (a : Ac) (u : V3) : List.zipWith Ac.cls (ins ++ [a]) (ui ++ [u]) = List.zipWith Ac.cls ins ui ++ [a.cls u] := by
  rw [List.zipWith_append h.symm]
  rfl
end Go.Proofs.Ytdcclighccejhaa
