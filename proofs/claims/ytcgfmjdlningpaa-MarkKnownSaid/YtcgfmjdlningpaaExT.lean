/- The reference's Parse. Conditions: as each says. -/
import Derived.Test.YtcgfmjdlningpaaExR
import Derived.Test.YtcgfmjdlningpaaExE
import Derived.Test.YtcgfmjdlningpaaBase
set_option linter.unusedVariables false
namespace Go.Proofs.Ytcgfmjdlningpaa
open Go.RowKit

theorem Try.infoRe : (Try.prog.info? 101).map (fun i => (i.zero, i.size, i.bytes)) = some (some (.agg zeroE), 2, 32) := by kernel_rfl
theorem sty_re : Sty 41 101 2 32 := by
  obtain ⟨i0, hi, hz0, hz1, hz2⟩ := info_parts Try.infoRe
  exact ⟨Try.underlying41, ⟨i0, _, hi, hz0, hz1, hz2, rfl⟩, by decide⟩
set_option maxRecDepth 100000 in
set_option maxHeartbeats 1000000 in
theorem rpar_none (p : Nat) (v : Value) (w : World) (hv : ∃ A n c, v = .slice A n c) (hf : formB p = 0) :
    Calls Try.prog 24 #[.int .u16 p, v] w fun e w' => e = .returned (.tuple #[.slice none 0 0, .int .i64 30]) ∧ w = w' := by
  obtain ⟨A, n, c, rfl⟩ := hv
  have HK := Lib.hid (rknown_is p w)
  rw [show decide (formB p ≠ 0) = false from by rw [hf]; rfl] at HK
  clear hf
  go_enter Try.func24, Try.ntmps24
  go_wp2_with (go_at_call 29; refine HK.out.mono ?_; rintro e w1 ⟨rfl, rfl⟩)
  go_ret2
  exact ⟨rfl, rfl⟩
set_option maxRecDepth 100000 in
set_option maxHeartbeats 1000000 in
theorem rpar_odd (p : Nat) (v : Value) (bs : List Nat) (w : World) (hs : Src w v bs) (hf : formB p ≠ 0) (hl : bs.length ≤ 1000000) (h4 : bs.length % 4 ≠ 0) :
    Calls Try.prog 24 #[.int .u16 p, v] w fun e w' => e = .returned (.tuple #[.slice none 0 0, .int .i64 3]) ∧ w = w' := by
  obtain ⟨A, c, rfl⟩ := hs.slice
  have HK := Lib.hid (rknown_is p w)
  rw [show decide (formB p ≠ 0) = true from decide_eq_true hf] at HK
  have e4 : ((bs.length : Int) % 4 != 0) = true := by simp; omega
  clear hf h4 hs
  generalize bs.length = L at *
  go_enter Try.func24, Try.ntmps24
  go_wp2_with (go_at_call 29; refine HK.out.mono ?_; rintro e w1 ⟨rfl, rfl⟩)
  go_ret2
  exact ⟨rfl, rfl⟩

theorem kind_end {b : Nat} {bs : List Nat} {i : Nat} (h0 : b ≠ 0) (h15 : b / 16 ≠ 15) (h1 : b / 16 ≠ 0) (hs : bs.length - (i + 1) < b % 16 + 1) : exKind true (b :: bs.drop (i + 1)) = 3 := by
  have hl : (bs.drop (i + 1)).length = bs.length - (i + 1) := List.length_drop
  unfold exKind
  simp only [h0, h15, h1, if_false, if_true, hl]
  rw [if_pos hs]
theorem kind_one {b : Nat} {bs : List Nat} {i : Nat} (h0 : b ≠ 0) (h15 : b / 16 ≠ 15) (h1 : b / 16 ≠ 0) (hs : ¬ bs.length - (i + 1) < b % 16 + 1) : exKind true (b :: bs.drop (i + 1)) = 4 := by
  have hl : (bs.drop (i + 1)).length = bs.length - (i + 1) := List.length_drop
  unfold exKind
  simp only [h0, h15, h1, if_false, if_true, hl]
  rw [if_neg hs]
theorem kind_last {b : Nat} {bs : List Nat} {i : Nat} (h0 : b ≠ 0) (hl : bs.length = i + 1) : exKind false (b :: bs.drop (i + 1)) = 3 := by
  rw [List.drop_eq_nil_of_le (by omega)]
  unfold exKind
  simp [h0]
theorem kind_short {b m : Nat} {bs : List Nat} {i : Nat} (h0 : b ≠ 0) (hr1 : bs.drop (i + 1) = m :: bs.drop (i + 2)) (hs : bs.length - (i + 2) < m) : exKind false (b :: bs.drop (i + 1)) = 3 := by
  have hl2 : (bs.drop (i + 2)).length = bs.length - (i + 2) := List.length_drop
  rw [hr1]
  unfold exKind
  simp only [h0, if_false, Bool.false_eq_true, hl2]
  rw [if_pos hs]
theorem kind_two {b m : Nat} {bs : List Nat} {i : Nat} (h0 : b ≠ 0) (hr1 : bs.drop (i + 1) = m :: bs.drop (i + 2)) (hs : ¬ bs.length - (i + 2) < m) : exKind false (b :: bs.drop (i + 1)) = 4 := by
  have hl2 : (bs.drop (i + 2)).length = bs.length - (i + 2) := List.length_drop
  rw [hr1]
  unfold exKind
  simp only [h0, if_false, Bool.false_eq_true, hl2]
  rw [if_neg hs]
theorem acc_nil (w : World) : Acc w (.slice none 0 0) [] w := ⟨World.ownsRow_nil _ _ _ _, Only.refl _ _⟩

/-- Amid a loop. -/
structure RExs (one : Bool) (bs : List Nat) (w : World) (s6 : Value) (i : Nat) (done : List El) (vs : List Value) (B : Nat) (wr : World) : Prop where
  le : i ≤ bs.length
  els : Els wr B 101 s6 vs done
  pure : Only (fun _ => False) w wr
  eq : exP one bs = ((exP one (bs.drop i)).1, done ++ (exP one (bs.drop i)).2)
  len : done.length ≤ i

set_option maxRecDepth 100000 in
set_option maxHeartbeats 8000000 in
theorem rpar_good (one : Bool) (p : Nat) (v : Value) (bs : List Nat) (w : World) (hs : Src w v bs) (hb : ∀ x ∈ bs, x < 256) (hf : formB p ≠ 0) (hone : (formB p == 1) = one) (hl : bs.length ≤ 100000) (h4 : bs.length % 4 = 0) :
    Calls Try.prog 24 #[.int .u16 p, v] w (ExParEnd 101 (exP one bs) w) := by
  obtain ⟨A, c, rfl⟩ := hs.slice
  have HK := Lib.hid (rknown_is p w)
  rw [show decide (formB p ≠ 0) = true from decide_eq_true hf] at HK
  have H1 := Lib.hid (fun w => rone_is p w)
  rw [hone] at H1
  have HB := Lib.hid hb
  have e4 : ((bs.length : Int) % 4 != 0) = false := by simp; omega
  obtain ⟨B, hB⟩ : ∃ n, w.heap.size = n := ⟨_, rfl⟩
  have HBW := Lib.hid hB.symm
  obtain ⟨L, hL⟩ : ∃ L, bs.length = L := ⟨_, rfl⟩
  have HL := Lib.hid hL
  have HCAP := Lib.hid (fun (h : 0 < bs.length) => hs.cap h)
  rw [hL] at hl e4 hs ⊢
  have HS := Lib.hid hs
  clear hf h4 hs hb hL hB hone
  go_enter Try.func24, Try.ntmps24
  go_wp2_with (go_at_call 29; refine HK.out.mono ?_; rintro e w1 ⟨rfl, rfl⟩)
  clear e4 HK
  go_loopw [6, 7] (fun s6 s7 wr => ∃ (i : Nat) (done : List El) (vs : List Value), s7 = .int .i64 i ∧ RExs one bs w s6 i done vs B wr) (fun _ s7 _ => L - (intOf s7).toNat)
  case atStart =>
    exact ⟨0, [], [], rfl, Nat.zero_le _, Els.nil _ _ _, Only.refl _ _, by simp, Nat.le_refl _⟩
  case round =>
    obtain ⟨i, done, vs, rfl, hX⟩ := hrel
    obtain ⟨Al, cl, rfl, -⟩ := hX.els.slice
    have HX := Lib.hid hX
    have hiL := hX.le
    rw [HL.out] at hiL
    clear hX
    by_cases hlt : i < L
    · have zl : (i : Int) < (L : Int) := by omega
      obtain ⟨b, hb0⟩ : ∃ b, bs[i]? = some b := ⟨_, List.getElem?_eq_getElem (by rw [HL.out]; exact hlt)⟩
      have HRS := Lib.hid (show bs.drop i = b :: bs.drop (i + 1) from by
        obtain ⟨hk', rfl⟩ := List.getElem?_eq_some_iff.1 hb0
        exact List.drop_eq_getElem_cons hk')
      have hb256 : b < 256 := HB.out b (List.mem_of_getElem? hb0)
      obtain ⟨g, o, c', he, hlc, hc⟩ := HCAP.out (by rw [HL.out]; omega)
      rw [HL.out] at he hlc
      injection he with he1 he2 he3
      subst he1 he3
      have HC := Lib.hid (fun w' (ho : Only (fun _ => False) wr w') j hj => ((only_more HX.out.pure ho).cell (World.block_lt_of_cell? _ _ (hc j hj)) (by simp)).trans (hc j hj))
      have q0 := HC.out wr (Only.refl _ _) i (by rw [HL.out]; exact hlt)
      rw [(List.getElem?_eq_some_iff.1 hb0).2] at q0
      have e8 : IntKind.i64.wrap (b : Int) = (b : Int) := IntWalk.i64_in _ (by omega)
      have EQ := Lib.hid HX.out.eq
      have HDN2 := Lib.hid HX.out.len
      have HI1 := Lib.hid (show i + 1 ≤ bs.length from by rw [HL.out]; omega)
      clear hc hb0
      by_cases hb0 : b = 0
      · have ez : ((b : Int) == 0) = true := by simp [hb0]
        have HPD := Lib.hid (exs_pad HRS.out hb0 EQ.out)
        clear hb0
        go_wp2
        refine ⟨⟨i + 1, done, vs, by go_num, HI1.out, HX.out.els, HX.out.pure, HPD.out, by have := HDN2.out; omega⟩, ?_⟩
        simp [intOf]
        omega
      · have ez : ((b : Int) == 0) = false := by simp; omega
        cases one
        · by_cases hs1 : L = i + 1
          · have HSH := Lib.hid (exs_short HRS.out (kind_last hb0 (by rw [HL.out]; omega)) EQ.out)
            have zl2 : (L : Int) ≤ (i : Int) + 1 := by omega
            clear hs1
            go_wp2_with (go_at_call 60; refine (H1.out _).mono ?_; rintro e w1 ⟨rfl, rfl⟩)
            go_ret2
            exact ⟨HX.out.pure, .inl ⟨by rw [HSH.out]; decide, by rw [HSH.out]; rfl⟩⟩
          · have hs2 : i + 1 < L := by omega
            obtain ⟨m, hm0⟩ : ∃ m, bs[i + 1]? = some m := ⟨_, List.getElem?_eq_getElem (by rw [HL.out]; exact hs2)⟩
            have hm256 : m < 256 := HB.out m (List.mem_of_getElem? hm0)
            have q1 := HC.out wr (Only.refl _ _) (i + 1) (by rw [HL.out]; exact hs2)
            rw [(List.getElem?_eq_some_iff.1 hm0).2] at q1
            have HR1 := Lib.hid (show bs.drop (i + 1) = m :: bs.drop (i + 2) from by
              obtain ⟨hk', rfl⟩ := List.getElem?_eq_some_iff.1 hm0
              exact List.drop_eq_getElem_cons hk')
            have e9 : IntKind.i64.wrap (m : Int) = (m : Int) := IntWalk.i64_in _ (by omega)
            have zl2 : ¬ (L : Int) ≤ (i : Int) + 1 := by omega
            have zl3 : (i : Int) + 1 < (L : Int) := by omega
            clear hm0
            go_upto_region 22 with (go_at_call 60; refine (H1.out _).mono ?_; rintro e w1 ⟨rfl, rfl⟩)
            clear q0 q1
            by_cases hsh : L < i + 2 + m
            · have HSH := Lib.hid (exs_short HRS.out (kind_short hb0 HR1.out (by rw [HL.out]; omega)) EQ.out)
              have zg : (L : Int) < (i : Int) + 2 + (m : Int) := by omega
              clear hsh
              go_wp2
              go_ret2
              exact ⟨HX.out.pure, .inl ⟨by rw [HSH.out]; decide, by rw [HSH.out]; rfl⟩⟩
            · have HGO := Lib.hid (exs_go (j := i + 2 + m) HRS.out (kind_two hb0 HR1.out (by rw [HL.out]; omega)) (by rw [HR1.out]; unfold exLen; simp; omega) EQ.out)
              have zg : ¬ (L : Int) < (i : Int) + 2 + (m : Int) := by omega
              have y1 : ((i : Int) + 2).toNat = i + 2 := by omega
              have y2 : ((i : Int) + 2 + (m : Int)).toNat = i + 2 + m := by omega
              have y3 : i + 2 + m - (i + 2) = m := by omega
              have y4 : (i : Int) + 2 ≤ (i : Int) + 2 + (m : Int) := by omega
              have y4' : i + 2 ≤ i + 2 + m := by omega
              have y5 : (i : Int) + 2 + (m : Int) ≤ (c : Int) := by omega
              have y5' : i + 2 + m ≤ c := by omega
              have y6 : (0 : Int) ≤ (i : Int) + 2 := by omega
              have y7 : IntKind.i64.wrap ((i : Int) + 2) = (i : Int) + 2 := IntWalk.i64_in _ (by omega)
              have y8 : IntKind.i64.wrap ((i : Int) + 2 + (m : Int)) = (i : Int) + 2 + (m : Int) := IntWalk.i64_in _ (by omega)
              have y9 : IntKind.u8.wrap ((b : Int)) = (b : Int) := by rw [IntKind.wrap_u8]; omega
              have HJ2 := Lib.hid (show i + 2 + m ≤ bs.length from by rw [HL.out]; omega)
              obtain ⟨dat, hdat⟩ : ∃ d, (bs.drop (i + 2)).take m = d := ⟨_, rfl⟩
              have HDL := Lib.hid (show dat.length = m from by rw [← hdat, List.length_take, List.length_drop, HL.out]; omega)
              obtain ⟨a0, ha0, hsr0⟩ : ∃ a0 : Addr, (if c = i + 2 then some (⟨g, o, none⟩ : Addr) else some ⟨g, o + (i + 2), none⟩) = some a0 ∧ Src wr (.slice (some a0) m (c - (i + 2))) dat := by
                by_cases hck : c = i + 2
                · exact ⟨_, if_pos hck, src_nil rfl (by omega) (List.eq_nil_of_length_eq_zero (by have := HDL.out; omega))⟩
                · refine ⟨_, if_neg hck, ?_⟩
                  rw [← hdat]
                  exact src_cut (c := 0) (i + 2) m (HC.out wr (Only.refl _ _)) (by rw [HL.out]; omega) rfl (by omega)
              have SR0 := Lib.hid hsr0
              have HNX := Lib.hid (show exP false bs = ((exP false (bs.drop (i + 2 + m))).1, (done ++ [⟨b, dat⟩]) ++ (exP false (bs.drop (i + 2 + m))).2) from by
                have h := HGO.out
                rw [HR1.out] at h
                rw [← hdat]
                exact h)
              have ROW := Lib.hid HX.out.els.row
              have SZW := Lib.hid (show B ≤ wr.heap.size from by rw [HBW.out]; exact HX.out.pure.size)
              have HLOW := Lib.hid (show ∀ a ∈ vs, ∀ k, a.ownBlock = some k → k < wr.heap.size from HX.out.els.bods.low)
              have LX := Lib.hid (show (List.zipWith El.lst done vs).length ≤ 100000 from by rw [HX.out.els.zip]; have := HDN2.out; omega)
              clear hsr0 hsh hdat HGO HC
              go_wp2_with (first
                | (at_builtin; refine wpList_acc_src (w0 := wr) rfl _ _ rfl (acc_nil wr) rfl _ dat rfl SR0.out (by have := HDL.out; simp; omega) ?_; intro v1 w1 ha1 ho1; obtain ⟨A1, k1, rfl⟩ := ha1.slice; have HA1 := Lib.hid ha1; have HO1 := Lib.hid (show Only (fun _ => False) wr w1 from ha1.pure); have ROW1 := Lib.hid (ROW.out.only ha1.pure (by simp)); have SZ1 := Lib.hid (Nat.le_trans SZW.out ha1.pure.size); clear ha1 ho1)
                | (at_builtin; refine wpList_append_el sty_re _ rfl _ _ rfl B (.slice Al done.length cl) (List.zipWith El.lst done vs) ⟨b, dat⟩ _ ⟨_, _, _, rfl⟩ rfl ROW1.out rfl LX.out (by decide) SZ1.out ?_; intro v7 w7 hr7 hp7))
              have E7 := Lib.hid (els_next (T := 101) (by decide) (x := ⟨b, dat⟩) (HX.out.els.pure HO1.out) HLOW.out SZW.out HA1.out.own hr7 hp7)
              refine ⟨⟨i + 2 + m, done ++ [⟨b, dat⟩], vs ++ [_], by go_num, HJ2.out, E7.out, (only_more HX.out.pure HO1.out).trans hp7 (fun i hi e => by have := (ROW.out.1.lt i e).1; have := HBW.out; omega), HNX.out, by rw [List.length_append]; have := HDN2.out; simp; omega⟩, ?_⟩
              simp [intOf]
              omega
        · obtain ⟨d, hd⟩ : ∃ d, b / 16 = d := ⟨_, rfl⟩
          obtain ⟨n, hn⟩ : ∃ n, b % 16 + 1 = n := ⟨_, rfl⟩
          have ed : (b : Int) / 16 = (d : Int) := by omega
          have er : (b : Int) % 16 + 1 = (n : Int) := by omega
          have hn16 : n < 17 := by omega
          have hd16 : d < 16 := by omega
          go_upto_region 15 with (go_at_call 60; refine (H1.out _).mono ?_; rintro e w1 ⟨rfl, rfl⟩)
          clear q0
          by_cases h15 : d = 15
          · have HSH := Lib.hid (exs_end HRS.out hb0 (by omega) EQ.out)
            have z15 : ((d : Int) == 15) = true := by simp; omega
            clear h15 hd hn
            go_wp2
            go_ret2
            rw [HSH.out]
            exact ⟨HX.out.pure, .inr ⟨rfl, _, vs, rfl, by rw [← HBW.out]; exact HX.out.els⟩⟩
          have z15 : ((d : Int) == 15) = false := by simp; omega
          by_cases h0 : d = 0
          · have HSH := Lib.hid (exs_bad HRS.out hb0 (by omega) EQ.out)
            have z0 : ((d : Int) == 0) = true := by simp; omega
            clear h15 hd hn h0
            go_wp2
            go_ret2
            exact ⟨HX.out.pure, .inl ⟨by rw [HSH.out]; decide, by rw [HSH.out]; rfl⟩⟩
          have z0 : ((d : Int) == 0) = false := by simp; omega
          go_upto_region 22 with (fail)
          by_cases hsh : L < i + 1 + n
          · have HSH := Lib.hid (exs_short HRS.out (kind_end hb0 (by omega) (by omega) (by rw [HL.out]; omega)) EQ.out)
            have zg : (L : Int) < (i : Int) + 1 + (n : Int) := by omega
            clear hsh
            go_wp2
            go_ret2
            exact ⟨HX.out.pure, .inl ⟨by rw [HSH.out]; decide, by rw [HSH.out]; rfl⟩⟩
          · have HGO := Lib.hid (exs_go (j := i + 1 + n) HRS.out (kind_one hb0 (by omega) (by omega) (by rw [HL.out]; omega)) (by unfold exLen; simp; omega) EQ.out)
            have zg : ¬ (L : Int) < (i : Int) + 1 + (n : Int) := by omega
            have y1 : ((i : Int) + 1).toNat = i + 1 := by omega
            have y2 : ((i : Int) + 1 + (n : Int)).toNat = i + 1 + n := by omega
            have y3 : i + 1 + n - (i + 1) = n := by omega
            have y4 : (i : Int) + 1 ≤ (i : Int) + 1 + (n : Int) := by omega
            have y4' : i + 1 ≤ i + 1 + n := by omega
            have y5 : (i : Int) + 1 + (n : Int) ≤ (c : Int) := by omega
            have y5' : i + 1 + n ≤ c := by omega
            have y6 : (0 : Int) ≤ (i : Int) + 1 := by omega
            have y7 : IntKind.i64.wrap ((i : Int) + 1) = (i : Int) + 1 := IntWalk.i64_in _ (by omega)
            have y8 : IntKind.i64.wrap ((i : Int) + 1 + (n : Int)) = (i : Int) + 1 + (n : Int) := IntWalk.i64_in _ (by omega)
            have y9 : IntKind.u8.wrap ((d : Int)) = (d : Int) := by rw [IntKind.wrap_u8]; omega
            have HJ2 := Lib.hid (show i + 1 + n ≤ bs.length from by rw [HL.out]; omega)
            obtain ⟨dat, hdat⟩ : ∃ d, (bs.drop (i + 1)).take n = d := ⟨_, rfl⟩
            have HDL := Lib.hid (show dat.length = n from by rw [← hdat, List.length_take, List.length_drop, HL.out]; omega)
            have hck : c ≠ i + 1 := by omega
            have hsr0 : Src wr (.slice (some ⟨g, o + (i + 1), none⟩) n (c - (i + 1))) dat := by
              rw [← hdat]
              exact src_cut (c := 0) (i + 1) n (HC.out wr (Only.refl _ _)) (by rw [HL.out]; omega) rfl (by omega)
            have SR0 := Lib.hid hsr0
            have HNX := Lib.hid (show exP true bs = ((exP true (bs.drop (i + 1 + n))).1, (done ++ [⟨d, dat⟩]) ++ (exP true (bs.drop (i + 1 + n))).2) from by
              have h := HGO.out
              rw [← hdat, ← hd, ← hn]
              rw [← hn] at h
              exact h)
            have ROW := Lib.hid HX.out.els.row
            have SZW := Lib.hid (show B ≤ wr.heap.size from by rw [HBW.out]; exact HX.out.pure.size)
            have HLOW := Lib.hid (show ∀ a ∈ vs, ∀ k, a.ownBlock = some k → k < wr.heap.size from HX.out.els.bods.low)
            have LX := Lib.hid (show (List.zipWith El.lst done vs).length ≤ 100000 from by rw [HX.out.els.zip]; have := HDN2.out; omega)
            clear hsr0 hsh hdat HGO HC
            go_wp2_with (first
              | (at_builtin; refine wpList_acc_src (w0 := wr) rfl _ _ rfl (acc_nil wr) rfl _ dat rfl SR0.out (by have := HDL.out; simp; omega) ?_; intro v1 w1 ha1 ho1; obtain ⟨A1, k1, rfl⟩ := ha1.slice; have HA1 := Lib.hid ha1; have HO1 := Lib.hid (show Only (fun _ => False) wr w1 from ha1.pure); have ROW1 := Lib.hid (ROW.out.only ha1.pure (by simp)); have SZ1 := Lib.hid (Nat.le_trans SZW.out ha1.pure.size); clear ha1 ho1)
              | (at_builtin; refine wpList_append_el sty_re _ rfl _ _ rfl B (.slice Al done.length cl) (List.zipWith El.lst done vs) ⟨d, dat⟩ _ ⟨_, _, _, rfl⟩ rfl ROW1.out rfl LX.out (by decide) SZ1.out ?_; intro v7 w7 hr7 hp7))
            have E7 := Lib.hid (els_next (T := 101) (by decide) (x := ⟨d, dat⟩) (HX.out.els.pure HO1.out) HLOW.out SZW.out HA1.out.own hr7 hp7)
            refine ⟨⟨i + 1 + n, done ++ [⟨d, dat⟩], vs ++ [_], by go_num, HJ2.out, E7.out, (only_more HX.out.pure HO1.out).trans hp7 (fun i hi e => by have := (ROW.out.1.lt i e).1; have := HBW.out; omega), HNX.out, by rw [List.length_append]; have := HDN2.out; simp; omega⟩, ?_⟩
            simp [intOf]
            omega
    · obtain rfl : i = L := by omega
      have hfull : bs.drop i = [] := List.drop_eq_nil_of_le (by rw [HL.out]; exact Nat.le_refl _)
      have HEND := Lib.hid (show exP one bs = (0, done) from by
        have := HX.out.eq
        rw [hfull, exP_nil] at this
        rw [this]
        simp)
      go_wp2
      go_ret2
      rw [HEND.out]
      exact ⟨HX.out.pure, .inr ⟨rfl, _, vs, rfl, by rw [← HBW.out]; exact HX.out.els⟩⟩
theorem rpar_any (p : Nat) (v : Value) (bs : List Nat) (w : World) (hs : Src w v bs) (hb : ∀ x ∈ bs, x < 256) (hl : bs.length ≤ 100000) :
    Calls Try.prog 24 #[.int .u16 p, v] w (ExParEnd 101 (parR p bs) w) := by
  by_cases hf : formB p = 0
  · have e : parR p bs = (30, []) := by unfold parR; rw [if_pos hf]
    obtain ⟨A, c, h⟩ := hs.slice
    refine (rpar_none p v w ⟨A, _, c, h⟩ hf).mono ?_
    rintro e' w' ⟨rfl, rfl⟩
    rw [e]
    exact ⟨Only.refl _ _, .inl ⟨by decide, rfl⟩⟩
  · by_cases h4 : bs.length % 4 = 0
    · have e : parR p bs = exP (formB p == 1) bs := by unfold parR; rw [if_neg hf, if_neg (by omega)]
      rw [e]
      exact rpar_good _ p v bs w hs hb hf rfl hl h4
    · have e : parR p bs = (3, []) := by unfold parR; rw [if_neg hf, if_pos h4]
      refine (rpar_odd p v bs w hs hf (by omega) h4).mono ?_
      rintro e' w' ⟨rfl, rfl⟩
      rw [e]
      exact ⟨Only.refl _ _, .inl ⟨by decide, rfl⟩⟩
end Go.Proofs.Ytcgfmjdlningpaa
