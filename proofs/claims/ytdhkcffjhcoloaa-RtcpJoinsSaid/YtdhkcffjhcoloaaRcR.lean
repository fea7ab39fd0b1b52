/- RtcpBack: its walk. Conditions: as it says. -/
import Derived.Test.YtdhkcffjhcoloaaRcQ
import Derived.Test.YtdhkcffjhcoloaaReg
set_option linter.unusedVariables false
namespace Go.Proofs.Ytdhkcffjhcoloaa
open Go.RowKit

theorem lastPad_at : ∀ (l : List Pkt), l ≠ [] → ∃ p, l[l.length - 1]? = some p ∧ p.pad = lastPad l
  | [], h => absurd rfl h
  | [p], _ => ⟨p, rfl, rfl⟩
  | p :: q :: l, _ => by
    obtain ⟨x, h1, h2⟩ := lastPad_at (q :: l) (by simp)
    exact ⟨x, by simpa using h1, h2⟩
theorem enc_bytes {p : Pkt} (h : p.ok = true) (hf : p.Fit) : ∀ x ∈ p.enc, x < 256 := by
  obtain ⟨h1, h2, h3, h4⟩ := ok_parts h
  intro x hx
  have e := enc_form p []
  rw [List.append_nil, List.append_nil] at e
  rw [e] at hx
  rcases List.mem_cons.1 hx with rfl | hx
  · split <;> omega
  rcases List.mem_cons.1 hx with rfl | hx
  · exact hf.kind
  rcases List.mem_cons.1 hx with rfl | hx
  · omega
  rcases List.mem_cons.1 hx with rfl | hx
  · omega
  rcases List.mem_append.1 hx with hx | hx
  · exact hf.bytes x hx
  · unfold Pkt.tail at hx
    split at hx
    · cases hx
    · rcases List.mem_append.1 hx with hx | hx
      · rw [(List.mem_replicate.1 hx).2]; omega
      · rw [List.mem_singleton.1 hx]; exact hf.pad
theorem encs_bytes {l : List Pkt} (h : ∀ p ∈ l, p.ok = true) (hf : ∀ p ∈ l, p.Fit) : ∀ x ∈ encs l, x < 256 := by
  intro x hx
  obtain ⟨p, hp, hx⟩ := List.mem_flatMap.1 hx
  exact enc_bytes (h p hp) (hf p hp) x hx
theorem encs_few : ∀ (l : List Pkt) (m : Nat), (∀ p ∈ l, p.body.length ≤ m ∧ p.pad < 256) → (encs l).length ≤ (m + 260) * l.length
  | [], m, _ => by simp [encs]
  | p :: l, m, h => by
    have ih := encs_few l m (fun q hq => h q (by simp [hq]))
    have hp := h p (by simp)
    have e : encs (p :: l) = p.enc ++ encs l := by simp [encs]
    rw [e, List.length_append, enc_len, List.length_cons, Nat.mul_succ]
    omega
theorem joinErr_zero {l : List Pkt} (h : joinErr l = 0) : joinBad l = false ∧ l ≠ [] ∧ ((l.headD ⟨0, 0, 0, []⟩).kind == 200 || (l.headD ⟨0, 0, 0, []⟩).kind == 201) = true := by
  unfold joinErr at h
  split at h
  · cases h
  · rename_i hn
    split at h
    · rename_i hk
      refine ⟨by cases hb : joinBad l; rfl; exact absurd (.inl hb) hn, fun e => hn (.inr (by rw [e]; rfl)), hk⟩
    · cases h
theorem joinErr_of {bs : List Nat} {l : List Pkt} (h : Backs true bs l) : joinErr l = 0 := by
  obtain ⟨h1, h2⟩ := h.head rfl
  unfold joinErr
  rw [if_neg, if_pos h2]
  rintro (h3 | h3)
  · rw [h.bad] at h3; cases h3
  · exact h1 (List.eq_nil_of_length_eq_zero h3)

/-- What is joined is split as it was. -/
theorem split_encs (l : List Pkt) (h : joinErr l = 0) : spl true (encs l) = (0, l) := by
  obtain ⟨h1, h2, h3⟩ := joinErr_zero h
  exact spl_encs l true h1 (fun _ => ⟨h2, h3⟩)

set_option maxRecDepth 100000 in
set_option maxHeartbeats 8000000 in
theorem back_any (v vb : Value) (l : List Pkt) (bs : List Nat) (w : World) (hr : RdP w v l) (hf : ∀ p ∈ l, p.Fit) (hl : l.length ≤ 9223372036854775807) (hs : Src w vb bs) (hb : ∀ x ∈ bs, x < 256) :
    Calls Try.prog 6 #[v, vb] w fun e w' => e = .returned (.bool true) ∧ Only (fun _ => False) w w' := by
  have HFW := Lib.hid (few_is v l w hr hl)
  have HR := Lib.hid hr
  have HF := Lib.hid hf
  have HS := Lib.hid hs
  have HB := Lib.hid hb
  have HWK := Lib.hid (fun w => works_any w)
  obtain ⟨Ab, cb, rfl⟩ := hs.slice
  obtain ⟨Al, cl, rfl, -, -⟩ := hr
  clear hf hl hs hb
  obtain ⟨fw, hfw⟩ : ∃ b, fewB l = b := ⟨_, rfl⟩
  have HFB := Lib.hid hfw
  rw [hfw] at HFW
  clear hfw
  go_enter Try.func6, Try.ntmps6
  go_wp2_with fail
  refine HFW.out.mono ?_
  rintro e w0 ⟨rfl, rfl⟩
  cases fw
  · go_wp2_with fail
    refine (HWK.out _).mono ?_
    rintro e w1 ⟨rfl, ho1⟩
    have O1 := Lib.hid ho1
    clear ho1
    go_wp2
    go_ret
    exact ⟨rfl, O1.out⟩
  · have hfew := HFB.out
    unfold fewB at hfew
    simp only [Bool.and_eq_true, decide_eq_true_eq] at hfew
    have HFE := Lib.hid hfew
    clear hfew
    by_cases hbl : 2000 < bs.length
    · have zl : decide ((2000 : Int) < (bs.length : Int)) = true := decide_eq_true (by omega)
      clear hbl
      go_wp2_with fail
      refine (HWK.out _).mono ?_
      rintro e w1 ⟨rfl, ho1⟩
      have O1 := Lib.hid ho1
      clear ho1
      go_wp2
      go_ret
      exact ⟨rfl, O1.out⟩
    · have zl : decide ((2000 : Int) < (bs.length : Int)) = false := decide_eq_false (by omega)
      have hbl' : bs.length ≤ 2000 := by omega
      have HBL := Lib.hid hbl'
      clear hbl
      have HEL := Lib.hid (show (encs l).length ≤ 20000 from by
        have h1 := encs_few l 800 (fun p hp => ⟨HFE.out.1 p hp, (HF.out p hp).pad⟩)
        have h2 := HFE.out.2
        have h3 : (800 + 260) * l.length ≤ (800 + 260) * 10 := Nat.mul_le_mul_left _ h2
        omega)
      have HJ := Lib.hid (join_is _ l w HR.out HF.out (by have := HFE.out.2; omega) (fun p hp => by have := HFE.out.1 p hp; omega) (fun _ => by have := HEL.out; omega))
      go_wp2_with fail
      refine HJ.out.mono ?_
      rintro e w1 ⟨ho1, hje⟩
      have O1 := Lib.hid ho1
      have HJE : ∃ A n c, e = .returned (.tuple #[.slice A n c, .int .i64 (joinErr l : Nat)]) ∧ (joinErr l = 0 → Src w1 (.slice A n c) (encs l)) := by
        rcases hje with ⟨h0, rfl⟩ | ⟨h0, v5, rfl, hv5⟩
        · exact ⟨none, 0, 0, rfl, fun h => absurd h h0⟩
        · obtain ⟨A5, c5, rfl, -⟩ := own_slice hv5
          exact ⟨A5, _, c5, by rw [h0]; rfl, fun _ => Src.of_own hv5⟩
      obtain ⟨A1, n1, c1, rfl, hsrc⟩ := HJE
      have S1 := Lib.hid hsrc
      clear hje hsrc ho1 HJ
      go_upto_if 31 with (fail)
      go_cut [] (fun wx => Only (fun _ => False) w wx)
      case first =>
        by_cases h0 : joinErr l = 0
        · have z0 : (((joinErr l : Nat) : Int) == 0) = true := by rw [beq_iff_eq]; omega
          have HSP := Lib.hid (split_encs l h0)
          have HS1 := Lib.hid (S1.out h0)
          obtain ⟨hj1, -, -⟩ := joinErr_zero h0
          have HOKS := Lib.hid (joinBad_ok hj1)
          clear h0 hj1
          go_wp2_with fail
          refine (split_is _ (encs l) w1 HS1.out (encs_bytes HOKS.out HF.out) (by have := HEL.out; omega)).mono ?_
          rw [HSP.out]
          rintro e w2 ⟨ho2, ⟨h, _⟩ | ⟨_, v2, vs2, rfl, hp2⟩⟩
          · exact absurd rfl h
          simp only at hp2
          have R2 := Lib.hid hp2.rd
          obtain ⟨A2, c2, rfl, -⟩ := hp2.slice
          have O2 := Lib.hid (only_more O1.out ho2)
          clear hp2 ho2
          go_wp2_with fail
          refine (docs_rtcps _ l w2 (HR.out.only O2.out) (by have := HFE.out.2; omega) (fun p hp => by have := HFE.out.1 p hp; omega)).mono ?_
          rintro e w3 ⟨v3, vs3, rfl, hp3, ho3⟩
          have R3 := Lib.hid hp3.rd
          obtain ⟨A3, c3, rfl, -⟩ := hp3.slice
          have O3 := Lib.hid ho3
          clear hp3 ho3
          go_wp2_with fail
          refine (docs_same _ _ l w3 (R2.out.only O3.out) R3.out (by have := HFE.out.2; omega) (fun p hp => by have := HFE.out.1 p hp; omega)).mono ?_
          rintro e w4 ⟨rfl, ho4⟩
          have O4 := Lib.hid (only_more O2.out (only_more O3.out ho4))
          clear ho4
          go_wp2_with fail
          go_meet
          exact O4.out
        · have z0 : (((joinErr l : Nat) : Int) == 0) = false := by rw [beq_eq_false_iff_ne]; omega
          clear h0
          go_wp2_with fail
          go_meet
          exact O1.out
      case rest =>
        have O2 := Lib.hid hcut
        generalize wc = w2 at *
        clear hcut S1 O1
        have HSP := Lib.hid (split_is _ bs w2 (HS.out.of_only O2.out) HB.out (by have := HBL.out; omega))
        go_wp2_with fail
        refine HSP.out.mono ?_
        rintro e w3 ⟨ho3, ⟨h, rfl⟩ | ⟨h0, v3, vs3, rfl, hp3⟩⟩
        · have O3 := Lib.hid (only_more O2.out ho3)
          obtain ⟨er, her⟩ : ∃ er, (spl true bs).1 = er := ⟨_, rfl⟩
          rw [her] at h ⊢
          have z0 : ((er : Int) != 0) = true := by simp; omega
          clear h ho3 her
          go_wp2_with fail
          refine (HWK.out _).mono ?_
          rintro e w4 ⟨rfl, ho4⟩
          have O4 := Lib.hid (only_more O3.out ho4)
          clear ho4
          go_wp2
          go_ret
          exact ⟨rfl, O4.out⟩
        · have BK := Lib.hid (spl_back _ true bs rfl HB.out h0)
          have SM := Lib.hid (spl_small _ true bs rfl)
          generalize (spl true bs).2 = M at *
          have R3 := Lib.hid hp3.rd
          obtain ⟨A3, c3, rfl, -⟩ := hp3.slice
          have O3 := Lib.hid (only_more O2.out ho3)
          have HLM := Lib.hid (show (encs M).length = bs.length from by rw [BK.out.enc, shown_len BK.out.le])
          have hML : M.length ≤ 500 := by have := SM.out.1; have := HBL.out; omega
          have hM0 : 0 < M.length := by
            rcases Nat.eq_zero_or_pos M.length with h | h
            · exact absurd (List.eq_nil_of_length_eq_zero h) (BK.out.head rfl).1
            · exact h
          have HJ2 := Lib.hid (join_is _ M w3 R3.out BK.out.fit (by omega) (fun p hp => by have := SM.out.2 p hp; have := HBL.out; omega) (fun _ => by have := HLM.out; have := HBL.out; omega))
          clear hp3 ho3 h0 HSP
          go_wp2_with fail
          refine HJ2.out.mono ?_
          rintro e w4 ⟨ho4, ⟨h, _⟩ | ⟨_, v4, rfl, hv4⟩⟩
          · exact absurd (joinErr_of BK.out) h
          rw [HLM.out] at hv4
          have S4 := Lib.hid (show Src w4 v4 (encs M) from by
            have h := hv4
            rw [← HLM.out] at h
            exact Src.of_own h)
          obtain ⟨A4, c4, rfl, -⟩ := own_slice hv4
          have O4 := Lib.hid (only_more O3.out ho4)
          have R4 := Lib.hid (R3.out.only ho4)
          have SB4 := Lib.hid (HS.out.of_only O4.out)
          clear hv4 ho4 HJ2
          obtain ⟨n, hn⟩ : ∃ n, bs.length = n := ⟨_, rfl⟩
          have HN := Lib.hid hn
          rw [hn] at hbl'
          rw [hn]
          have h0n : 1 ≤ n := by
            rcases Nat.eq_zero_or_pos n with h | h
            · have h1 := lastPad_at M (BK.out.head rfl).1
              have h2 := HLM.out
              obtain ⟨p, hp, -⟩ := h1
              have h3 : p ∈ M := List.mem_of_getElem? hp
              have h4 := enc_len p
              have h5 : p.enc.length ≤ (encs M).length := by
                unfold encs
                have : List.Sublist p.enc (M.flatMap Pkt.enc) := by
                  obtain ⟨a, b, e⟩ := List.append_of_mem h3
                  rw [e, List.flatMap_append, List.flatMap_cons]
                  exact List.Sublist.trans (List.sublist_append_left _ _) (List.sublist_append_right _ _)
                exact this.length_le
              omega
            · exact h
          obtain ⟨pl, hpl, hpd⟩ := lastPad_at M (BK.out.head rfl).1
          have HLE := Lib.hid (show lastPad M ≤ n from by rw [← hn]; exact BK.out.le)
          obtain ⟨bd, hbd⟩ : ∃ bd, n - lastPad M = bd := ⟨_, rfl⟩
          have HBD := Lib.hid hbd
          obtain ⟨AM, cM, eM, -, hcM⟩ := R4.out
          injection eM with eM1 eM2 eM3
          subst eM1
          clear eM2 eM3
          obtain ⟨gm, om, rfl, hcm⟩ := hcM hM0
          have HCM := Lib.hid hcm
          obtain ⟨ul, ⟨-, -, -, ql⟩, -⟩ := hcm _ pl hpl
          have hml : IntKind.i64.wrap ((M.length : Int) - 1) = (M.length : Int) - 1 := IntWalk.i64_in _ (by omega)
          have x1 : M.length - 1 < M.length := by omega
          have x2 : (M.length : Int) - 1 < (M.length : Int) := by omega
          have x3 : (0 : Int) ≤ (M.length : Int) - 1 := by omega
          have x4 : ((M.length : Int) - 1).toNat = M.length - 1 := by omega
          have zM : ((M.length : Int) == 0) = false := by rw [beq_eq_false_iff_ne]; omega
          have HM0 := Lib.hid hM0
          have HH := Lib.hid (show ((n : Int) - (pl.pad : Int)) = (bd : Int) from by have := HLE.out; have := HBD.out; rw [hpd]; omega)
          have hle2 : pl.pad ≤ n := by rw [hpd]; exact HLE.out
          clear hcm hcM hpl hpd hM0 hn
          clear hbd
          go_upto_region 15 with (fail)
          clear hml x1 x2 x3 x4 zM ql
          go_wp2
          go_loopw [14] (fun s14 wr => ∃ i : Nat, i ≤ n ∧ s14 = .int .i64 i ∧ Only (fun _ => False) w4 wr) (fun s14 _ => n - (intOf s14).toNat)
          case atStart => exact ⟨0, by omega, rfl, Only.refl _ _⟩
          case round =>
            obtain ⟨i, hi, rfl, ho⟩ := hrel
            have OI := Lib.hid ho
            clear ho
            by_cases hin : i < n
            · obtain ⟨gd, od, cd, ed, -, hd⟩ := (S4.out).cap (by rw [HLM.out, HN.out]; omega)
              injection ed with ed1 ed2 ed3
              subst ed1
              clear ed2 ed3
              obtain ⟨gb, ob, cb', eb, -, hbq⟩ := (SB4.out).cap (by rw [HN.out]; omega)
              injection eb with eb1 eb2 eb3
              subst eb1
              clear eb2 eb3
              have hid := hd i (by rw [HLM.out, HN.out]; exact hin)
              have hib := hbq i (by rw [HN.out]; exact hin)
              rw [← bt_get (by rw [HLM.out, HN.out]; exact hin)] at hid
              rw [← bt_get (by rw [HN.out]; exact hin), ] at hib
              rw [BK.out.enc, shown_at BK.out.le BK.out.last (by rw [HN.out]; exact hin), HN.out, HBD.out] at hid
              have QB := Lib.hid ((OI.out.cell (World.block_lt_of_cell? w4 _ hib) (by simp)).trans hib)
              have QD0 := Lib.hid ((OI.out.cell (World.block_lt_of_cell? w4 _ hid) (by simp)).trans hid)
              generalize bt bs i = y at *
              clear hd hbq hid hib
              have hinI : (i : Int) < (n : Int) := by omega
              have hn1 : IntKind.i64.wrap ((n : Int) - 1) = (n : Int) - 1 := IntWalk.i64_in _ (by omega)
              obtain ⟨pf, hpf⟩ : ∃ b, decide (bd ≤ i ∧ i < n - 1) = b := ⟨_, rfl⟩
              have HPF0 := Lib.hid hpf
              clear hpf
              go_upto_region 18 with (fail)
              go_cut [15] (fun s15 wx => s15 = .bool pf ∧ wx = wr)
              case first =>
                by_cases h1 : bd ≤ i
                · have z1 : decide ((n : Int) - (pl.pad : Int) ≤ (i : Int)) = true := decide_eq_true (by have := HH.out; omega)
                  by_cases h2 : i < n - 1
                  · have z2 : decide ((i : Int) < (n : Int) - 1) = true := decide_eq_true (by omega)
                    have hp : pf = true := by rw [← HPF0.out]; exact decide_eq_true ⟨h1, h2⟩
                    clear h1 h2
                    go_wp2_with fail
                    go_meet
                    exact ⟨by rw [hp], rfl⟩
                  · have z2 : decide ((i : Int) < (n : Int) - 1) = false := decide_eq_false (by omega)
                    have hp : pf = false := by rw [← HPF0.out]; exact decide_eq_false (fun h => h2 h.2)
                    clear h1 h2
                    go_wp2_with fail
                    go_meet
                    exact ⟨by rw [hp], rfl⟩
                · have z1 : decide ((n : Int) - (pl.pad : Int) ≤ (i : Int)) = false := decide_eq_false (by have := HH.out; omega)
                  have hp : pf = false := by rw [← HPF0.out]; exact decide_eq_false (fun h => h1 h.1)
                  clear h1
                  go_wp2_with fail
                  go_meet
                  exact ⟨by rw [hp], rfl⟩
              case rest =>
                obtain ⟨rfl, hwc⟩ := hcut
                subst hwc
                generalize wc = wr at *
                clear hn1
                by_cases him : i < M.length
                · obtain ⟨p, hp⟩ : ∃ p, M[i]? = some p := ⟨_, List.getElem?_eq_getElem him⟩
                  obtain ⟨u, hu1, hu2⟩ := HCM.out i p hp
                  have hmem := List.mem_of_getElem? hp
                  have HPF := Lib.hid (BK.out.fit p hmem)
                  have HPO := Lib.hid (BK.out.ok p hmem)
                  have HPL := Lib.hid (show p.body.length ≤ 1000000 from by have := SM.out.2 p hmem; have := HBL.out; omega)
                  have SU := Lib.hid (hu2.of_only OI.out)
                  have HCA := Lib.hid (fun wx (h : Only (fun _ => False) wr wx) => show wx.cell? ⟨gm, om + i * 4, none⟩ = some (.int .u8 (p.count : Nat)) ∧ wx.cell? ⟨gm, om + i * 4 + 1, none⟩ = some (.int .u8 (p.kind : Nat)) ∧ wx.cell? ⟨gm, om + i * 4 + 2, none⟩ = some u ∧ wx.cell? ⟨gm, om + i * 4 + 3, none⟩ = some (.int .u8 (p.pad : Nat)) from hu1.only (only_more OI.out h))
                  have zi : decide (i < M.length) = true := decide_eq_true him
                  have ziI : decide ((i : Int) < (M.length : Int)) = true := decide_eq_true (by omega)
                  have himI : (i : Int) < (M.length : Int) := by omega
                  clear hp hu1 hu2 hmem
                  cases pf
                  · have QD := Lib.hid (show wr.cell? ⟨gd, od + i, none⟩ = some (.int .u8 (y : Nat)) from by rw [QD0.out, if_neg (of_decide_eq_false HPF0.out)])
                    go_upto_region 19 with (fail)
                    refine wp_region_posts [[], [0], [1, 0], [2, 1, 0], [2, 1, 0], [3, 4, 2, 1, 0], [5, 2, 3, 4, 1, 0], [2, 1, 0], [2, 1, 0], [7, 8, 2, 1, 0], [9, 2, 7, 8, 1, 0], [6, 10, 2, 5, 3, 4, 1, 0, 9, 7, 8], [2, 11, 1, 0, 6, 10, 5, 3, 4, 9, 7, 8], [12, 2, 11, 1, 0, 6, 10, 5, 3, 4, 9, 7, 8], [13, 12, 2, 11, 1, 0, 6, 10, 5, 3, 4, 9, 7, 8], [14, 13, 12, 2, 11, 1, 0, 6, 10, 5, 3, 4, 9, 7, 8], [15, 14, 13, 12, 2, 11, 1, 0, 6, 10, 5, 3, 4, 9, 7, 8], [15, 14, 13, 12, 2, 11, 1, 0, 6, 10, 5, 3, 4, 9, 7, 8], [16, 17, 15, 14, 13, 12, 2, 11, 1, 0, 6, 10, 5, 3, 4, 9, 7, 8], [18, 15, 16, 17, 14, 13, 12, 2, 11, 1, 0, 6, 10, 5, 3, 4, 9, 7, 8], [19, 15, 18, 16, 17, 14, 13, 12, 2, 11, 1, 0, 6, 10, 5, 3, 4, 9, 7, 8], [15, 20, 13, 14, 12, 2, 11, 1, 0, 6, 10, 5, 3, 4, 9, 7, 8, 19, 18, 16, 17], [13, 21, 12, 2, 11, 1, 0, 6, 10, 5, 3, 4, 9, 7, 8, 15, 20, 14, 19, 18, 16, 17], [22, 15, 13, 21, 12, 2, 11, 1, 0, 6, 10, 5, 3, 4, 9, 7, 8, 20, 14, 19, 18, 16, 17], [23, 22, 15, 13, 21, 12, 2, 11, 1, 0, 6, 10, 5, 3, 4, 9, 7, 8, 20, 14, 19, 18, 16, 17], [23, 22, 15, 13, 21, 12, 2, 11, 1, 0, 6, 10, 5, 3, 4, 9, 7, 8, 20, 14, 19, 18, 16, 17], [25, 23, 22, 15, 13, 21, 12, 2, 11, 1, 0, 6, 10, 5, 3, 4, 9, 7, 8, 20, 14, 19, 18, 16, 17], [24, 26, 23, 22, 15, 13, 21, 12, 2, 11, 1, 0, 6, 10, 5, 3, 4, 9, 7, 8, 20, 14, 19, 18, 16, 17, 25], [27, 23, 24, 26, 22, 15, 13, 21, 12, 2, 11, 1, 0, 6, 10, 5, 3, 4, 9, 7, 8, 20, 14, 19, 18, 16, 17, 25], [28, 27, 23, 24, 26, 22, 15, 13, 21, 12, 2, 11, 1, 0, 6, 10, 5, 3, 4, 9, 7, 8, 20, 14, 19, 18, 16, 17, 25], [28, 27, 23, 24, 26, 22, 15, 13, 21, 12, 2, 11, 1, 0, 6, 10, 5, 3, 4, 9, 7, 8, 20, 14, 19, 18, 16, 17, 25], [29, 30, 28, 27, 23, 24, 26, 22, 15, 13, 21, 12, 2, 11, 1, 0, 6, 10, 5, 3, 4, 9, 7, 8, 20, 14, 19, 18, 16, 17, 25], [31, 28, 29, 30, 27, 23, 24, 26, 22, 15, 13, 21, 12, 2, 11, 1, 0, 6, 10, 5, 3, 4, 9, 7, 8, 20, 14, 19, 18, 16, 17, 25], [32, 28, 31, 29, 30, 27, 23, 24, 26, 22, 15, 13, 21, 12, 2, 11, 1, 0, 6, 10, 5, 3, 4, 9, 7, 8, 20, 14, 19, 18, 16, 17, 25], [33, 28, 32, 31, 29, 30, 27, 23, 24, 26, 22, 15, 13, 21, 12, 2, 11, 1, 0, 6, 10, 5, 3, 4, 9, 7, 8, 20, 14, 19, 18, 16, 17, 25], [28, 34, 23, 27, 24, 26, 22, 15, 13, 21, 12, 2, 11, 1, 0, 6, 10, 5, 3, 4, 9, 7, 8, 20, 14, 19, 18, 16, 17, 25, 33, 32, 31, 29, 30], [23, 35, 22, 15, 13, 21, 12, 2, 11, 1, 0, 6, 10, 5, 3, 4, 9, 7, 8, 20, 14, 19, 18, 16, 17, 28, 34, 27, 24, 26, 25, 33, 32, 31, 29, 30]] [33] [] [[], [], [], [], [], [], [], [], [], [], [], [], [], [], [], [], [], [], [], [], [], [], [], [], [], [], [], [], [], [], [], [], [], [], [], [], []] [[], [], [], [], [], [], [], [], [], [], [], [], [], [], [], [], [], [], [], [], [], [], [], [], [], [], [], [], [], [], [], [], [], [], [], [], []] [] [] [] []
                        [some ?va0, some ?va1, some ?va2, some ?va3, some ?va4, some ?va5, some ?va6, some ?va7, some ?va8, some ?va9, some ?va10, some ?va11, some ?va12, some ?va13, some ?va14, some ?va15, some undef, some undef, some undef, some undef, some undef, some ?va21, some ?va22, some ?va23, some ?va24, some ?va25, some ?va26, some ?va27, some ?va28, some ?va29, some ?va30, some ?va31, some (.agg #[.int .u8 (p.count : Nat), .int .u8 (p.kind : Nat), u, .int .u8 (p.pad : Nat)]), some (.bool true), some ?va34, some ?va35, some ?va36]
                        ?Ta (fun wx => (wx.cell? ⟨gd, od + i, none⟩ = some (.int .u8 (y : Nat)) ∧ wx.cell? ⟨gb, ob + i, none⟩ = some (.int .u8 (y : Nat))) ∧ Only (fun _ => False) wr wx) ?Wa ?Ea (by kernel_rfl) (by kernel_rfl) (by kernel_rfl) (fun x => ?hTa) ?hFa ?hinia (Reg.all_ops ?runsa) ?presa ?fina
                    case Wa => exact fun _ _ _ => True
                    case Ea => exact fun _ w' w'' => Only (fun _ => False) w' w''
                    case hTa =>
                      simp only [Reg.fillV, Act.put, List.setIfInBounds_toArray, List.set_cons_zero, List.set_cons_succ]
                      rfl
                    case runsa =>
                      refine And.intro ?_ ?_
                      · refine Reg.ob_pure (fun _ => rfl) rfl rfl rfl rfl (fun x w1 hF => ?_)
                        obtain ⟨⟨hqd, hqb⟩, hO⟩ := hF
                        go_simp
                        with_reducible rfl
                      refine And.intro ?_ ?_
                      · refine Reg.ob_pure (fun _ => rfl) rfl rfl rfl rfl (fun x w1 hF => ?_)
                        obtain ⟨⟨hqd, hqb⟩, hO⟩ := hF
                        go_simp
                        with_reducible rfl
                      refine And.intro ?_ ?_
                      · refine Reg.ob_pure (fun _ => rfl) rfl rfl rfl rfl (fun x w1 hF => ?_)
                        obtain ⟨⟨hqd, hqb⟩, hO⟩ := hF
                        go_simp
                        with_reducible rfl
                      refine And.intro ?_ ?_
                      · refine Reg.ob_pure (fun _ => rfl) rfl rfl rfl rfl (fun x w1 hF => ?_)
                        obtain ⟨⟨hqd, hqb⟩, hO⟩ := hF
                        go_simp
                        with_reducible rfl
                      refine And.intro ?_ ?_
                      · refine Reg.ob_pure (fun _ => rfl) rfl rfl rfl rfl (fun x w1 hF => ?_)
                        obtain ⟨⟨hqd, hqb⟩, hO⟩ := hF
                        go_simp
                        with_reducible rfl
                      refine And.intro ?_ ?_
                      · refine Reg.ob_pure (fun _ => rfl) rfl rfl rfl rfl (fun x w1 hF => ?_)
                        obtain ⟨⟨hqd, hqb⟩, hO⟩ := hF
                        go_simp
                        with_reducible rfl
                      refine And.intro ?_ ?_
                      · refine Reg.ob_pure (fun _ => rfl) rfl rfl rfl rfl (fun x w1 hF => ?_)
                        obtain ⟨⟨hqd, hqb⟩, hO⟩ := hF
                        go_simp
                        with_reducible rfl
                      refine And.intro ?_ ?_
                      · refine Reg.ob_pure (fun _ => rfl) rfl rfl rfl rfl (fun x w1 hF => ?_)
                        obtain ⟨⟨hqd, hqb⟩, hO⟩ := hF
                        go_simp
                        with_reducible rfl
                      refine And.intro ?_ ?_
                      · refine Reg.ob_pure (fun _ => rfl) rfl rfl rfl rfl (fun x w1 hF => ?_)
                        obtain ⟨⟨hqd, hqb⟩, hO⟩ := hF
                        go_simp
                        with_reducible rfl
                      refine And.intro ?_ ?_
                      · refine Reg.ob_pure (fun _ => rfl) rfl rfl rfl rfl (fun x w1 hF => ?_)
                        obtain ⟨⟨hqd, hqb⟩, hO⟩ := hF
                        go_simp
                        with_reducible rfl
                      refine And.intro ?_ ?_
                      · refine Reg.ob_pure (fun _ => rfl) rfl rfl rfl rfl (fun x w1 hF => ?_)
                        obtain ⟨⟨hqd, hqb⟩, hO⟩ := hF
                        go_simp
                        with_reducible rfl
                      refine And.intro ?_ ?_
                      · refine Reg.ob_pure (fun _ => rfl) rfl rfl rfl rfl (fun x w1 hF => ?_)
                        obtain ⟨⟨hqd, hqb⟩, hO⟩ := hF
                        go_simp
                        with_reducible rfl
                      refine And.intro ?_ ?_
                      · refine Reg.ob_pure (fun _ => rfl) rfl rfl rfl rfl (fun x w1 hF => ?_)
                        obtain ⟨⟨hqd, hqb⟩, hO⟩ := hF
                        go_simp
                        with_reducible rfl
                      refine And.intro ?_ ?_
                      · refine Reg.ob_pure (fun _ => rfl) rfl rfl rfl rfl (fun x w1 hF => ?_)
                        obtain ⟨⟨hqd, hqb⟩, hO⟩ := hF
                        go_simp
                        with_reducible rfl
                      refine And.intro ?_ ?_
                      · refine Reg.ob_pure (fun _ => rfl) rfl rfl rfl rfl (fun x w1 hF => ?_)
                        obtain ⟨⟨hqd, hqb⟩, hO⟩ := hF
                        go_simp
                        with_reducible rfl
                      refine And.intro ?_ ?_
                      · refine Reg.ob_pure (fun _ => rfl) rfl rfl rfl rfl (fun x w1 hF => ?_)
                        obtain ⟨⟨hqd, hqb⟩, hO⟩ := hF
                        go_simp
                        with_reducible rfl
                      refine And.intro ?_ ?_
                      · exact Reg.ob_skip (fun _ => rfl) rfl rfl rfl
                      refine And.intro ?_ ?_
                      · exact Reg.ob_skip (fun _ => rfl) rfl rfl rfl
                      refine And.intro ?_ ?_
                      · exact Reg.ob_skip (fun _ => rfl) rfl rfl rfl
                      refine And.intro ?_ ?_
                      · exact Reg.ob_skip (fun _ => rfl) rfl rfl rfl
                      refine And.intro ?_ ?_
                      · exact Reg.ob_skip (fun _ => rfl) rfl rfl rfl
                      refine And.intro ?_ ?_
                      · refine Reg.ob_pure (fun _ => rfl) rfl rfl rfl rfl (fun x w1 hF => ?_)
                        obtain ⟨⟨hqd, hqb⟩, hO⟩ := hF
                        go_simp
                        with_reducible rfl
                      refine And.intro ?_ ?_
                      · refine Reg.ob_pure (fun _ => rfl) rfl rfl rfl rfl (fun x w1 hF => ?_)
                        obtain ⟨⟨hqd, hqb⟩, hO⟩ := hF
                        go_simp
                        with_reducible rfl
                      refine And.intro ?_ ?_
                      · refine Reg.ob_pure (fun _ => rfl) rfl rfl rfl rfl (fun x w1 hF => ?_)
                        obtain ⟨⟨hqd, hqb⟩, hO⟩ := hF
                        go_simp
                        with_reducible rfl
                      refine And.intro ?_ ?_
                      · refine Reg.ob_pure (fun _ => rfl) rfl rfl rfl rfl (fun x w1 hF => ?_)
                        obtain ⟨⟨hqd, hqb⟩, hO⟩ := hF
                        go_simp
                        with_reducible rfl
                      refine And.intro ?_ ?_
                      · refine Reg.ob_pure (fun _ => rfl) rfl rfl rfl rfl (fun x w1 hF => ?_)
                        obtain ⟨⟨hqd, hqb⟩, hO⟩ := hF
                        go_simp
                        with_reducible rfl
                      refine And.intro ?_ ?_
                      · refine Reg.ob_pure (fun _ => rfl) rfl rfl rfl rfl (fun x w1 hF => ?_)
                        obtain ⟨⟨hqd, hqb⟩, hO⟩ := hF
                        go_simp
                        with_reducible rfl
                      refine And.intro ?_ ?_
                      · refine Reg.ob_pure (fun _ => rfl) rfl rfl rfl rfl (fun x w1 hF => ?_)
                        obtain ⟨⟨hqd, hqb⟩, hO⟩ := hF
                        go_simp
                        with_reducible rfl
                      refine And.intro ?_ ?_
                      · refine Reg.ob_pure (fun _ => rfl) rfl rfl rfl rfl (fun x w1 hF => ?_)
                        obtain ⟨⟨hqd, hqb⟩, hO⟩ := hF
                        go_simp
                        with_reducible rfl
                      refine And.intro ?_ ?_
                      · refine Reg.ob_pure (fun _ => rfl) rfl rfl rfl rfl (fun x w1 hF => ?_)
                        obtain ⟨⟨hqd, hqb⟩, hO⟩ := hF
                        go_simp
                        with_reducible rfl
                      refine And.intro ?_ ?_
                      · refine Reg.ob_pure (fun _ => rfl) rfl rfl rfl rfl (fun x w1 hF => ?_)
                        obtain ⟨⟨hqd, hqb⟩, hO⟩ := hF
                        go_simp
                        with_reducible rfl
                      refine And.intro ?_ ?_
                      · refine Reg.ob_pure (fun _ => rfl) rfl rfl rfl rfl (fun x w1 hF => ?_)
                        obtain ⟨⟨hqd, hqb⟩, hO⟩ := hF
                        go_simp
                        with_reducible rfl
                      refine And.intro ?_ ?_
                      · refine Reg.ob_pure (fun _ => rfl) rfl rfl rfl rfl (fun x w1 hF => ?_)
                        obtain ⟨-, hO⟩ := hF
                        obtain ⟨m0, m1, m2, m3⟩ := HCA.out _ hO
                        go_simp
                      refine And.intro ?_ ?_
                      · refine Reg.ob_known (fun _ => rfl) rfl rfl (fun x w1 hF hU K hK => ?_)
                        obtain ⟨⟨hqd, hqb⟩, hO⟩ := hF rfl
                        go_simp
                        refine (right_is p u w1 HPF.out (SU.out.of_only hO) HPL.out).mono ?_
                        rw [HPO.out]
                        rintro e w3 ⟨rfl, ho⟩
                        exact hK w3 (fun _ _ _ => ⟨⟨(ho.cell (World.block_lt_of_cell? w1 _ hqd) (by simp)).trans hqd, (ho.cell (World.block_lt_of_cell? w1 _ hqb) (by simp)).trans hqb⟩, only_more hO ho⟩) ho
                      refine And.intro ?_ ?_
                      · refine Reg.ob_pure (fun _ => rfl) rfl rfl rfl rfl (fun x w1 hF => ?_)
                        obtain ⟨⟨hqd, hqb⟩, hO⟩ := hF
                        go_simp
                        with_reducible rfl
                      refine And.intro ?_ ?_
                      · refine Reg.ob_pure (fun _ => rfl) rfl rfl rfl rfl (fun x w1 hF => ?_)
                        obtain ⟨⟨hqd, hqb⟩, hO⟩ := hF
                        go_simp
                        with_reducible rfl
                      refine And.intro ?_ ?_
                      · refine Reg.ob_pure (fun _ => rfl) rfl rfl rfl rfl (fun x w1 hF => ?_)
                        obtain ⟨⟨hqd, hqb⟩, hO⟩ := hF
                        go_simp
                        with_reducible rfl
                      exact trivial
                    case hFa =>
                      exact ⟨⟨QD.out, QB.out⟩, only_drewN wr 1⟩
                    case hinia =>
                      exact trivial
                    case presa =>
                      intro i hi j hj
                      cases hj
                    case fina =>
                      rintro x w9 hF -
                      obtain ⟨-, hO⟩ := hF rfl
                      go_wp2
                      exact ⟨⟨i + 1, by omega, by go_num, only_more OI.out hO⟩, by simp [intOf]; omega⟩
                  · have QD := Lib.hid (show wr.cell? ⟨gd, od + i, none⟩ = some (.int .u8 0) from by rw [QD0.out, if_pos (of_decide_eq_true HPF0.out)]; rfl)
                    go_upto_region 19 with (fail)
                    refine wp_region_posts [[], [0], [1, 0], [2, 1, 0], [2, 1, 0], [3, 4, 2, 1, 0], [5, 2, 3, 4, 1, 0], [2, 1, 0], [2, 1, 0], [7, 8, 2, 1, 0], [9, 2, 7, 8, 1, 0], [6, 10, 2, 5, 3, 4, 1, 0, 9, 7, 8], [2, 11, 1, 0, 6, 10, 5, 3, 4, 9, 7, 8], [12, 2, 11, 1, 0, 6, 10, 5, 3, 4, 9, 7, 8], [13, 12, 2, 11, 1, 0, 6, 10, 5, 3, 4, 9, 7, 8], [14, 13, 12, 2, 11, 1, 0, 6, 10, 5, 3, 4, 9, 7, 8], [15, 14, 13, 12, 2, 11, 1, 0, 6, 10, 5, 3, 4, 9, 7, 8], [15, 14, 13, 12, 2, 11, 1, 0, 6, 10, 5, 3, 4, 9, 7, 8], [16, 17, 15, 14, 13, 12, 2, 11, 1, 0, 6, 10, 5, 3, 4, 9, 7, 8], [18, 15, 16, 17, 14, 13, 12, 2, 11, 1, 0, 6, 10, 5, 3, 4, 9, 7, 8], [19, 15, 18, 16, 17, 14, 13, 12, 2, 11, 1, 0, 6, 10, 5, 3, 4, 9, 7, 8], [15, 20, 13, 14, 12, 2, 11, 1, 0, 6, 10, 5, 3, 4, 9, 7, 8, 19, 18, 16, 17], [13, 21, 12, 2, 11, 1, 0, 6, 10, 5, 3, 4, 9, 7, 8, 15, 20, 14, 19, 18, 16, 17], [22, 15, 13, 21, 12, 2, 11, 1, 0, 6, 10, 5, 3, 4, 9, 7, 8, 20, 14, 19, 18, 16, 17], [23, 22, 15, 13, 21, 12, 2, 11, 1, 0, 6, 10, 5, 3, 4, 9, 7, 8, 20, 14, 19, 18, 16, 17], [23, 22, 15, 13, 21, 12, 2, 11, 1, 0, 6, 10, 5, 3, 4, 9, 7, 8, 20, 14, 19, 18, 16, 17], [25, 23, 22, 15, 13, 21, 12, 2, 11, 1, 0, 6, 10, 5, 3, 4, 9, 7, 8, 20, 14, 19, 18, 16, 17], [24, 26, 23, 22, 15, 13, 21, 12, 2, 11, 1, 0, 6, 10, 5, 3, 4, 9, 7, 8, 20, 14, 19, 18, 16, 17, 25], [27, 23, 24, 26, 22, 15, 13, 21, 12, 2, 11, 1, 0, 6, 10, 5, 3, 4, 9, 7, 8, 20, 14, 19, 18, 16, 17, 25], [28, 27, 23, 24, 26, 22, 15, 13, 21, 12, 2, 11, 1, 0, 6, 10, 5, 3, 4, 9, 7, 8, 20, 14, 19, 18, 16, 17, 25], [28, 27, 23, 24, 26, 22, 15, 13, 21, 12, 2, 11, 1, 0, 6, 10, 5, 3, 4, 9, 7, 8, 20, 14, 19, 18, 16, 17, 25], [29, 30, 28, 27, 23, 24, 26, 22, 15, 13, 21, 12, 2, 11, 1, 0, 6, 10, 5, 3, 4, 9, 7, 8, 20, 14, 19, 18, 16, 17, 25], [31, 28, 29, 30, 27, 23, 24, 26, 22, 15, 13, 21, 12, 2, 11, 1, 0, 6, 10, 5, 3, 4, 9, 7, 8, 20, 14, 19, 18, 16, 17, 25], [32, 28, 31, 29, 30, 27, 23, 24, 26, 22, 15, 13, 21, 12, 2, 11, 1, 0, 6, 10, 5, 3, 4, 9, 7, 8, 20, 14, 19, 18, 16, 17, 25], [33, 28, 32, 31, 29, 30, 27, 23, 24, 26, 22, 15, 13, 21, 12, 2, 11, 1, 0, 6, 10, 5, 3, 4, 9, 7, 8, 20, 14, 19, 18, 16, 17, 25], [28, 34, 23, 27, 24, 26, 22, 15, 13, 21, 12, 2, 11, 1, 0, 6, 10, 5, 3, 4, 9, 7, 8, 20, 14, 19, 18, 16, 17, 25, 33, 32, 31, 29, 30], [23, 35, 22, 15, 13, 21, 12, 2, 11, 1, 0, 6, 10, 5, 3, 4, 9, 7, 8, 20, 14, 19, 18, 16, 17, 28, 34, 27, 24, 26, 25, 33, 32, 31, 29, 30]] [33] [] [[], [], [], [], [], [], [], [], [], [], [], [], [], [], [], [], [], [], [], [], [], [], [], [], [], [], [], [], [], [], [], [], [], [], [], [], []] [[], [], [], [], [], [], [], [], [], [], [], [], [], [], [], [], [], [], [], [], [], [], [], [], [], [], [], [], [], [], [], [], [], [], [], [], []] [] [] [] []
                        [some ?vb0, some ?vb1, some ?vb2, some undef, some undef, some undef, some undef, some undef, some undef, some undef, some undef, some undef, some ?vb12, some ?vb13, some ?vb14, some ?vb15, some ?vb16, some ?vb17, some ?vb18, some ?vb19, some ?vb20, some ?vb21, some ?vb22, some ?vb23, some ?vb24, some ?vb25, some ?vb26, some ?vb27, some ?vb28, some ?vb29, some ?vb30, some ?vb31, some (.agg #[.int .u8 (p.count : Nat), .int .u8 (p.kind : Nat), u, .int .u8 (p.pad : Nat)]), some (.bool true), some ?vb34, some ?vb35, some ?vb36]
                        ?Tb (fun wx => (wx.cell? ⟨gd, od + i, none⟩ = some (.int .u8 0) ∧ wx.cell? ⟨gb, ob + i, none⟩ = some (.int .u8 (y : Nat))) ∧ Only (fun _ => False) wr wx) ?Wb ?Eb (by kernel_rfl) (by kernel_rfl) (by kernel_rfl) (fun x => ?hTb) ?hFb ?hinib (Reg.all_ops ?runsb) ?presb ?finb
                    case Wb => exact fun _ _ _ => True
                    case Eb => exact fun _ w' w'' => Only (fun _ => False) w' w''
                    case hTb =>
                      simp only [Reg.fillV, Act.put, List.setIfInBounds_toArray, List.set_cons_zero, List.set_cons_succ]
                      rfl
                    case runsb =>
                      refine And.intro ?_ ?_
                      · refine Reg.ob_pure (fun _ => rfl) rfl rfl rfl rfl (fun x w1 hF => ?_)
                        obtain ⟨⟨hqd, hqb⟩, hO⟩ := hF
                        go_simp
                        with_reducible rfl
                      refine And.intro ?_ ?_
                      · refine Reg.ob_pure (fun _ => rfl) rfl rfl rfl rfl (fun x w1 hF => ?_)
                        obtain ⟨⟨hqd, hqb⟩, hO⟩ := hF
                        go_simp
                        with_reducible rfl
                      refine And.intro ?_ ?_
                      · refine Reg.ob_pure (fun _ => rfl) rfl rfl rfl rfl (fun x w1 hF => ?_)
                        obtain ⟨⟨hqd, hqb⟩, hO⟩ := hF
                        go_simp
                        with_reducible rfl
                      refine And.intro ?_ ?_
                      · exact Reg.ob_skip (fun _ => rfl) rfl rfl rfl
                      refine And.intro ?_ ?_
                      · exact Reg.ob_skip (fun _ => rfl) rfl rfl rfl
                      refine And.intro ?_ ?_
                      · exact Reg.ob_skip (fun _ => rfl) rfl rfl rfl
                      refine And.intro ?_ ?_
                      · exact Reg.ob_skip (fun _ => rfl) rfl rfl rfl
                      refine And.intro ?_ ?_
                      · exact Reg.ob_skip (fun _ => rfl) rfl rfl rfl
                      refine And.intro ?_ ?_
                      · exact Reg.ob_skip (fun _ => rfl) rfl rfl rfl
                      refine And.intro ?_ ?_
                      · exact Reg.ob_skip (fun _ => rfl) rfl rfl rfl
                      refine And.intro ?_ ?_
                      · exact Reg.ob_skip (fun _ => rfl) rfl rfl rfl
                      refine And.intro ?_ ?_
                      · exact Reg.ob_skip (fun _ => rfl) rfl rfl rfl
                      refine And.intro ?_ ?_
                      · refine Reg.ob_pure (fun _ => rfl) rfl rfl rfl rfl (fun x w1 hF => ?_)
                        obtain ⟨⟨hqd, hqb⟩, hO⟩ := hF
                        go_simp
                        with_reducible rfl
                      refine And.intro ?_ ?_
                      · refine Reg.ob_pure (fun _ => rfl) rfl rfl rfl rfl (fun x w1 hF => ?_)
                        obtain ⟨⟨hqd, hqb⟩, hO⟩ := hF
                        go_simp
                        with_reducible rfl
                      refine And.intro ?_ ?_
                      · refine Reg.ob_pure (fun _ => rfl) rfl rfl rfl rfl (fun x w1 hF => ?_)
                        obtain ⟨⟨hqd, hqb⟩, hO⟩ := hF
                        go_simp
                        with_reducible rfl
                      refine And.intro ?_ ?_
                      · refine Reg.ob_pure (fun _ => rfl) rfl rfl rfl rfl (fun x w1 hF => ?_)
                        obtain ⟨⟨hqd, hqb⟩, hO⟩ := hF
                        go_simp
                        with_reducible rfl
                      refine And.intro ?_ ?_
                      · refine Reg.ob_pure (fun _ => rfl) rfl rfl rfl rfl (fun x w1 hF => ?_)
                        obtain ⟨⟨hqd, hqb⟩, hO⟩ := hF
                        go_simp
                        with_reducible rfl
                      refine And.intro ?_ ?_
                      · refine Reg.ob_pure (fun _ => rfl) rfl rfl rfl rfl (fun x w1 hF => ?_)
                        obtain ⟨⟨hqd, hqb⟩, hO⟩ := hF
                        go_simp
                        with_reducible rfl
                      refine And.intro ?_ ?_
                      · refine Reg.ob_pure (fun _ => rfl) rfl rfl rfl rfl (fun x w1 hF => ?_)
                        obtain ⟨⟨hqd, hqb⟩, hO⟩ := hF
                        go_simp
                        with_reducible rfl
                      refine And.intro ?_ ?_
                      · refine Reg.ob_pure (fun _ => rfl) rfl rfl rfl rfl (fun x w1 hF => ?_)
                        obtain ⟨⟨hqd, hqb⟩, hO⟩ := hF
                        go_simp
                        with_reducible rfl
                      refine And.intro ?_ ?_
                      · refine Reg.ob_pure (fun _ => rfl) rfl rfl rfl rfl (fun x w1 hF => ?_)
                        obtain ⟨⟨hqd, hqb⟩, hO⟩ := hF
                        go_simp
                        with_reducible rfl
                      refine And.intro ?_ ?_
                      · refine Reg.ob_pure (fun _ => rfl) rfl rfl rfl rfl (fun x w1 hF => ?_)
                        obtain ⟨⟨hqd, hqb⟩, hO⟩ := hF
                        go_simp
                        with_reducible rfl
                      refine And.intro ?_ ?_
                      · refine Reg.ob_pure (fun _ => rfl) rfl rfl rfl rfl (fun x w1 hF => ?_)
                        obtain ⟨⟨hqd, hqb⟩, hO⟩ := hF
                        go_simp
                        with_reducible rfl
                      refine And.intro ?_ ?_
                      · refine Reg.ob_pure (fun _ => rfl) rfl rfl rfl rfl (fun x w1 hF => ?_)
                        obtain ⟨⟨hqd, hqb⟩, hO⟩ := hF
                        go_simp
                        with_reducible rfl
                      refine And.intro ?_ ?_
                      · refine Reg.ob_pure (fun _ => rfl) rfl rfl rfl rfl (fun x w1 hF => ?_)
                        obtain ⟨⟨hqd, hqb⟩, hO⟩ := hF
                        go_simp
                        with_reducible rfl
                      refine And.intro ?_ ?_
                      · refine Reg.ob_pure (fun _ => rfl) rfl rfl rfl rfl (fun x w1 hF => ?_)
                        obtain ⟨⟨hqd, hqb⟩, hO⟩ := hF
                        go_simp
                        with_reducible rfl
                      refine And.intro ?_ ?_
                      · refine Reg.ob_pure (fun _ => rfl) rfl rfl rfl rfl (fun x w1 hF => ?_)
                        obtain ⟨⟨hqd, hqb⟩, hO⟩ := hF
                        go_simp
                        with_reducible rfl
                      refine And.intro ?_ ?_
                      · refine Reg.ob_pure (fun _ => rfl) rfl rfl rfl rfl (fun x w1 hF => ?_)
                        obtain ⟨⟨hqd, hqb⟩, hO⟩ := hF
                        go_simp
                        with_reducible rfl
                      refine And.intro ?_ ?_
                      · refine Reg.ob_pure (fun _ => rfl) rfl rfl rfl rfl (fun x w1 hF => ?_)
                        obtain ⟨⟨hqd, hqb⟩, hO⟩ := hF
                        go_simp
                        with_reducible rfl
                      refine And.intro ?_ ?_
                      · refine Reg.ob_pure (fun _ => rfl) rfl rfl rfl rfl (fun x w1 hF => ?_)
                        obtain ⟨⟨hqd, hqb⟩, hO⟩ := hF
                        go_simp
                        with_reducible rfl
                      refine And.intro ?_ ?_
                      · refine Reg.ob_pure (fun _ => rfl) rfl rfl rfl rfl (fun x w1 hF => ?_)
                        obtain ⟨⟨hqd, hqb⟩, hO⟩ := hF
                        go_simp
                        with_reducible rfl
                      refine And.intro ?_ ?_
                      · refine Reg.ob_pure (fun _ => rfl) rfl rfl rfl rfl (fun x w1 hF => ?_)
                        obtain ⟨⟨hqd, hqb⟩, hO⟩ := hF
                        go_simp
                        with_reducible rfl
                      refine And.intro ?_ ?_
                      · refine Reg.ob_pure (fun _ => rfl) rfl rfl rfl rfl (fun x w1 hF => ?_)
                        obtain ⟨-, hO⟩ := hF
                        obtain ⟨m0, m1, m2, m3⟩ := HCA.out _ hO
                        go_simp
                      refine And.intro ?_ ?_
                      · refine Reg.ob_known (fun _ => rfl) rfl rfl (fun x w1 hF hU K hK => ?_)
                        obtain ⟨⟨hqd, hqb⟩, hO⟩ := hF rfl
                        go_simp
                        refine (right_is p u w1 HPF.out (SU.out.of_only hO) HPL.out).mono ?_
                        rw [HPO.out]
                        rintro e w3 ⟨rfl, ho⟩
                        exact hK w3 (fun _ _ _ => ⟨⟨(ho.cell (World.block_lt_of_cell? w1 _ hqd) (by simp)).trans hqd, (ho.cell (World.block_lt_of_cell? w1 _ hqb) (by simp)).trans hqb⟩, only_more hO ho⟩) ho
                      refine And.intro ?_ ?_
                      · refine Reg.ob_pure (fun _ => rfl) rfl rfl rfl rfl (fun x w1 hF => ?_)
                        obtain ⟨⟨hqd, hqb⟩, hO⟩ := hF
                        go_simp
                        with_reducible rfl
                      refine And.intro ?_ ?_
                      · refine Reg.ob_pure (fun _ => rfl) rfl rfl rfl rfl (fun x w1 hF => ?_)
                        obtain ⟨⟨hqd, hqb⟩, hO⟩ := hF
                        go_simp
                        with_reducible rfl
                      refine And.intro ?_ ?_
                      · refine Reg.ob_pure (fun _ => rfl) rfl rfl rfl rfl (fun x w1 hF => ?_)
                        obtain ⟨⟨hqd, hqb⟩, hO⟩ := hF
                        go_simp
                        with_reducible rfl
                      exact trivial
                    case hFb =>
                      exact ⟨⟨QD.out, QB.out⟩, only_drewN wr 1⟩
                    case hinib =>
                      exact trivial
                    case presb =>
                      intro i hi j hj
                      cases hj
                    case finb =>
                      rintro x w9 hF -
                      obtain ⟨-, hO⟩ := hF rfl
                      go_wp2
                      exact ⟨⟨i + 1, by omega, by go_num, only_more OI.out hO⟩, by simp [intOf]; omega⟩
                · have zi : decide (i < M.length) = false := decide_eq_false him
                  have ziI : decide ((i : Int) < (M.length : Int)) = false := decide_eq_false (by omega)
                  cases pf
                  · have QD := Lib.hid (show wr.cell? ⟨gd, od + i, none⟩ = some (.int .u8 (y : Nat)) from by rw [QD0.out, if_neg (of_decide_eq_false HPF0.out)])
                    go_upto_region 19 with (fail)
                    refine wp_region_posts [[], [0], [1, 0], [2, 1, 0], [2, 1, 0], [3, 4, 2, 1, 0], [5, 2, 3, 4, 1, 0], [2, 1, 0], [2, 1, 0], [7, 8, 2, 1, 0], [9, 2, 7, 8, 1, 0], [6, 10, 2, 5, 3, 4, 1, 0, 9, 7, 8], [2, 11, 1, 0, 6, 10, 5, 3, 4, 9, 7, 8], [12, 2, 11, 1, 0, 6, 10, 5, 3, 4, 9, 7, 8], [13, 12, 2, 11, 1, 0, 6, 10, 5, 3, 4, 9, 7, 8], [14, 13, 12, 2, 11, 1, 0, 6, 10, 5, 3, 4, 9, 7, 8], [15, 14, 13, 12, 2, 11, 1, 0, 6, 10, 5, 3, 4, 9, 7, 8], [15, 14, 13, 12, 2, 11, 1, 0, 6, 10, 5, 3, 4, 9, 7, 8], [16, 17, 15, 14, 13, 12, 2, 11, 1, 0, 6, 10, 5, 3, 4, 9, 7, 8], [18, 15, 16, 17, 14, 13, 12, 2, 11, 1, 0, 6, 10, 5, 3, 4, 9, 7, 8], [19, 15, 18, 16, 17, 14, 13, 12, 2, 11, 1, 0, 6, 10, 5, 3, 4, 9, 7, 8], [15, 20, 13, 14, 12, 2, 11, 1, 0, 6, 10, 5, 3, 4, 9, 7, 8, 19, 18, 16, 17], [13, 21, 12, 2, 11, 1, 0, 6, 10, 5, 3, 4, 9, 7, 8, 15, 20, 14, 19, 18, 16, 17], [22, 15, 13, 21, 12, 2, 11, 1, 0, 6, 10, 5, 3, 4, 9, 7, 8, 20, 14, 19, 18, 16, 17], [23, 22, 15, 13, 21, 12, 2, 11, 1, 0, 6, 10, 5, 3, 4, 9, 7, 8, 20, 14, 19, 18, 16, 17], [23, 22, 15, 13, 21, 12, 2, 11, 1, 0, 6, 10, 5, 3, 4, 9, 7, 8, 20, 14, 19, 18, 16, 17], [25, 23, 22, 15, 13, 21, 12, 2, 11, 1, 0, 6, 10, 5, 3, 4, 9, 7, 8, 20, 14, 19, 18, 16, 17], [24, 26, 23, 22, 15, 13, 21, 12, 2, 11, 1, 0, 6, 10, 5, 3, 4, 9, 7, 8, 20, 14, 19, 18, 16, 17, 25], [27, 23, 24, 26, 22, 15, 13, 21, 12, 2, 11, 1, 0, 6, 10, 5, 3, 4, 9, 7, 8, 20, 14, 19, 18, 16, 17, 25], [28, 27, 23, 24, 26, 22, 15, 13, 21, 12, 2, 11, 1, 0, 6, 10, 5, 3, 4, 9, 7, 8, 20, 14, 19, 18, 16, 17, 25], [28, 27, 23, 24, 26, 22, 15, 13, 21, 12, 2, 11, 1, 0, 6, 10, 5, 3, 4, 9, 7, 8, 20, 14, 19, 18, 16, 17, 25], [29, 30, 28, 27, 23, 24, 26, 22, 15, 13, 21, 12, 2, 11, 1, 0, 6, 10, 5, 3, 4, 9, 7, 8, 20, 14, 19, 18, 16, 17, 25], [31, 28, 29, 30, 27, 23, 24, 26, 22, 15, 13, 21, 12, 2, 11, 1, 0, 6, 10, 5, 3, 4, 9, 7, 8, 20, 14, 19, 18, 16, 17, 25], [32, 28, 31, 29, 30, 27, 23, 24, 26, 22, 15, 13, 21, 12, 2, 11, 1, 0, 6, 10, 5, 3, 4, 9, 7, 8, 20, 14, 19, 18, 16, 17, 25], [33, 28, 32, 31, 29, 30, 27, 23, 24, 26, 22, 15, 13, 21, 12, 2, 11, 1, 0, 6, 10, 5, 3, 4, 9, 7, 8, 20, 14, 19, 18, 16, 17, 25], [28, 34, 23, 27, 24, 26, 22, 15, 13, 21, 12, 2, 11, 1, 0, 6, 10, 5, 3, 4, 9, 7, 8, 20, 14, 19, 18, 16, 17, 25, 33, 32, 31, 29, 30], [23, 35, 22, 15, 13, 21, 12, 2, 11, 1, 0, 6, 10, 5, 3, 4, 9, 7, 8, 20, 14, 19, 18, 16, 17, 28, 34, 27, 24, 26, 25, 33, 32, 31, 29, 30]] [] [] [[], [], [], [], [], [], [], [], [], [], [], [], [], [], [], [], [], [], [], [], [], [], [], [], [], [], [], [], [], [], [], [], [], [], [], [], []] [[], [], [], [], [], [], [], [], [], [], [], [], [], [], [], [], [], [], [], [], [], [], [], [], [], [], [], [], [], [], [], [], [], [], [], [], []] [] [] [] []
                        [some ?vc0, some ?vc1, some ?vc2, some ?vc3, some ?vc4, some ?vc5, some ?vc6, some ?vc7, some ?vc8, some ?vc9, some ?vc10, some ?vc11, some ?vc12, some ?vc13, some ?vc14, some ?vc15, some undef, some undef, some undef, some undef, some undef, some ?vc21, some ?vc22, some ?vc23, some ?vc24, some ?vc25, some ?vc26, some ?vc27, some ?vc28, some undef, some undef, some undef, some undef, some undef, some undef, some ?vc35, some ?vc36]
                        ?Tc (fun wx => (wx.cell? ⟨gd, od + i, none⟩ = some (.int .u8 (y : Nat)) ∧ wx.cell? ⟨gb, ob + i, none⟩ = some (.int .u8 (y : Nat))) ∧ Only (fun _ => False) wr wx) ?Wc ?Ec (by kernel_rfl) (by kernel_rfl) (by kernel_rfl) (fun x => ?hTc) ?hFc ?hinic (Reg.all_ops ?runsc) ?presc ?finc
                    case Wc => exact fun _ _ _ => True
                    case Ec => exact fun _ w' w'' => Only (fun _ => False) w' w''
                    case hTc =>
                      simp only [Reg.fillV, Act.put, List.setIfInBounds_toArray, List.set_cons_zero, List.set_cons_succ]
                      rfl
                    case runsc =>
                      refine And.intro ?_ ?_
                      · refine Reg.ob_pure (fun _ => rfl) rfl rfl rfl rfl (fun x w1 hF => ?_)
                        obtain ⟨⟨hqd, hqb⟩, hO⟩ := hF
                        go_simp
                        with_reducible rfl
                      refine And.intro ?_ ?_
                      · refine Reg.ob_pure (fun _ => rfl) rfl rfl rfl rfl (fun x w1 hF => ?_)
                        obtain ⟨⟨hqd, hqb⟩, hO⟩ := hF
                        go_simp
                        with_reducible rfl
                      refine And.intro ?_ ?_
                      · refine Reg.ob_pure (fun _ => rfl) rfl rfl rfl rfl (fun x w1 hF => ?_)
                        obtain ⟨⟨hqd, hqb⟩, hO⟩ := hF
                        go_simp
                        with_reducible rfl
                      refine And.intro ?_ ?_
                      · refine Reg.ob_pure (fun _ => rfl) rfl rfl rfl rfl (fun x w1 hF => ?_)
                        obtain ⟨⟨hqd, hqb⟩, hO⟩ := hF
                        go_simp
                        with_reducible rfl
                      refine And.intro ?_ ?_
                      · refine Reg.ob_pure (fun _ => rfl) rfl rfl rfl rfl (fun x w1 hF => ?_)
                        obtain ⟨⟨hqd, hqb⟩, hO⟩ := hF
                        go_simp
                        with_reducible rfl
                      refine And.intro ?_ ?_
                      · refine Reg.ob_pure (fun _ => rfl) rfl rfl rfl rfl (fun x w1 hF => ?_)
                        obtain ⟨⟨hqd, hqb⟩, hO⟩ := hF
                        go_simp
                        with_reducible rfl
                      refine And.intro ?_ ?_
                      · refine Reg.ob_pure (fun _ => rfl) rfl rfl rfl rfl (fun x w1 hF => ?_)
                        obtain ⟨⟨hqd, hqb⟩, hO⟩ := hF
                        go_simp
                        with_reducible rfl
                      refine And.intro ?_ ?_
                      · refine Reg.ob_pure (fun _ => rfl) rfl rfl rfl rfl (fun x w1 hF => ?_)
                        obtain ⟨⟨hqd, hqb⟩, hO⟩ := hF
                        go_simp
                        with_reducible rfl
                      refine And.intro ?_ ?_
                      · refine Reg.ob_pure (fun _ => rfl) rfl rfl rfl rfl (fun x w1 hF => ?_)
                        obtain ⟨⟨hqd, hqb⟩, hO⟩ := hF
                        go_simp
                        with_reducible rfl
                      refine And.intro ?_ ?_
                      · refine Reg.ob_pure (fun _ => rfl) rfl rfl rfl rfl (fun x w1 hF => ?_)
                        obtain ⟨⟨hqd, hqb⟩, hO⟩ := hF
                        go_simp
                        with_reducible rfl
                      refine And.intro ?_ ?_
                      · refine Reg.ob_pure (fun _ => rfl) rfl rfl rfl rfl (fun x w1 hF => ?_)
                        obtain ⟨⟨hqd, hqb⟩, hO⟩ := hF
                        go_simp
                        with_reducible rfl
                      refine And.intro ?_ ?_
                      · refine Reg.ob_pure (fun _ => rfl) rfl rfl rfl rfl (fun x w1 hF => ?_)
                        obtain ⟨⟨hqd, hqb⟩, hO⟩ := hF
                        go_simp
                        with_reducible rfl
                      refine And.intro ?_ ?_
                      · refine Reg.ob_pure (fun _ => rfl) rfl rfl rfl rfl (fun x w1 hF => ?_)
                        obtain ⟨⟨hqd, hqb⟩, hO⟩ := hF
                        go_simp
                        with_reducible rfl
                      refine And.intro ?_ ?_
                      · refine Reg.ob_pure (fun _ => rfl) rfl rfl rfl rfl (fun x w1 hF => ?_)
                        obtain ⟨⟨hqd, hqb⟩, hO⟩ := hF
                        go_simp
                        with_reducible rfl
                      refine And.intro ?_ ?_
                      · refine Reg.ob_pure (fun _ => rfl) rfl rfl rfl rfl (fun x w1 hF => ?_)
                        obtain ⟨⟨hqd, hqb⟩, hO⟩ := hF
                        go_simp
                        with_reducible rfl
                      refine And.intro ?_ ?_
                      · refine Reg.ob_pure (fun _ => rfl) rfl rfl rfl rfl (fun x w1 hF => ?_)
                        obtain ⟨⟨hqd, hqb⟩, hO⟩ := hF
                        go_simp
                        with_reducible rfl
                      refine And.intro ?_ ?_
                      · exact Reg.ob_skip (fun _ => rfl) rfl rfl rfl
                      refine And.intro ?_ ?_
                      · exact Reg.ob_skip (fun _ => rfl) rfl rfl rfl
                      refine And.intro ?_ ?_
                      · exact Reg.ob_skip (fun _ => rfl) rfl rfl rfl
                      refine And.intro ?_ ?_
                      · exact Reg.ob_skip (fun _ => rfl) rfl rfl rfl
                      refine And.intro ?_ ?_
                      · exact Reg.ob_skip (fun _ => rfl) rfl rfl rfl
                      refine And.intro ?_ ?_
                      · refine Reg.ob_pure (fun _ => rfl) rfl rfl rfl rfl (fun x w1 hF => ?_)
                        obtain ⟨⟨hqd, hqb⟩, hO⟩ := hF
                        go_simp
                        with_reducible rfl
                      refine And.intro ?_ ?_
                      · refine Reg.ob_pure (fun _ => rfl) rfl rfl rfl rfl (fun x w1 hF => ?_)
                        obtain ⟨⟨hqd, hqb⟩, hO⟩ := hF
                        go_simp
                        with_reducible rfl
                      refine And.intro ?_ ?_
                      · refine Reg.ob_pure (fun _ => rfl) rfl rfl rfl rfl (fun x w1 hF => ?_)
                        obtain ⟨⟨hqd, hqb⟩, hO⟩ := hF
                        go_simp
                        with_reducible rfl
                      refine And.intro ?_ ?_
                      · refine Reg.ob_pure (fun _ => rfl) rfl rfl rfl rfl (fun x w1 hF => ?_)
                        obtain ⟨⟨hqd, hqb⟩, hO⟩ := hF
                        go_simp
                        with_reducible rfl
                      refine And.intro ?_ ?_
                      · refine Reg.ob_pure (fun _ => rfl) rfl rfl rfl rfl (fun x w1 hF => ?_)
                        obtain ⟨⟨hqd, hqb⟩, hO⟩ := hF
                        go_simp
                        with_reducible rfl
                      refine And.intro ?_ ?_
                      · refine Reg.ob_pure (fun _ => rfl) rfl rfl rfl rfl (fun x w1 hF => ?_)
                        obtain ⟨⟨hqd, hqb⟩, hO⟩ := hF
                        go_simp
                        with_reducible rfl
                      refine And.intro ?_ ?_
                      · refine Reg.ob_pure (fun _ => rfl) rfl rfl rfl rfl (fun x w1 hF => ?_)
                        obtain ⟨⟨hqd, hqb⟩, hO⟩ := hF
                        go_simp
                        with_reducible rfl
                      refine And.intro ?_ ?_
                      · refine Reg.ob_pure (fun _ => rfl) rfl rfl rfl rfl (fun x w1 hF => ?_)
                        obtain ⟨⟨hqd, hqb⟩, hO⟩ := hF
                        go_simp
                        with_reducible rfl
                      refine And.intro ?_ ?_
                      · exact Reg.ob_skip (fun _ => rfl) rfl rfl rfl
                      refine And.intro ?_ ?_
                      · exact Reg.ob_skip (fun _ => rfl) rfl rfl rfl
                      refine And.intro ?_ ?_
                      · exact Reg.ob_skip (fun _ => rfl) rfl rfl rfl
                      refine And.intro ?_ ?_
                      · exact Reg.ob_skip (fun _ => rfl) rfl rfl rfl
                      refine And.intro ?_ ?_
                      · exact Reg.ob_skip (fun _ => rfl) rfl rfl rfl
                      refine And.intro ?_ ?_
                      · exact Reg.ob_skip (fun _ => rfl) rfl rfl rfl
                      refine And.intro ?_ ?_
                      · refine Reg.ob_pure (fun _ => rfl) rfl rfl rfl rfl (fun x w1 hF => ?_)
                        obtain ⟨⟨hqd, hqb⟩, hO⟩ := hF
                        go_simp
                        with_reducible rfl
                      refine And.intro ?_ ?_
                      · refine Reg.ob_pure (fun _ => rfl) rfl rfl rfl rfl (fun x w1 hF => ?_)
                        obtain ⟨⟨hqd, hqb⟩, hO⟩ := hF
                        go_simp
                        with_reducible rfl
                      exact trivial
                    case hFc =>
                      exact ⟨⟨QD.out, QB.out⟩, only_drewN wr 1⟩
                    case hinic =>
                      exact trivial
                    case presc =>
                      intro i hi j hj
                      cases hj
                    case finc =>
                      rintro x w9 hF -
                      obtain ⟨-, hO⟩ := hF rfl
                      go_wp2
                      exact ⟨⟨i + 1, by omega, by go_num, only_more OI.out hO⟩, by simp [intOf]; omega⟩
                  · have QD := Lib.hid (show wr.cell? ⟨gd, od + i, none⟩ = some (.int .u8 0) from by rw [QD0.out, if_pos (of_decide_eq_true HPF0.out)]; rfl)
                    go_upto_region 19 with (fail)
                    refine wp_region_posts [[], [0], [1, 0], [2, 1, 0], [2, 1, 0], [3, 4, 2, 1, 0], [5, 2, 3, 4, 1, 0], [2, 1, 0], [2, 1, 0], [7, 8, 2, 1, 0], [9, 2, 7, 8, 1, 0], [6, 10, 2, 5, 3, 4, 1, 0, 9, 7, 8], [2, 11, 1, 0, 6, 10, 5, 3, 4, 9, 7, 8], [12, 2, 11, 1, 0, 6, 10, 5, 3, 4, 9, 7, 8], [13, 12, 2, 11, 1, 0, 6, 10, 5, 3, 4, 9, 7, 8], [14, 13, 12, 2, 11, 1, 0, 6, 10, 5, 3, 4, 9, 7, 8], [15, 14, 13, 12, 2, 11, 1, 0, 6, 10, 5, 3, 4, 9, 7, 8], [15, 14, 13, 12, 2, 11, 1, 0, 6, 10, 5, 3, 4, 9, 7, 8], [16, 17, 15, 14, 13, 12, 2, 11, 1, 0, 6, 10, 5, 3, 4, 9, 7, 8], [18, 15, 16, 17, 14, 13, 12, 2, 11, 1, 0, 6, 10, 5, 3, 4, 9, 7, 8], [19, 15, 18, 16, 17, 14, 13, 12, 2, 11, 1, 0, 6, 10, 5, 3, 4, 9, 7, 8], [15, 20, 13, 14, 12, 2, 11, 1, 0, 6, 10, 5, 3, 4, 9, 7, 8, 19, 18, 16, 17], [13, 21, 12, 2, 11, 1, 0, 6, 10, 5, 3, 4, 9, 7, 8, 15, 20, 14, 19, 18, 16, 17], [22, 15, 13, 21, 12, 2, 11, 1, 0, 6, 10, 5, 3, 4, 9, 7, 8, 20, 14, 19, 18, 16, 17], [23, 22, 15, 13, 21, 12, 2, 11, 1, 0, 6, 10, 5, 3, 4, 9, 7, 8, 20, 14, 19, 18, 16, 17], [23, 22, 15, 13, 21, 12, 2, 11, 1, 0, 6, 10, 5, 3, 4, 9, 7, 8, 20, 14, 19, 18, 16, 17], [25, 23, 22, 15, 13, 21, 12, 2, 11, 1, 0, 6, 10, 5, 3, 4, 9, 7, 8, 20, 14, 19, 18, 16, 17], [24, 26, 23, 22, 15, 13, 21, 12, 2, 11, 1, 0, 6, 10, 5, 3, 4, 9, 7, 8, 20, 14, 19, 18, 16, 17, 25], [27, 23, 24, 26, 22, 15, 13, 21, 12, 2, 11, 1, 0, 6, 10, 5, 3, 4, 9, 7, 8, 20, 14, 19, 18, 16, 17, 25], [28, 27, 23, 24, 26, 22, 15, 13, 21, 12, 2, 11, 1, 0, 6, 10, 5, 3, 4, 9, 7, 8, 20, 14, 19, 18, 16, 17, 25], [28, 27, 23, 24, 26, 22, 15, 13, 21, 12, 2, 11, 1, 0, 6, 10, 5, 3, 4, 9, 7, 8, 20, 14, 19, 18, 16, 17, 25], [29, 30, 28, 27, 23, 24, 26, 22, 15, 13, 21, 12, 2, 11, 1, 0, 6, 10, 5, 3, 4, 9, 7, 8, 20, 14, 19, 18, 16, 17, 25], [31, 28, 29, 30, 27, 23, 24, 26, 22, 15, 13, 21, 12, 2, 11, 1, 0, 6, 10, 5, 3, 4, 9, 7, 8, 20, 14, 19, 18, 16, 17, 25], [32, 28, 31, 29, 30, 27, 23, 24, 26, 22, 15, 13, 21, 12, 2, 11, 1, 0, 6, 10, 5, 3, 4, 9, 7, 8, 20, 14, 19, 18, 16, 17, 25], [33, 28, 32, 31, 29, 30, 27, 23, 24, 26, 22, 15, 13, 21, 12, 2, 11, 1, 0, 6, 10, 5, 3, 4, 9, 7, 8, 20, 14, 19, 18, 16, 17, 25], [28, 34, 23, 27, 24, 26, 22, 15, 13, 21, 12, 2, 11, 1, 0, 6, 10, 5, 3, 4, 9, 7, 8, 20, 14, 19, 18, 16, 17, 25, 33, 32, 31, 29, 30], [23, 35, 22, 15, 13, 21, 12, 2, 11, 1, 0, 6, 10, 5, 3, 4, 9, 7, 8, 20, 14, 19, 18, 16, 17, 28, 34, 27, 24, 26, 25, 33, 32, 31, 29, 30]] [] [] [[], [], [], [], [], [], [], [], [], [], [], [], [], [], [], [], [], [], [], [], [], [], [], [], [], [], [], [], [], [], [], [], [], [], [], [], []] [[], [], [], [], [], [], [], [], [], [], [], [], [], [], [], [], [], [], [], [], [], [], [], [], [], [], [], [], [], [], [], [], [], [], [], [], []] [] [] [] []
                        [some ?vd0, some ?vd1, some ?vd2, some undef, some undef, some undef, some undef, some undef, some undef, some undef, some undef, some undef, some ?vd12, some ?vd13, some ?vd14, some ?vd15, some ?vd16, some ?vd17, some ?vd18, some ?vd19, some ?vd20, some ?vd21, some ?vd22, some ?vd23, some ?vd24, some ?vd25, some ?vd26, some ?vd27, some ?vd28, some undef, some undef, some undef, some undef, some undef, some undef, some ?vd35, some ?vd36]
                        ?Td (fun wx => (wx.cell? ⟨gd, od + i, none⟩ = some (.int .u8 0) ∧ wx.cell? ⟨gb, ob + i, none⟩ = some (.int .u8 (y : Nat))) ∧ Only (fun _ => False) wr wx) ?Wd ?Ed (by kernel_rfl) (by kernel_rfl) (by kernel_rfl) (fun x => ?hTd) ?hFd ?hinid (Reg.all_ops ?runsd) ?presd ?find
                    case Wd => exact fun _ _ _ => True
                    case Ed => exact fun _ w' w'' => Only (fun _ => False) w' w''
                    case hTd =>
                      simp only [Reg.fillV, Act.put, List.setIfInBounds_toArray, List.set_cons_zero, List.set_cons_succ]
                      rfl
                    case runsd =>
                      refine And.intro ?_ ?_
                      · refine Reg.ob_pure (fun _ => rfl) rfl rfl rfl rfl (fun x w1 hF => ?_)
                        obtain ⟨⟨hqd, hqb⟩, hO⟩ := hF
                        go_simp
                        with_reducible rfl
                      refine And.intro ?_ ?_
                      · refine Reg.ob_pure (fun _ => rfl) rfl rfl rfl rfl (fun x w1 hF => ?_)
                        obtain ⟨⟨hqd, hqb⟩, hO⟩ := hF
                        go_simp
                        with_reducible rfl
                      refine And.intro ?_ ?_
                      · refine Reg.ob_pure (fun _ => rfl) rfl rfl rfl rfl (fun x w1 hF => ?_)
                        obtain ⟨⟨hqd, hqb⟩, hO⟩ := hF
                        go_simp
                        with_reducible rfl
                      refine And.intro ?_ ?_
                      · exact Reg.ob_skip (fun _ => rfl) rfl rfl rfl
                      refine And.intro ?_ ?_
                      · exact Reg.ob_skip (fun _ => rfl) rfl rfl rfl
                      refine And.intro ?_ ?_
                      · exact Reg.ob_skip (fun _ => rfl) rfl rfl rfl
                      refine And.intro ?_ ?_
                      · exact Reg.ob_skip (fun _ => rfl) rfl rfl rfl
                      refine And.intro ?_ ?_
                      · exact Reg.ob_skip (fun _ => rfl) rfl rfl rfl
                      refine And.intro ?_ ?_
                      · exact Reg.ob_skip (fun _ => rfl) rfl rfl rfl
                      refine And.intro ?_ ?_
                      · exact Reg.ob_skip (fun _ => rfl) rfl rfl rfl
                      refine And.intro ?_ ?_
                      · exact Reg.ob_skip (fun _ => rfl) rfl rfl rfl
                      refine And.intro ?_ ?_
                      · exact Reg.ob_skip (fun _ => rfl) rfl rfl rfl
                      refine And.intro ?_ ?_
                      · refine Reg.ob_pure (fun _ => rfl) rfl rfl rfl rfl (fun x w1 hF => ?_)
                        obtain ⟨⟨hqd, hqb⟩, hO⟩ := hF
                        go_simp
                        with_reducible rfl
                      refine And.intro ?_ ?_
                      · refine Reg.ob_pure (fun _ => rfl) rfl rfl rfl rfl (fun x w1 hF => ?_)
                        obtain ⟨⟨hqd, hqb⟩, hO⟩ := hF
                        go_simp
                        with_reducible rfl
                      refine And.intro ?_ ?_
                      · refine Reg.ob_pure (fun _ => rfl) rfl rfl rfl rfl (fun x w1 hF => ?_)
                        obtain ⟨⟨hqd, hqb⟩, hO⟩ := hF
                        go_simp
                        with_reducible rfl
                      refine And.intro ?_ ?_
                      · refine Reg.ob_pure (fun _ => rfl) rfl rfl rfl rfl (fun x w1 hF => ?_)
                        obtain ⟨⟨hqd, hqb⟩, hO⟩ := hF
                        go_simp
                        with_reducible rfl
                      refine And.intro ?_ ?_
                      · refine Reg.ob_pure (fun _ => rfl) rfl rfl rfl rfl (fun x w1 hF => ?_)
                        obtain ⟨⟨hqd, hqb⟩, hO⟩ := hF
                        go_simp
                        with_reducible rfl
                      refine And.intro ?_ ?_
                      · refine Reg.ob_pure (fun _ => rfl) rfl rfl rfl rfl (fun x w1 hF => ?_)
                        obtain ⟨⟨hqd, hqb⟩, hO⟩ := hF
                        go_simp
                        with_reducible rfl
                      refine And.intro ?_ ?_
                      · refine Reg.ob_pure (fun _ => rfl) rfl rfl rfl rfl (fun x w1 hF => ?_)
                        obtain ⟨⟨hqd, hqb⟩, hO⟩ := hF
                        go_simp
                        with_reducible rfl
                      refine And.intro ?_ ?_
                      · refine Reg.ob_pure (fun _ => rfl) rfl rfl rfl rfl (fun x w1 hF => ?_)
                        obtain ⟨⟨hqd, hqb⟩, hO⟩ := hF
                        go_simp
                        with_reducible rfl
                      refine And.intro ?_ ?_
                      · refine Reg.ob_pure (fun _ => rfl) rfl rfl rfl rfl (fun x w1 hF => ?_)
                        obtain ⟨⟨hqd, hqb⟩, hO⟩ := hF
                        go_simp
                        with_reducible rfl
                      refine And.intro ?_ ?_
                      · refine Reg.ob_pure (fun _ => rfl) rfl rfl rfl rfl (fun x w1 hF => ?_)
                        obtain ⟨⟨hqd, hqb⟩, hO⟩ := hF
                        go_simp
                        with_reducible rfl
                      refine And.intro ?_ ?_
                      · refine Reg.ob_pure (fun _ => rfl) rfl rfl rfl rfl (fun x w1 hF => ?_)
                        obtain ⟨⟨hqd, hqb⟩, hO⟩ := hF
                        go_simp
                        with_reducible rfl
                      refine And.intro ?_ ?_
                      · refine Reg.ob_pure (fun _ => rfl) rfl rfl rfl rfl (fun x w1 hF => ?_)
                        obtain ⟨⟨hqd, hqb⟩, hO⟩ := hF
                        go_simp
                        with_reducible rfl
                      refine And.intro ?_ ?_
                      · refine Reg.ob_pure (fun _ => rfl) rfl rfl rfl rfl (fun x w1 hF => ?_)
                        obtain ⟨⟨hqd, hqb⟩, hO⟩ := hF
                        go_simp
                        with_reducible rfl
                      refine And.intro ?_ ?_
                      · refine Reg.ob_pure (fun _ => rfl) rfl rfl rfl rfl (fun x w1 hF => ?_)
                        obtain ⟨⟨hqd, hqb⟩, hO⟩ := hF
                        go_simp
                        with_reducible rfl
                      refine And.intro ?_ ?_
                      · refine Reg.ob_pure (fun _ => rfl) rfl rfl rfl rfl (fun x w1 hF => ?_)
                        obtain ⟨⟨hqd, hqb⟩, hO⟩ := hF
                        go_simp
                        with_reducible rfl
                      refine And.intro ?_ ?_
                      · refine Reg.ob_pure (fun _ => rfl) rfl rfl rfl rfl (fun x w1 hF => ?_)
                        obtain ⟨⟨hqd, hqb⟩, hO⟩ := hF
                        go_simp
                        with_reducible rfl
                      refine And.intro ?_ ?_
                      · refine Reg.ob_pure (fun _ => rfl) rfl rfl rfl rfl (fun x w1 hF => ?_)
                        obtain ⟨⟨hqd, hqb⟩, hO⟩ := hF
                        go_simp
                        with_reducible rfl
                      refine And.intro ?_ ?_
                      · exact Reg.ob_skip (fun _ => rfl) rfl rfl rfl
                      refine And.intro ?_ ?_
                      · exact Reg.ob_skip (fun _ => rfl) rfl rfl rfl
                      refine And.intro ?_ ?_
                      · exact Reg.ob_skip (fun _ => rfl) rfl rfl rfl
                      refine And.intro ?_ ?_
                      · exact Reg.ob_skip (fun _ => rfl) rfl rfl rfl
                      refine And.intro ?_ ?_
                      · exact Reg.ob_skip (fun _ => rfl) rfl rfl rfl
                      refine And.intro ?_ ?_
                      · exact Reg.ob_skip (fun _ => rfl) rfl rfl rfl
                      refine And.intro ?_ ?_
                      · refine Reg.ob_pure (fun _ => rfl) rfl rfl rfl rfl (fun x w1 hF => ?_)
                        obtain ⟨⟨hqd, hqb⟩, hO⟩ := hF
                        go_simp
                        with_reducible rfl
                      refine And.intro ?_ ?_
                      · refine Reg.ob_pure (fun _ => rfl) rfl rfl rfl rfl (fun x w1 hF => ?_)
                        obtain ⟨⟨hqd, hqb⟩, hO⟩ := hF
                        go_simp
                        with_reducible rfl
                      exact trivial
                    case hFd =>
                      exact ⟨⟨QD.out, QB.out⟩, only_drewN wr 1⟩
                    case hinid =>
                      exact trivial
                    case presd =>
                      intro i hi j hj
                      cases hj
                    case find =>
                      rintro x w9 hF -
                      obtain ⟨-, hO⟩ := hF rfl
                      go_wp2
                      exact ⟨⟨i + 1, by omega, by go_num, only_more OI.out hO⟩, by simp [intOf]; omega⟩
            · have hin : i = n := by omega
              subst hin
              go_wp2_with fail
              refine (HWK.out _).mono ?_
              rintro e w5 ⟨rfl, ho5⟩
              have O5 := Lib.hid (only_more O4.out (only_more OI.out ho5))
              clear ho5
              go_wp2
              go_ret
              exact ⟨rfl, O5.out⟩
end Go.Proofs.Ytdhkcffjhcoloaa
