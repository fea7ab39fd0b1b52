/- easelref06.Join: its walk. Conditions: as it says. -/
import Derived.Test.YtdhkcffjhcoloaaRcJ
import Derived.Test.YtdhkcffjhcoloaaRrD
set_option linter.unusedVariables false
namespace Go.Proofs.Ytdhkcffjhcoloaa
open Go.RowKit

set_option maxRecDepth 100000 in
set_option maxHeartbeats 2000000 in
theorem rjoin_is (v : Value) (l : List Pkt) (w : World) (hr : RdP w v l) (hf : ∀ p ∈ l, p.Fit) (hl : l.length ≤ 1000) (hb : ∀ p ∈ l, p.body.length ≤ 1000000) :
    Calls Try.prog 11 #[v] w (JoinEnd l w) := by
  obtain ⟨A, c, rfl, hlc, hh⟩ := hr
  have HF := Lib.hid hf
  have HB := Lib.hid hb
  have HH := Lib.hid hh
  obtain ⟨L, hL⟩ : ∃ L, l.length = L := ⟨_, rfl⟩
  have HL := Lib.hid hL
  rw [hL] at hl hlc ⊢
  clear hf hb hL hh
  by_cases h0 : L = 0
  · have HE := Lib.hid (show joinErr l = 2 from by unfold joinErr; rw [if_pos (.inr (by rw [HL.out, h0]))])
    have z0 : ((L : Int) == 0) = true := by rw [beq_iff_eq]; omega
    clear h0
    go_enter Try.func11, Try.ntmps11
    go_wp2
    go_ret2
    exact ⟨Only.refl _ _, .inl ⟨by rw [HE.out]; decide, by rw [HE.out]; rfl⟩⟩
  · have z0 : ((L : Int) == 0) = false := by rw [beq_eq_false_iff_ne]; omega
    have hL0 : 0 < L := by omega
    clear h0
    go_enter Try.func11, Try.ntmps11
    go_wp2
    go_loopw [4, 5] (fun s4 s5 wr => ∃ k : Nat, k ≤ L ∧ s5 = .int .i64 k ∧ joinBad (l.drop k) = joinBad l ∧ (∀ p ∈ l.take k, p.ok = true) ∧ Acc w s4 (encs (l.take k)) wr) (fun _ s5 _ => L - (intOf s5).toNat)
    case atStart => exact ⟨0, by omega, rfl, rfl, by simp, ⟨World.ownsRow_nil _ _ _ _, Only.refl _ _⟩⟩
    case round =>
      obtain ⟨k, hk, rfl, hbad, hoks, hacc⟩ := hrel
      have HBD := Lib.hid hbad
      have HOKS := Lib.hid hoks
      obtain ⟨cur, hcur⟩ : ∃ cur, encs (l.take k) = cur := ⟨_, rfl⟩
      rw [hcur] at hacc
      have HCUR := Lib.hid hcur
      have HCL := Lib.hid (show cur.length ≤ 262144 * k from by
        rw [← hcur]
        have h1 := encs_len hoks
        rw [List.length_take, HL.out, Nat.min_eq_left hk] at h1
        exact h1)
      clear hbad hoks hcur
      obtain ⟨A4, c4, rfl⟩ := hacc.slice
      have AC := Lib.hid hacc
      clear hacc
      by_cases hkl : k < L
      · have hkb : k < l.length := by rw [HL.out]; exact hkl
        obtain ⟨p, hp⟩ : ∃ p, l[k]? = some p := ⟨_, List.getElem?_eq_getElem hkb⟩
        obtain ⟨g, o, rfl, hcell⟩ := HH.out (by rw [HL.out]; omega)
        obtain ⟨u, hu1, hu2⟩ := hcell k p hp
        have hm := List.mem_of_getElem? hp
        have HFP := Lib.hid (HF.out p hm)
        have HBP := Lib.hid (HB.out p hm)
        have HDR := Lib.hid (drop_at hp)
        have HDL := Lib.hid (show (l.drop (k + 1)).length = L - k - 1 from by rw [List.length_drop, HL.out]; omega)
        have HCE := Lib.hid (fun wx (h : Only (fun _ => False) w wx) => show CellsAt wx g o k p u from hu1.only h)
        have HSR := Lib.hid hu2
        have HEN := Lib.hid (encs_snoc hp)
        have HOK2 := Lib.hid (show p.ok = true → ∀ q ∈ l.take (k + 1), q.ok = true from fun h q hq => by
          rw [List.take_succ_eq_append_getElem hkb] at hq
          rcases List.mem_append.1 hq with hq | hq
          · exact HOKS.out q hq
          · rw [List.mem_singleton.1 hq, show l[k] = p from by have := List.getElem?_eq_getElem hkb; rw [hp] at this; injection this with this; exact this.symm]
            exact h)
        obtain ⟨q0, q1, q2, q3⟩ := HCE.out _ AC.out.pure
        obtain ⟨Au, cu, rfl⟩ := hu2.slice
        have hkI : (k : Int) < (L : Int) := by omega
        have HJ := Lib.hid (show joinBad l = ((!p.ok || (decide (0 < p.pad) && decide (0 < L - k - 1))) || joinBad (l.drop (k + 1))) from by rw [← HBD.out, HDR.out, ← HDL.out]; rfl)
        clear hcell hu1 hu2 hp hm hkb
        obtain ⟨ok, hok⟩ : ∃ b, p.ok = b := ⟨_, rfl⟩
        have HOK := Lib.hid hok
        have HRI := Lib.hid (rright_is p _ wr HFP.out (HSR.out.of_only AC.out.pure) HBP.out)
        rw [hok] at HJ HRI
        clear hok
        cases ok
        · have HE := Lib.hid (show joinErr l = 2 from by unfold joinErr; rw [if_pos (.inl (by rw [HJ.out]; rfl))])
          go_wp2_with fail
          refine HRI.out.mono ?_
          rintro e w3 ⟨rfl, ho3⟩
          have O3 := Lib.hid (only_more AC.out.pure ho3)
          clear ho3
          go_wp2
          go_ret2
          exact ⟨O3.out, .inl ⟨by rw [HE.out]; decide, by rw [HE.out]; rfl⟩⟩
        · go_wp2_with fail
          refine HRI.out.mono ?_
          rintro e w3 ⟨rfl, ho3⟩
          have A3 := Lib.hid (AC.out.go ho3)
          clear ho3 q0 q1 q2 q3
          obtain ⟨q0, q1, q2, q3⟩ := HCE.out _ A3.out.pure
          have hnext : ∀ (b : Bool), b = (decide (0 < p.pad) && decide (0 < L - k - 1)) → b = false → joinBad (l.drop (k + 1)) = joinBad l := fun b h1 h2 => by rw [HJ.out, ← h1, h2]; rfl
          have HNX := Lib.hid hnext
          clear hnext
          have HPT := Lib.hid (rput_is p _ w3 (HSR.out.of_only A3.out.pure) HFP.out HOK.out)
          have HPE := Lib.hid (show p.enc.length ≤ 262144 from by have := enc_len p; have := ok_len HOK.out; omega)
          have hcl : cur.length ≤ 262144 * k := HCL.out
          have hways : (0 < p.pad ∧ k + 1 < L) ∨ (joinBad (l.drop (k + 1)) = joinBad l ∧ 0 < p.pad ∧ ¬ k + 1 < L) ∨ (joinBad (l.drop (k + 1)) = joinBad l ∧ ¬ 0 < p.pad) := by
            by_cases hd : 0 < p.pad
            · by_cases hi : k + 1 < L
              · exact .inl ⟨hd, hi⟩
              · exact .inr (.inl ⟨HNX.out _ rfl (by rw [decide_eq_false (show ¬ 0 < L - k - 1 by omega), Bool.and_false]), hd, hi⟩)
            · exact .inr (.inr ⟨HNX.out _ rfl (by rw [decide_eq_false hd, Bool.false_and]), hd⟩)
          rcases hways with ⟨hd, hi⟩ | ⟨hn, hd, hi⟩ | ⟨hn, hd⟩
          · have HE := Lib.hid (show joinErr l = 2 from by unfold joinErr; rw [if_pos (.inl (by rw [HJ.out, decide_eq_true hd, decide_eq_true (show 0 < L - k - 1 by omega)]; rfl))])
            have zd : decide (0 < p.pad) = true := decide_eq_true hd
            have zd' : decide ((0 : Int) < (p.pad : Int)) = true := decide_eq_true (by omega)
            have zi : decide ((k : Int) + 1 < (L : Int)) = true := decide_eq_true (by omega)
            have zi' : decide (k + 1 < L) = true := decide_eq_true hi
            clear hd hi hcl
            go_wp2
            go_ret2
            exact ⟨A3.out.pure, .inl ⟨by rw [HE.out]; decide, by rw [HE.out]; rfl⟩⟩
          · have HN := Lib.hid hn
            have zd : decide (0 < p.pad) = true := decide_eq_true hd
            have zd' : decide ((0 : Int) < (p.pad : Int)) = true := decide_eq_true (by omega)
            have zi : decide ((k : Int) + 1 < (L : Int)) = false := decide_eq_false (by omega)
            have zi' : decide (k + 1 < L) = false := decide_eq_false hi
            clear hd hi hn
            go_wp2_with fail
            refine HPT.out.mono ?_
            rintro e w4 ⟨A5, c5, rfl, hacc5⟩
            have S5 := Lib.hid (Src.of_own hacc5.own)
            have A5' := Lib.hid (A3.out.go hacc5.pure)
            clear hacc5
            go_wp2_with (at_builtin; refine wpList_acc_src rfl _ _ rfl A5'.out rfl _ p.enc rfl S5.out (by have := HPE.out; omega) ?_; intro v6 w6 hacc6 hg6)
            exact ⟨⟨k + 1, by omega, by go_num, HN.out, HOK2.out HOK.out, by rw [HEN.out, HCUR.out]; exact hacc6⟩, by simp [intOf]; omega⟩
          · have HN := Lib.hid hn
            have zd : decide (0 < p.pad) = false := decide_eq_false hd
            have zd' : decide ((0 : Int) < (p.pad : Int)) = false := decide_eq_false (by omega)
            clear hd hn
            go_wp2_with fail
            refine HPT.out.mono ?_
            rintro e w4 ⟨A5, c5, rfl, hacc5⟩
            have S5 := Lib.hid (Src.of_own hacc5.own)
            have A5' := Lib.hid (A3.out.go hacc5.pure)
            clear hacc5
            go_wp2_with (at_builtin; refine wpList_acc_src rfl _ _ rfl A5'.out rfl _ p.enc rfl S5.out (by have := HPE.out; omega) ?_; intro v6 w6 hacc6 hg6)
            exact ⟨⟨k + 1, by omega, by go_num, HN.out, HOK2.out HOK.out, by rw [HEN.out, HCUR.out]; exact hacc6⟩, by simp [intOf]; omega⟩
      · have hkl : k = L := by omega
        subst hkl
        have hjb : joinBad l = false := by
          rw [← HBD.out, List.drop_of_length_le (by rw [HL.out]; exact Nat.le_refl _)]
          rfl
        have HCU2 := Lib.hid (show encs l = cur from by rw [← HCUR.out, List.take_of_length_le (by rw [HL.out]; exact Nat.le_refl _)])
        have hkb : 0 < l.length := by rw [HL.out]; omega
        obtain ⟨p, hp⟩ : ∃ p, l[0]? = some p := ⟨_, List.getElem?_eq_getElem hkb⟩
        obtain ⟨g, o, rfl, hcell⟩ := HH.out (by omega)
        obtain ⟨u, hu1, hu2⟩ := hcell 0 p hp
        have hhd : l.headD ⟨0, 0, 0, []⟩ = p := by
          cases l with
          | nil => cases hp
          | cons a t => simpa using hp
        have HE := Lib.hid (show joinErr l = if (p.kind == 200 || p.kind == 201) = true then 0 else 60 from by
          unfold joinErr
          rw [if_neg (by rw [hjb, HL.out]; simp; omega), hhd])
        obtain ⟨-, q1, -, -⟩ := hu1.only AC.out.pure
        simp at q1
        have x0' : (0 : Int) < (k : Int) := by omega
        have f0 : (((p.kind : Nat) : Int) != 200) = !(p.kind == 200) := by rw [Bool.eq_iff_iff]; simp; omega
        have f1 : (((p.kind : Nat) : Int) != 201) = !(p.kind == 201) := by rw [Bool.eq_iff_iff]; simp; omega
        obtain ⟨b0, hb0⟩ : ∃ b, (p.kind == 200) = b := ⟨_, rfl⟩
        obtain ⟨b1, hb1⟩ : ∃ b, (p.kind == 201) = b := ⟨_, rfl⟩
        rw [hb0] at f0 HE
        rw [hb1] at f1 HE
        clear hcell hu1 hu2 hp hkb hhd hjb hb0 hb1
        cases b0 <;> cases b1
        · go_wp2
          go_ret2
          exact ⟨AC.out.pure, .inl ⟨by rw [HE.out]; decide, by rw [HE.out]; rfl⟩⟩
        all_goals
          go_wp2
          go_ret2
          exact ⟨AC.out.pure, .inr ⟨by rw [HE.out]; rfl, _, rfl, by rw [HCU2.out]; exact AC.out.own⟩⟩
end Go.Proofs.Ytdhkcffjhcoloaa
