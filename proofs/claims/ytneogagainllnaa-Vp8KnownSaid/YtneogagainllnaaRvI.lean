/- Vp8Puts' walk. Conditions: as it says. -/
import Derived.Test.YtneogagainllnaaRvH
import Derived.Test.YtneogagainllnaaVpS
set_option linter.unusedVariables false
namespace Go.Proofs.Ytneogagainllnaa
open Go.RowKit

theorem run_eql_ref {o : Oper} {ρ : Operand → Value} (w : World) (x y : Operand) (xs ys : Array Value) {b : Bool} (ho : o.op = .binOp .eql 27 x y 27) (hx : ρ x = .agg xs) (hy : ρ y = .agg ys)
    (h : (binOp .eql 27 (.agg xs) (.agg ys)).run Try.prog w = .ok (.bool b) w) : (execOp ρ o).run Try.prog w = .ok (.value (.bool b)) w := by
  unfold execOp
  simp only [ho, hx, hy, Sem.run_bind, Sem.run_pure, Result.andThen_ok, run_eqGuard_agg (P := Try.prog) w .eql 27 x y xs ys (by kernel_rfl), h]
/-- Amid the last region. -/
structure Fin5 (db ab : Nat) (dc ac : Array Value) (v1 v2 : Value) (r : List Nat) (w wx : World) : Prop where
  d : Is wx db 31 dc
  a : Is wx ab 31 ac
  s1 : Src wx v1 r
  s2 : Src wx v2 r
  pure : Only (fun _ => False) w wx
theorem Fin5.go {db ab : Nat} {dc ac : Array Value} {v1 v2 : Value} {r : List Nat} {w wx wy : World} (h : Fin5 db ab dc ac v1 v2 r w wx) (ho : Only (fun _ => False) wx wy) : Fin5 db ab dc ac v1 v2 r w wy :=
  ⟨h.d.only ho (by simp), h.a.only ho (by simp), h.s1.only ho (by simp), h.s2.only ho (by simp), only_more h.pure ho⟩
/-- What both write. -/
def Wrt (out : List Nat) (k : Int) (w : World) (e : Ending) (w' : World) : Prop :=
  ∃ A c, e = .returned (.tuple #[.slice A out.length c, .int .i64 k]) ∧ w'.ownsRow w.heap.size 5 1 (.slice A out.length c) out.length (cellsOf out) ∧ Only (fun _ => False) w w'
theorem both_put (d : Dv) (rest : List Nat) (hf : d.Fit) (hb : ∀ x ∈ rest, x < 256) (hl : rest.length ≤ 1000) : ∃ out k, out.length ≤ 2000 ∧ (rest = [] → out.length = d.len) ∧
    (∀ A n c w, Src w (.slice A n c) rest → Calls Try.prog 17 #[.agg d.cells, .slice A n c] w (Wrt out k w)) ∧ (∀ A n c w, Src w (.slice A n c) rest → Calls Try.prog 16 #[.agg d.cells, .slice A n c] w (Wrt out k w)) := by
  cases hr : d.right
  · refine ⟨[], 50, by simp, fun _ => by unfold Dv.len; rw [hr]; rfl, ?_, ?_⟩
    · intro A n c w hs
      refine (put_no d A n c w hf hr).mono ?_
      rintro e w' ⟨rfl, ho⟩
      exact ⟨none, 0, rfl, World.ownsRow_nil _ _ _ _, ho⟩
    · intro A n c w hs
      refine (rput_bad d A n c w hf hr).mono ?_
      rintro e w' ⟨rfl, ho⟩
      exact ⟨none, 0, rfl, World.ownsRow_nil _ _ _ _, ho⟩
  · have hd := head_digits d hf hr
    have hlen : 8 * (refHead d).length = d.digits.length := by rw [← hd, D_length]
    have h48 := (digits_len d).2
    refine ⟨refHead d ++ rest, 0, by rw [List.length_append]; omega, ?_, ?_, ?_⟩
    · rintro rfl
      rw [List.append_nil]
      unfold Dv.len
      rw [hr, if_pos rfl]
      omega
    · intro A n c w hs
      refine (put_yes d _ rest w hf hr hs hb (by omega)).mono ?_
      rintro e w' ⟨A', c', out, rfl, hw, hown, ho⟩
      have heq : out = refHead d ++ rest := by
        refine D_inj _ _ hw.bytes (fun x hx => ?_) ?_
        · rcases List.mem_append.1 hx with h | h
          · exact head_lt d hf hr x h
          · exact hb x h
        · have h8 := (digits_len d).1
          rw [hw.digits, D_append, hd]
          rw [show 8 * out.length - (d.digits ++ D rest).length = 0 from by rw [hw.rows, List.length_append, D_length]; omega]
          simp
      subst heq
      exact ⟨A', c', rfl, hown, ho⟩
    · intro A n c w hs
      refine (rput_good d _ rest w hf hr hs (by omega)).mono ?_
      rintro e w' ⟨u, rfl, hown, ho⟩
      obtain ⟨A', c', rfl, _⟩ := own_slice hown
      exact ⟨A', c', rfl, hown, ho⟩

set_option maxRecDepth 100000 in
set_option maxHeartbeats 4000000 in
theorem puts_any (d : Dv) (v : Value) (rest : List Nat) (pic tl0 tid : Nat) (sync : Bool) (w : World) (hf : d.Fit) (hs : Src w v rest) (hb : ∀ x ∈ rest, x < 256) (hpic : pic < 65536) (h0 : tl0 < 256) (ht : tid < 256) :
    Calls Try.prog 4 #[d.val, v, .int .u16 pic, .int .u8 tl0, .int .u8 tid, .bool sync] w fun e w' => e = .returned (.bool true) ∧ Only (fun _ => False) w w' := by
  obtain ⟨Ab, cb, rfl⟩ := hs.slice
  have HS := Lib.hid hs
  have HB := Lib.hid hb
  have HF := Lib.hid hf
  have HWK := Lib.hid (fun w => works_any w)
  have HI := Lib.hid (Is.made w 31 d.cells)
  clear hs hb hf
  simp only [Dv.val]
  by_cases hl : 200 < rest.length
  · have zl : decide ((200 : Int) < (rest.length : Int)) = true := decide_eq_true (by omega)
    clear hl
    go_enter Try.func4, Try.ntmps4
    go_wp2_with fail
    refine (HWK.out _).mono ?_
    rintro e w1 ⟨rfl, ho1⟩
    have O1 := Lib.hid ho1
    clear ho1
    go_wp2
    go_ret
    exact ⟨rfl, only_more ((Only.refl _ w).alloc _) O1.out⟩
  · have zl : decide ((200 : Int) < (rest.length : Int)) = false := decide_eq_false (by omega)
    have hl' : rest.length ≤ 200 := by omega
    clear hl
    obtain ⟨out, k0, hol, _, hcp, hrp⟩ := both_put d rest HF.out HB.out (by omega)
    obtain ⟨out0, k1, hol0, hlen0, _, hrp0⟩ := both_put d [] HF.out (by simp) (by simp)
    have hlen0 := hlen0 rfl
    have HCP := Lib.hid hcp
    have HRP := Lib.hid hrp
    have HRP0 := Lib.hid (show ∀ w, Calls Try.prog 16 #[.agg d.cells, .slice none 0 0] w fun e w' => ∃ A c, e = .returned (.tuple #[.slice A d.len c, .int .i64 k1]) ∧ Only (fun _ => False) w w' from fun w => by
      refine (hrp0 none 0 0 w (.inl ⟨rfl, rfl⟩)).mono ?_
      rintro e w' ⟨A, c, rfl, _, ho⟩
      exact ⟨A, c, by rw [hlen0], ho⟩)
    have HRL := Lib.hid (show rest.length ≤ 140737488355328 from by omega)
    have HOL := Lib.hid (show out.length ≤ 140737488355328 from by omega)
    have HRD := Lib.hid (fun w => right_is d w HF.out)
    have HRR := Lib.hid (fun w => rright_is d w HF.out)
    have HLD := Lib.hid (fun w => len_is d w HF.out)
    have HK1 := Lib.hid (fun w (h : Src w (.slice Ab rest.length cb) rest) => key_is d _ rest w h HB.out)
    have HK2 := Lib.hid (fun A c w (h : Src w (.slice A rest.length c) rest) => rkey_is d _ rest w h HB.out)
    have HA := Lib.hid (show ∀ w, Calls Try.prog 18 #[.agg d.cells, .int .u16 pic, .int .u8 tl0, .int .u8 tid, .bool sync] w fun e w' => e = .returned (.agg (d.anew pic tl0 tid sync).cells) ∧ Only (fun _ => False) w w' from fun w => anew_is d pic tl0 tid sync w hpic ht)
    have HRA := Lib.hid (fun w => ranew_is d pic tl0 tid sync w hpic ht)
    simp only [Dv.val] at HRD HLD HK1
    generalize d.anew pic tl0 tid sync = a at *
    generalize d.begins rest = kb at *
    generalize d.right = b at *
    generalize d.len = L at *
    have VA := Lib.hid (Dv.one a)
    clear hcp hrp hrp0 hol hol0 hlen0
    go_enter Try.func4, Try.ntmps4
    go_upto_region 1 with (fail)
    obtain ⟨db, hdb⟩ : ∃ db, w.heap.size = db := ⟨_, rfl⟩
    have HI' := HI.out
    generalize hw0 : World.alloc _ _ = w0 at *
    rw [hdb] at HI'
    have P0 := Lib.hid (show Only (fun _ => False) w w0 from by rw [← hw0]; exact (Only.refl _ w).alloc _)
    have HS0 := Lib.hid (HS.out.only P0.out (by simp))
    have HI0 := Lib.hid HI'
    clear hw0 HI HI' HS
    rw [hdb]
    clear hdb
    go_upto_region 5 with (first
      | (go_at_call 8; refine (kitown_is _ rest w0 w0.heap.size (Nat.le_refl _) HS0.out HRL.out).mono ?_; rintro e w1 ⟨v1, rfl, hv1, ho1, -⟩; rw [length_cellsOf] at hv1; obtain ⟨A1, c1, rfl, -⟩ := own_slice hv1; have S1 := Lib.hid (Src.of_own hv1); have O1 := Lib.hid ho1; clear hv1 ho1)
      | (refine wpList_load_want (o := ⟨some 29, _, _, _, _, _⟩) rfl _ _ rfl db rfl _ _ _ (HI0.out.only O1.out (by simp)) Try.underlying31 rfl Try.sizeDesc ?_)
      | (go_at_call 11; refine (ref_is d _).mono ?_; rintro e w2 ⟨rfl, ho2⟩; have O2 := Lib.hid ho2; clear ho2)
      | (go_at_call 16; refine (HRP.out _ _ _ _ (S1.out.only O2.out (by simp))).mono ?_; rintro e w3 ⟨A3, c3, rfl, hown3, ho3⟩; have S3 := Lib.hid (Src.of_own hown3); have O3 := Lib.hid (only_more O1.out (only_more O2.out ho3)); have S13 := Lib.hid (S1.out.only (only_more O2.out ho3) (by simp)); clear hown3 ho3))
    have T3 := Lib.hid (only_more P0.out O3.out)
    have D3 := Lib.hid (HI0.out.only O3.out (by simp))
    have V3 := Lib.hid (HS0.out.only O3.out (by simp))
    clear O1 O2 O3 S1 HI0 HS0 P0
    go_wp2
    go_loopw [16] (fun i wr => ∃ k : Nat, k ≤ 2 ∧ i = .int .i64 k ∧ Only (fun _ => False) w3 wr) (fun i _ => 2 - (intOf i).toNat)
    case atStart => exact ⟨0, by omega, rfl, Only.refl _ _⟩
    case round =>
      obtain ⟨k, hk, rfl, hpw⟩ := hrel
      have HPW := Lib.hid hpw
      clear hpw
      by_cases hlt : k < 2
      · have zk : (k : Int) < 2 := by omega
        have HCP2 := Lib.hid (HCP.out _ _ _ wr (V3.out.only HPW.out (by simp)))
        go_upto_region 11 with (first
          | (refine wpList_load_want (o := ⟨some 40, _, _, _, _, _⟩) rfl _ _ rfl db rfl _ _ _ (D3.out.only HPW.out (by simp)) Try.underlying31 rfl Try.sizeDesc ?_)
          | (go_at_call 17; refine HCP2.out.mono ?_; rintro e w5 ⟨A2, c2, rfl, hown2, ho5⟩; have OWN := Lib.hid hown2; have O5 := Lib.hid ho5; clear hown2 ho5)
          | (go_at_call 12; refine (same_yes _ _ out _ (Src.of_own OWN.out) (S3.out.only (only_more HPW.out O5.out) (by simp)) HOL.out).mono ?_; rintro e w6 ⟨rfl, ho6⟩; have O6 := Lib.hid ho6; clear ho6))
        go_wp2_with fail
        refine (spoil_is _ out.length wr.heap.size _ w6 (own_only OWN.out O6.out (by simp)) HOL.out).mono ?_
        rintro e wa ⟨rfl, hoa⟩
        have TA := Lib.hid (only_row (only_more O5.out O6.out) (own_only OWN.out O6.out (by simp)) (Nat.le_refl _) hoa)
        clear hoa
        go_wp2
        exact ⟨⟨k + 1, by omega, by go_num, only_more HPW.out TA.out⟩, by simp [intOf]; omega⟩
      · obtain rfl : k = 2 := by omega
        go_upto_region 14 with (first
          | (refine wpList_load_want (o := ⟨some 57, _, _, _, _, _⟩) rfl _ _ rfl db rfl _ _ _ (D3.out.only HPW.out (by simp)) Try.underlying31 rfl Try.sizeDesc ?_)
          | (go_at_call 11; refine (ref_is d _).mono ?_; rintro e w5 ⟨rfl, ho5⟩; have O5 := Lib.hid ho5; clear ho5)
          | (go_at_call 16; refine (HRP0.out _).mono ?_; rintro e w6 ⟨A6, c6, rfl, ho6⟩; have O6 := Lib.hid (only_more HPW.out (only_more O5.out ho6)); clear ho6)
          | (refine wpList_load_want (o := ⟨some 62, _, _, _, _, _⟩) rfl _ _ rfl db rfl _ _ _ (D3.out.only O6.out (by simp)) Try.underlying31 rfl Try.sizeDesc ?_)
          | (go_at_call 18; refine (HA.out _).mono ?_; rintro e w7 ⟨rfl, ho7⟩; have O7 := Lib.hid (only_more O6.out ho7); clear ho7)
          | (refine wpList_store_is rfl 31 _ _ rfl w7.heap.size a.cells rfl rfl 31 Dv.zero.cells (Is.made _ _ Dv.zero.cells) Try.sizeDesc rfl VA.out ?_; intro w8 hi hp))
        have O8 := Lib.hid (only_more O7.out (only_stored hp))
        have T8 := Lib.hid (only_more T3.out O8.out)
        have N8 := Lib.hid (show Fin5 db w7.heap.size d.cells a.cells (.slice Ab rest.length cb) (.slice A1 rest.length c1) rest w8 w8 from
          ⟨D3.out.only O8.out (by simp), hi, V3.out.only O8.out (by simp), S13.out.only O8.out (by simp), Only.refl _ _⟩)
        generalize w7.heap.size = ab at *
        clear hi hp
        refine wp_region_posts [[], [0], [], [2, 1, 0], [3, 2, 1, 0], [1, 4, 0, 3, 2], [5, 4, 1, 0, 3, 2], [6, 5, 4, 1, 0, 3, 2], [7, 6, 5, 4, 1, 0, 3, 2], [6, 5, 4, 1, 0, 3, 2], [9, 6, 5, 4, 1, 0, 3, 2], [8, 10, 6, 7, 5, 4, 1, 0, 3, 2, 9], [6, 11, 5, 4, 1, 0, 3, 2, 8, 10, 7, 9], [12, 8, 6, 11, 5, 4, 1, 0, 3, 2, 10, 7, 9], [13, 12, 8, 6, 11, 5, 4, 1, 0, 3, 2, 10, 7, 9], [13, 12, 8, 6, 11, 5, 4, 1, 0, 3, 2, 10, 7, 9], [14, 15, 13, 12, 8, 6, 11, 5, 4, 1, 0, 3, 2, 10, 7, 9], [13, 12, 8, 6, 11, 5, 4, 1, 0, 3, 2, 10, 7, 9], [17, 16, 13, 12, 8, 6, 11, 5, 4, 1, 0, 3, 2, 10, 7, 9, 14, 15], [13, 12, 8, 6, 11, 5, 4, 1, 0, 3, 2, 10, 7, 9], [18, 19, 13, 17, 16, 12, 8, 6, 11, 5, 4, 1, 0, 3, 2, 10, 7, 9, 14, 15], [16, 20, 13, 14, 15, 12, 8, 6, 11, 5, 4, 1, 0, 3, 2, 10, 7, 9, 18, 19, 17], [13, 21, 12, 8, 6, 11, 5, 4, 1, 0, 3, 2, 10, 7, 9, 16, 20, 14, 15, 18, 19, 17], [22, 20, 13, 21, 12, 8, 6, 11, 5, 4, 1, 0, 3, 2, 10, 7, 9, 16, 14, 15, 18, 19, 17], [23, 22, 20, 13, 21, 12, 8, 6, 11, 5, 4, 1, 0, 3, 2, 10, 7, 9, 16, 14, 15, 18, 19, 17], [24, 23, 22, 20, 13, 21, 12, 8, 6, 11, 5, 4, 1, 0, 3, 2, 10, 7, 9, 16, 14, 15, 18, 19, 17], [23, 22, 20, 13, 21, 12, 8, 6, 11, 5, 4, 1, 0, 3, 2, 10, 7, 9, 16, 14, 15, 18, 19, 17], [26, 25, 23, 22, 20, 13, 21, 12, 8, 6, 11, 5, 4, 1, 0, 3, 2, 10, 7, 9, 16, 14, 15, 18, 19, 17, 24], [23, 22, 20, 13, 21, 12, 8, 6, 11, 5, 4, 1, 0, 3, 2, 10, 7, 9, 16, 14, 15, 18, 19, 17], [23, 22, 20, 13, 21, 12, 8, 6, 11, 5, 4, 1, 0, 3, 2, 10, 7, 9, 16, 14, 15, 18, 19, 17], [23, 22, 20, 13, 21, 12, 8, 6, 11, 5, 4, 1, 0, 3, 2, 10, 7, 9, 16, 14, 15, 18, 19, 17], [23, 22, 20, 13, 21, 12, 8, 6, 11, 5, 4, 1, 0, 3, 2, 10, 7, 9, 16, 14, 15, 18, 19, 17], [27, 28, 29, 30, 31, 23, 26, 25, 22, 20, 13, 21, 12, 8, 6, 11, 5, 4, 1, 0, 3, 2, 10, 7, 9, 16, 14, 15, 18, 19, 17, 24], [25, 32, 23, 24, 22, 20, 13, 21, 12, 8, 6, 11, 5, 4, 1, 0, 3, 2, 10, 7, 9, 16, 14, 15, 18, 19, 17, 27, 28, 29, 30, 31, 26], [23, 33, 22, 20, 13, 21, 12, 8, 6, 11, 5, 4, 1, 0, 3, 2, 10, 7, 9, 16, 14, 15, 18, 19, 17, 25, 32, 24, 27, 28, 29, 30, 31, 26], [34, 32, 23, 33, 22, 20, 13, 21, 12, 8, 6, 11, 5, 4, 1, 0, 3, 2, 10, 7, 9, 16, 14, 15, 18, 19, 17, 25, 24, 27, 28, 29, 30, 31, 26], [35, 34, 32, 23, 33, 22, 20, 13, 21, 12, 8, 6, 11, 5, 4, 1, 0, 3, 2, 10, 7, 9, 16, 14, 15, 18, 19, 17, 25, 24, 27, 28, 29, 30, 31, 26], [35, 34, 32, 23, 33, 22, 20, 13, 21, 12, 8, 6, 11, 5, 4, 1, 0, 3, 2, 10, 7, 9, 16, 14, 15, 18, 19, 17, 25, 24, 27, 28, 29, 30, 31, 26], [36, 37, 35, 34, 32, 23, 33, 22, 20, 13, 21, 12, 8, 6, 11, 5, 4, 1, 0, 3, 2, 10, 7, 9, 16, 14, 15, 18, 19, 17, 25, 24, 27, 28, 29, 30, 31, 26], [35, 38, 34, 32, 23, 33, 22, 20, 13, 21, 12, 8, 6, 11, 5, 4, 1, 0, 3, 2, 10, 7, 9, 16, 14, 15, 18, 19, 17, 25, 24, 27, 28, 29, 30, 31, 26, 36, 37], [39, 38, 35, 34, 32, 23, 33, 22, 20, 13, 21, 12, 8, 6, 11, 5, 4, 1, 0, 3, 2, 10, 7, 9, 16, 14, 15, 18, 19, 17, 25, 24, 27, 28, 29, 30, 31, 26, 36, 37], [40, 39, 38, 35, 34, 32, 23, 33, 22, 20, 13, 21, 12, 8, 6, 11, 5, 4, 1, 0, 3, 2, 10, 7, 9, 16, 14, 15, 18, 19, 17, 25, 24, 27, 28, 29, 30, 31, 26, 36, 37], [40, 41, 39, 38, 35, 34, 32, 23, 33, 22, 20, 13, 21, 12, 8, 6, 11, 5, 4, 1, 0, 3, 2, 10, 7, 9, 16, 14, 15, 18, 19, 17, 25, 24, 27, 28, 29, 30, 31, 26, 36, 37], [42, 41, 0, 1, 2, 3, 4, 5, 6, 7, 8, 9, 10, 11, 12, 13, 14, 15, 16, 17, 18, 19, 20, 21, 22, 23, 24, 25, 26, 27, 28, 29, 30, 31, 32, 33, 34, 35, 36, 37, 38, 39, 40]] [1, 3, 4, 8, 16, 18, 20, 25, 27, 32, 38, 41] [] [[], [], [], [], [], [], [], [], [], [], [], [], [], [], [], [], [], [], [], [], [], [], [], [], [], [], [], [], [], [], [], [], [], [], [], [], [], [], [], [], [], [], [], []] [[], [], [], [], [], [], [], [], [], [], [], [], [], [], [], [], [], [], [], [], [], [], [], [], [], [], [], [], [], [], [], [], [], [], [], [], [], [], [], [], [], [], [], []] [] [] [] []
            [some (.agg d.cells), some (.bool b), some (.agg d.cells), some (.agg d.cells), some (.bool b), some ?v5, some ?v6, some (.agg d.cells), some (.int .i64 L), some ?v9, some ?v10, some ?v11, some ?v12, some ?v13, some (.agg d.cells), some ?v15, some (.bool kb), some (.agg d.cells), some (.agg d.cells), some ?v19, some (.bool kb), some ?v21, some ?v22, some ?v23, some (.agg a.cells), some (.agg a.cells), some (.agg d.cells), some (.agg d.cells), some ?v28, some ?v29, some ?v30, some ?v31, some (.agg a.cells), some (.bool true), some ?v34, some ?v35, some ?v36, some ?v37, some (.bool true), some ?v39, some ?v40, some (.bool true), some ?v42, some ?v43]
            ?T (fun wx => Fin5 db ab d.cells a.cells (.slice Ab rest.length cb) (.slice A1 rest.length c1) rest w8 wx) ?W ?E (by kernel_rfl) (by kernel_rfl) (by kernel_rfl) (fun x => ?hT) ?hF ?hini (Reg.all_ops ?runs) ?pres ?fin
        case W => exact fun _ _ _ => True
        case E => exact fun _ w' w'' => Only (fun _ => False) w' w''
        case hT =>
          simp only [Reg.fillV, Act.put, List.setIfInBounds_toArray, List.set_cons_zero, List.set_cons_succ]
          rfl
        case runs =>
          refine And.intro ?_ ?_
          · refine Reg.ob_pure (fun _ => rfl) rfl rfl rfl rfl (fun x w1 hF => ?_)
            exact run_load_is 31 _ (by rfl) db (by rfl) 31 _ _ hF.d Try.underlying31 rfl Try.sizeDesc
          refine And.intro ?_ ?_
          · refine Reg.ob_known (fun _ => rfl) rfl rfl (fun x w1 hF hU K hK => ?_)
            replace hF := hF rfl
            go_simp
            refine (HRD.out _).mono ?_
            rintro e w3 ⟨rfl, ho⟩
            exact hK w3 (fun _ _ _ => hF.go ho) ho
          refine And.intro ?_ ?_
          · refine Reg.ob_pure (fun _ => rfl) rfl rfl rfl rfl (fun x w1 hF => ?_)
            exact run_load_is 31 _ (by rfl) db (by rfl) 31 _ _ hF.d Try.underlying31 rfl Try.sizeDesc
          refine And.intro ?_ ?_
          · refine Reg.ob_known (fun _ => rfl) rfl rfl (fun x w1 hF hU K hK => ?_)
            replace hF := hF rfl
            go_simp
            refine (ref_is d _).mono ?_
            rintro e w3 ⟨rfl, ho⟩
            exact hK w3 (fun _ _ _ => hF.go ho) ho
          refine And.intro ?_ ?_
          · refine Reg.ob_known (fun _ => rfl) rfl rfl (fun x w1 hF hU K hK => ?_)
            replace hF := hF rfl
            go_simp
            refine (HRR.out _).mono ?_
            rintro e w3 ⟨rfl, ho⟩
            exact hK w3 (fun _ _ _ => hF.go ho) ho
          refine And.intro ?_ ?_
          · refine Reg.ob_pure (fun _ => rfl) rfl rfl rfl rfl (fun x w1 hF => ?_)
            go_simp
            with_reducible rfl
          refine And.intro ?_ ?_
          · refine Reg.ob_pure (fun _ => rfl) rfl rfl rfl rfl (fun x w1 hF => ?_)
            go_simp
            with_reducible rfl
          refine And.intro ?_ ?_
          · refine Reg.ob_pure (fun _ => rfl) rfl rfl rfl rfl (fun x w1 hF => ?_)
            exact run_load_is 31 _ (by rfl) db (by rfl) 31 _ _ hF.d Try.underlying31 rfl Try.sizeDesc
          refine And.intro ?_ ?_
          · refine Reg.ob_known (fun _ => rfl) rfl rfl (fun x w1 hF hU K hK => ?_)
            replace hF := hF rfl
            go_simp
            refine (HLD.out _).mono ?_
            rintro e w3 ⟨rfl, ho⟩
            exact hK w3 (fun _ _ _ => hF.go ho) ho
          refine And.intro ?_ ?_
          · refine Reg.ob_pure (fun _ => rfl) rfl rfl rfl rfl (fun x w1 hF => ?_)
            go_simp
            with_reducible rfl
          refine And.intro ?_ ?_
          · refine Reg.ob_pure (fun _ => rfl) rfl rfl rfl rfl (fun x w1 hF => ?_)
            go_simp
            with_reducible rfl
          refine And.intro ?_ ?_
          · refine Reg.ob_pure (fun _ => rfl) rfl rfl rfl rfl (fun x w1 hF => ?_)
            go_simp
            with_reducible rfl
          refine And.intro ?_ ?_
          · refine Reg.ob_pure (fun _ => rfl) rfl rfl rfl rfl (fun x w1 hF => ?_)
            go_simp
            with_reducible rfl
          refine And.intro ?_ ?_
          · refine Reg.ob_pure (fun _ => rfl) rfl rfl rfl rfl (fun x w1 hF => ?_)
            go_simp
            with_reducible rfl
          refine And.intro ?_ ?_
          · refine Reg.ob_pure (fun _ => rfl) rfl rfl rfl rfl (fun x w1 hF => ?_)
            exact run_load_is 31 _ (by rfl) db (by rfl) 31 _ _ hF.d Try.underlying31 rfl Try.sizeDesc
          refine And.intro ?_ ?_
          · refine Reg.ob_pure (fun _ => rfl) rfl rfl rfl rfl (fun x w1 hF => ?_)
            go_simp
            with_reducible rfl
          refine And.intro ?_ ?_
          · refine Reg.ob_known (fun _ => rfl) rfl rfl (fun x w1 hF hU K hK => ?_)
            replace hF := hF rfl
            go_simp
            refine (HK1.out _ hF.s1).mono ?_
            rintro e w3 ⟨rfl, ho⟩
            exact hK w3 (fun _ _ _ => hF.go ho) ho
          refine And.intro ?_ ?_
          · refine Reg.ob_pure (fun _ => rfl) rfl rfl rfl rfl (fun x w1 hF => ?_)
            exact run_load_is 31 _ (by rfl) db (by rfl) 31 _ _ hF.d Try.underlying31 rfl Try.sizeDesc
          refine And.intro ?_ ?_
          · refine Reg.ob_known (fun _ => rfl) rfl rfl (fun x w1 hF hU K hK => ?_)
            replace hF := hF rfl
            go_simp
            refine (ref_is d _).mono ?_
            rintro e w3 ⟨rfl, ho⟩
            exact hK w3 (fun _ _ _ => hF.go ho) ho
          refine And.intro ?_ ?_
          · refine Reg.ob_pure (fun _ => rfl) rfl rfl rfl rfl (fun x w1 hF => ?_)
            go_simp
            with_reducible rfl
          refine And.intro ?_ ?_
          · refine Reg.ob_known (fun _ => rfl) rfl rfl (fun x w1 hF hU K hK => ?_)
            replace hF := hF rfl
            go_simp
            refine (HK2.out _ _ _ hF.s2).mono ?_
            rintro e w3 ⟨rfl, ho⟩
            exact hK w3 (fun _ _ _ => hF.go ho) ho
          refine And.intro ?_ ?_
          · refine Reg.ob_pure (fun _ => rfl) rfl rfl rfl rfl (fun x w1 hF => ?_)
            go_simp
            with_reducible rfl
          refine And.intro ?_ ?_
          · refine Reg.ob_pure (fun _ => rfl) rfl rfl rfl rfl (fun x w1 hF => ?_)
            go_simp
            with_reducible rfl
          refine And.intro ?_ ?_
          · refine Reg.ob_pure (fun _ => rfl) rfl rfl rfl rfl (fun x w1 hF => ?_)
            go_simp
            with_reducible rfl
          refine And.intro ?_ ?_
          · refine Reg.ob_pure (fun _ => rfl) rfl rfl rfl rfl (fun x w1 hF => ?_)
            exact run_load_is 31 _ (by rfl) ab (by rfl) 31 _ _ hF.a Try.underlying31 rfl Try.sizeDesc
          refine And.intro ?_ ?_
          · refine Reg.ob_known (fun _ => rfl) rfl rfl (fun x w1 hF hU K hK => ?_)
            replace hF := hF rfl
            go_simp
            refine (ref_is a _).mono ?_
            rintro e w3 ⟨rfl, ho⟩
            exact hK w3 (fun _ _ _ => hF.go ho) ho
          refine And.intro ?_ ?_
          · refine Reg.ob_pure (fun _ => rfl) rfl rfl rfl rfl (fun x w1 hF => ?_)
            exact run_load_is 31 _ (by rfl) db (by rfl) 31 _ _ hF.d Try.underlying31 rfl Try.sizeDesc
          refine And.intro ?_ ?_
          · refine Reg.ob_known (fun _ => rfl) rfl rfl (fun x w1 hF hU K hK => ?_)
            replace hF := hF rfl
            go_simp
            refine (ref_is d _).mono ?_
            rintro e w3 ⟨rfl, ho⟩
            exact hK w3 (fun _ _ _ => hF.go ho) ho
          refine And.intro ?_ ?_
          · refine Reg.ob_pure (fun _ => rfl) rfl rfl rfl rfl (fun x w1 hF => ?_)
            go_simp
            with_reducible rfl
          refine And.intro ?_ ?_
          · refine Reg.ob_pure (fun _ => rfl) rfl rfl rfl rfl (fun x w1 hF => ?_)
            go_simp
            with_reducible rfl
          refine And.intro ?_ ?_
          · refine Reg.ob_pure (fun _ => rfl) rfl rfl rfl rfl (fun x w1 hF => ?_)
            go_simp
            with_reducible rfl
          refine And.intro ?_ ?_
          · refine Reg.ob_pure (fun _ => rfl) rfl rfl rfl rfl (fun x w1 hF => ?_)
            go_simp
            with_reducible rfl
          refine And.intro ?_ ?_
          · refine Reg.ob_known (fun _ => rfl) rfl rfl (fun x w1 hF hU K hK => ?_)
            replace hF := hF rfl
            go_simp
            refine (HRA.out _).mono ?_
            rintro e w3 ⟨rfl, ho⟩
            exact hK w3 (fun _ _ _ => hF.go ho) ho
          refine And.intro ?_ ?_
          · refine Reg.ob_pure (fun _ => rfl) rfl rfl rfl rfl (fun x w1 hF => ?_)
            exact run_eql_ref w1 _ _ a.cells a.cells (by rfl) (by rfl) (by rfl) (by rw [eq_ref, same_self])
          refine And.intro ?_ ?_
          · refine Reg.ob_pure (fun _ => rfl) rfl rfl rfl rfl (fun x w1 hF => ?_)
            go_simp
            with_reducible rfl
          refine And.intro ?_ ?_
          · refine Reg.ob_pure (fun _ => rfl) rfl rfl rfl rfl (fun x w1 hF => ?_)
            go_simp
            with_reducible rfl
          refine And.intro ?_ ?_
          · refine Reg.ob_pure (fun _ => rfl) rfl rfl rfl rfl (fun x w1 hF => ?_)
            go_simp
            with_reducible rfl
          refine And.intro ?_ ?_
          · refine Reg.ob_pure (fun _ => rfl) rfl rfl rfl rfl (fun x w1 hF => ?_)
            go_simp
            with_reducible rfl
          refine And.intro ?_ ?_
          · refine Reg.ob_known (fun _ => rfl) rfl rfl (fun x w1 hF hU K hK => ?_)
            replace hF := hF rfl
            go_simp
            refine (same_yes _ _ rest _ hF.s1 hF.s2 HRL.out).mono ?_
            rintro e w3 ⟨rfl, ho⟩
            exact hK w3 (fun _ _ _ => hF.go ho) ho
          refine And.intro ?_ ?_
          · refine Reg.ob_pure (fun _ => rfl) rfl rfl rfl rfl (fun x w1 hF => ?_)
            go_simp
            with_reducible rfl
          refine And.intro ?_ ?_
          · refine Reg.ob_pure (fun _ => rfl) rfl rfl rfl rfl (fun x w1 hF => ?_)
            go_simp
            with_reducible rfl
          refine And.intro ?_ ?_
          · refine Reg.ob_known (fun _ => rfl) rfl rfl (fun x w1 hF hU K hK => ?_)
            replace hF := hF rfl
            go_simp
            refine (works_any _).mono ?_
            rintro e w3 ⟨rfl, ho⟩
            exact hK w3 (fun _ _ _ => hF.go ho) ho
          refine And.intro ?_ ?_
          · refine Reg.ob_pure (fun _ => rfl) rfl rfl rfl rfl (fun x w1 hF => ?_)
            go_simp
            with_reducible rfl
          refine And.intro ?_ ?_
          · refine Reg.ob_pure (fun _ => rfl) rfl rfl rfl rfl (fun x w1 hF => ?_)
            go_simp
            with_reducible rfl
          exact trivial
        case hF =>
          exact N8.out.go ((Only.refl _ _).drewN 1)
        case hini =>
          exact trivial
        case pres =>
          intro i hi j hj
          cases hj
        case fin =>
          rintro x w9 hF -
          replace hF := hF rfl
          go_wp2
          go_ret
          exact ⟨rfl, only_more T8.out hF.pure⟩
end Go.Proofs.Ytneogagainllnaa
