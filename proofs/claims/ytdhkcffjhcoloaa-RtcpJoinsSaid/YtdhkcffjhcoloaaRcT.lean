/- RtcpJoins: its walk. Conditions: as it says. -/
import Derived.Test.YtdhkcffjhcoloaaRcR
import Derived.Test.YtdhkcffjhcoloaaRrE
set_option linter.unusedVariables false
namespace Go.Proofs.Ytdhkcffjhcoloaa
open Go.RowKit

def sameP (p q : Pkt) : Bool := (p.count == q.count) && (p.kind == q.kind) && decide (p.body = q.body) && (p.pad == q.pad)
theorem sameP_self (p : Pkt) : sameP p p = true := by simp [sameP]
theorem nat_beq (a b : Nat) : (((a : Nat) : Int) == (b : Int)) = (a == b) := by rw [Bool.eq_iff_iff]; simp; omega
set_option maxRecDepth 100000 in
set_option maxHeartbeats 2000000 in
theorem same_pk (p q : Pkt) (u v : Value) (w : World) (hu : Src w u p.body) (hv : Src w v q.body) (hp : p.Fit) (hq : q.Fit) :
    Calls Try.prog 17 #[.agg #[.int .u8 (p.count : Nat), .int .u8 (p.kind : Nat), u, .int .u8 (p.pad : Nat)], .agg #[.int .u8 (q.count : Nat), .int .u8 (q.kind : Nat), v, .int .u8 (q.pad : Nat)]] w fun e w' => e = .returned (.bool (sameP p q)) ∧ Only (fun _ => False) w w' := by
  obtain ⟨A1, c1, rfl⟩ := hu.slice
  obtain ⟨A2, c2, rfl⟩ := hv.slice
  have H1 := Lib.hid hu
  have H2 := Lib.hid hv
  have HB1 := Lib.hid hp.bytes
  have HB2 := Lib.hid hq.bytes
  have e1 := nat_beq p.count q.count
  have e2 := nat_beq p.kind q.kind
  have e4 := nat_beq p.pad q.pad
  have HS := Lib.hid (show sameP p q = ((p.count == q.count) && (p.kind == q.kind) && decide (p.body = q.body) && (p.pad == q.pad)) from rfl)
  have HEQ := Lib.hid (fun w' (h : Only (fun _ => False) w w') => bytes_equal (.slice A1 p.body.length c1) (.slice A2 q.body.length c2) p.body q.body w' (H1.out.of_only h) (H2.out.of_only h) HB1.out HB2.out)
  generalize decide (p.body = q.body) = b3 at *
  generalize (p.count == q.count) = b1 at *
  generalize (p.kind == q.kind) = b2 at *
  generalize (p.pad == q.pad) = b4 at *
  generalize p.body.length = l1 at *
  generalize q.body.length = l2 at *
  clear hu hv hp hq
  cases b1 <;> cases b2
  case true.true =>
    go_enter Try.func17, Try.ntmps17
    go_wp2_with fail
    refine (HEQ.out _ (((Only.refl _ w).alloc _).alloc _)).mono ?_
    rintro e w1 ⟨rfl, rfl⟩
    cases b3 <;> cases b4
    all_goals
      go_wp2
      go_ret
      exact ⟨by rw [HS.out]; rfl, ((Only.refl _ w).alloc _).alloc _⟩
  all_goals
    go_enter Try.func17, Try.ntmps17
    go_wp2
    go_ret
    exact ⟨by rw [HS.out]; rfl, ((Only.refl _ w).alloc _).alloc _⟩
set_option maxRecDepth 100000 in
set_option maxHeartbeats 2000000 in
theorem rsame_any (p q : Pkt) (u v : Value) (w : World) (hu : Src w u p.body) (hv : Src w v q.body) (hl : p.body.length ≤ 1000000) :
    Calls Try.prog 18 #[.agg #[.int .u8 (p.count : Nat), .int .u8 (p.kind : Nat), u, .int .u8 (p.pad : Nat)], .agg #[.int .u8 (q.count : Nat), .int .u8 (q.kind : Nat), v, .int .u8 (q.pad : Nat)]] w fun e w' => e = .returned (.bool (sameP p q)) ∧ Only (fun _ => False) w w' := by
  obtain ⟨A1, c1, rfl⟩ := hu.slice
  obtain ⟨A2, c2, rfl⟩ := hv.slice
  have H1 := Lib.hid hu
  have H2 := Lib.hid hv
  have e1 := nat_beq p.count q.count
  have e2 := nat_beq p.kind q.kind
  have e4 := nat_beq p.pad q.pad
  have HS := Lib.hid (show sameP p q = ((p.count == q.count) && (p.kind == q.kind) && decide (p.body = q.body) && (p.pad == q.pad)) from rfl)
  have HEQ := Lib.hid (fun w' (h : Only (fun _ => False) w w') => rsame_is (.slice A1 p.body.length c1) (.slice A2 q.body.length c2) p.body q.body w' (H1.out.of_only h) (H2.out.of_only h) (by omega))
  generalize decide (p.body = q.body) = b3 at *
  generalize (p.count == q.count) = b1 at *
  generalize (p.kind == q.kind) = b2 at *
  generalize (p.pad == q.pad) = b4 at *
  generalize p.body.length = l1 at *
  generalize q.body.length = l2 at *
  clear hu hv
  cases b1 <;> cases b2 <;> cases b4
  case true.true.true =>
    go_enter Try.func18, Try.ntmps18
    go_wp2_with fail
    refine (HEQ.out _ (((Only.refl _ w).alloc _).alloc _)).mono ?_
    rintro e w1 ⟨rfl, nn, rfl⟩
    cases b3
    all_goals
      go_wp2
      go_ret
      exact ⟨by rw [HS.out]; rfl, (((Only.refl _ w).alloc _).alloc _).drewN nn⟩
  all_goals
    go_enter Try.func18, Try.ntmps18
    go_wp2
    go_ret
    exact ⟨by rw [HS.out]; cases b3 <;> rfl, ((Only.refl _ w).alloc _).alloc _⟩

/-- What is joined, or nothing. -/
def jb (l : List Pkt) : List Nat := if joinErr l = 0 then encs l else []
def JoinTold (l : List Pkt) (w : World) (e : Ending) (w' : World) : Prop := ∃ v, e = .returned (.tuple #[v, .int .i64 (joinErr l : Nat)]) ∧ w'.ownsRow w.heap.size 5 1 v (jb l).length (cellsOf (jb l)) ∧ Only (fun _ => False) w w'
theorem join_told {l : List Pkt} {w w' : World} {e : Ending} (h : JoinEnd l w e w') : JoinTold l w e w' := by
  obtain ⟨ho, ⟨h0, rfl⟩ | ⟨h0, v, rfl, hv⟩⟩ := h
  · exact ⟨_, rfl, by unfold jb; rw [if_neg h0]; exact World.ownsRow_nil _ _ _ _, ho⟩
  · exact ⟨v, by rw [h0]; rfl, by unfold jb; rw [if_pos h0]; exact hv, ho⟩

set_option maxRecDepth 100000 in
set_option maxHeartbeats 4000000 in
theorem joins_any (v : Value) (l : List Pkt) (w : World) (hr : RdP w v l) (hf : ∀ p ∈ l, p.Fit) (hl : l.length ≤ 9223372036854775807) :
    Calls Try.prog 3 #[v] w fun e w' => e = .returned (.bool true) ∧ Only (fun _ => False) w w' := by
  have HFW := Lib.hid (few_is v l w hr hl)
  have HR := Lib.hid hr
  have HF := Lib.hid hf
  have HWK := Lib.hid (fun w => works_any w)
  obtain ⟨Al, cl, rfl, -, -⟩ := hr
  clear hf hl
  obtain ⟨fw, hfw⟩ : ∃ b, fewB l = b := ⟨_, rfl⟩
  have HFB := Lib.hid hfw
  rw [hfw] at HFW
  clear hfw
  go_enter Try.func3, Try.ntmps3
  go_wp2_with fail
  refine HFW.out.mono ?_
  rintro e w0 ⟨rfl, rfl⟩
  cases fw
  · go_wp2_with fail
    refine (HWK.out _).mono ?_
    rintro e w1 ⟨rfl, ho1⟩
    have O1 := Lib.hid ho1
    clear ho1
    go_wp2
    go_ret
    exact ⟨rfl, O1.out⟩
  · have hfew := HFB.out
    unfold fewB at hfew
    simp only [Bool.and_eq_true, decide_eq_true_eq] at hfew
    have HFE := Lib.hid hfew
    clear hfew
    have HEL := Lib.hid (show (encs l).length ≤ 20000 from by
      have h1 := encs_few l 800 (fun p hp => ⟨HFE.out.1 p hp, (HF.out p hp).pad⟩)
      have h2 := HFE.out.2
      have h3 : (800 + 260) * l.length ≤ (800 + 260) * 10 := Nat.mul_le_mul_left _ h2
      omega)
    have HJL := Lib.hid (show (jb l).length ≤ 20000 from by
      unfold jb
      split
      · exact HEL.out
      · simp)
    have HPJ := Lib.hid (fun wx (h : Only (fun _ => False) w wx) => show Calls Try.prog 12 #[.slice Al l.length cl] wx (JoinTold l wx) from (join_is _ l wx (HR.out.only h) HF.out (by have := HFE.out.2; omega) (fun p hp => by have := HFE.out.1 p hp; omega) (fun _ => by have := HEL.out; omega)).mono fun e w' h => join_told h)
    have HRJ := Lib.hid (fun v wx (h : RdP wx v l) => show Calls Try.prog 11 #[v] wx (JoinTold l wx) from (rjoin_is _ l wx h HF.out (by have := HFE.out.2; omega) (fun p hp => by have := HFE.out.1 p hp; omega)).mono fun e w' h => join_told h)
    unfold JoinTold at HPJ HRJ
    generalize jb l = jl at *
    generalize joinErr l = er at *
    go_wp2_with fail
    refine (docs_rtcps _ l w HR.out (by have := HFE.out.2; omega) (fun p hp => by have := HFE.out.1 p hp; omega)).mono ?_
    rintro e w1 ⟨v1, vs1, rfl, hp1, ho1⟩
    have R1 := Lib.hid hp1.rd
    have O1 := Lib.hid ho1
    obtain ⟨A1, c1, rfl, -⟩ := hp1.slice
    clear hp1 ho1
    go_wp2_with fail
    refine (HRJ.out _ _ R1.out).mono ?_
    rintro e w2 ⟨v2, rfl, hv2, ho2⟩
    have S2 := Lib.hid (Src.of_own hv2)
    obtain ⟨A2, c2, rfl, -⟩ := own_slice hv2
    have O2 := Lib.hid (only_more O1.out ho2)
    have R2 := Lib.hid (R1.out.only ho2)
    clear hv2 ho2
    go_wp2
    go_loopw [6] (fun i wr => ∃ k : Nat, k ≤ 2 ∧ i = .int .i64 k ∧ Only (fun _ => False) w2 wr) (fun i _ => 2 - (intOf i).toNat)
    case atStart => exact ⟨0, by omega, rfl, Only.refl _ _⟩
    case round =>
      obtain ⟨k, hk, rfl, hpw⟩ := hrel
      have HPW := Lib.hid hpw
      clear hpw
      by_cases hlt : k < 2
      · have zk : (k : Int) < 2 := by omega
        have HP2 := Lib.hid (HPJ.out wr (only_more O2.out HPW.out))
        go_wp2_with fail
        refine HP2.out.mono ?_
        rintro e w3 ⟨v3, rfl, hv3, ho3⟩
        have OWN := Lib.hid hv3
        have O3 := Lib.hid ho3
        obtain ⟨A3, c3, rfl, -⟩ := own_slice hv3
        have HSM := Lib.hid (kitsame_yes (.slice A3 jl.length c3) (.slice A2 jl.length c2) jl w3 (Src.of_own hv3) (S2.out.of_only (only_more HPW.out ho3)) (by have := HJL.out; omega))
        clear hv3 ho3
        go_wp2_with fail
        refine HSM.out.mono ?_
        rintro e w4 ⟨rfl, ho4⟩
        have OW4 := Lib.hid (owned_only OWN.out ho4 (by simp))
        have O4 := Lib.hid (only_more O3.out ho4)
        clear ho4
        go_wp2_with fail
        refine (spoil_is _ _ _ _ _ OW4.out (by have := HJL.out; omega)).mono ?_
        rintro e w5 ⟨rfl, ho5⟩
        have O5 := Lib.hid (only_more HPW.out (O4.out.trans ho5 (fun i hi e => by have := (OW4.out.lt i e).1; omega)))
        clear ho5
        go_wp2
        exact ⟨⟨k + 1, by omega, by go_num, O5.out⟩, by simp [intOf]; omega⟩
      · obtain rfl : k = 2 := by omega
        have T2 := Lib.hid (only_more O2.out HPW.out)
        have R3 := Lib.hid (R2.out.only HPW.out)
        have hLL : l.length ≤ 10 := HFE.out.2
        go_wp2
        go_loopw [9] (fun i wx => ∃ j : Nat, j ≤ l.length ∧ i = .int .i64 j ∧ Only (fun _ => False) wr wx) (fun i _ => l.length - (intOf i).toNat)
        case atStart => exact ⟨0, by omega, rfl, Only.refl _ _⟩
        case round =>
          obtain ⟨j, hj, rfl, hoj⟩ := hrel
          have OJ := Lib.hid hoj
          have TJ := Lib.hid (only_more T2.out hoj)
          have RJ := Lib.hid (R3.out.only hoj)
          clear hoj
          by_cases hjl : j < l.length
          · obtain ⟨p, hp⟩ : ∃ p, l[j]? = some p := ⟨_, List.getElem?_eq_getElem hjl⟩
            obtain ⟨p0, hp0⟩ : ∃ p, l[0]? = some p := ⟨_, List.getElem?_eq_getElem (by omega)⟩
            obtain ⟨_, _, ea, -, ha0⟩ := HR.out.only TJ.out
            injection ea with ea1 ea2 ea3
            subst ea1 ea3
            obtain ⟨g1, o1, rfl, ha⟩ := ha0 (by omega)
            obtain ⟨_, _, eb, -, hb0⟩ := RJ.out
            injection eb with eb1 eb2 eb3
            subst eb1 eb3
            obtain ⟨g2, o2, rfl, hb⟩ := hb0 (by omega)
            clear ea2 eb2
            obtain ⟨u1, hq1, hs1⟩ := ha j p hp
            obtain ⟨u2, hq2, hs2⟩ := hb j p hp
            obtain ⟨u3, hq3, hs3⟩ := ha 0 p0 hp0
            obtain ⟨u4, hq4, hs4⟩ := hb 0 p0 hp0
            have Q1 := Lib.hid hq1
            have Q2 := Lib.hid hq2
            have S1 := Lib.hid hs1
            have S2' := Lib.hid hs2
            have S3 := Lib.hid hs3
            have S4 := Lib.hid hs4
            have Q3 := Lib.hid (fun wx (h : Only (fun _ => False) _ wx) => hq3.only h)
            have Q4 := Lib.hid (fun wx (h : Only (fun _ => False) _ wx) => hq4.only h)
            have HFP := Lib.hid (HF.out p (List.mem_of_getElem? hp))
            have HFP0 := Lib.hid (HF.out p0 (List.mem_of_getElem? hp0))
            have PB := Lib.hid (show p.body.length ≤ 1000000 from by have := HFE.out.1 p (List.mem_of_getElem? hp); omega)
            have PB0 := Lib.hid (show p0.body.length ≤ 1000000 from by have := HFE.out.1 p0 (List.mem_of_getElem? hp0); omega)
            have hjI : (j : Int) < (l.length : Int) := by omega
            have h0I : (0 : Int) < (l.length : Int) := by omega
            have h0N : 0 < l.length := by omega
            clear ha hb ha0 hb0 hq1 hq2 hq3 hq4 hs1 hs2 hs3 hs4 hp hp0
            obtain ⟨ok, hok⟩ : ∃ b, p.ok = b := ⟨_, rfl⟩
            have HOK := Lib.hid hok
            obtain ⟨sp, hsp⟩ : ∃ b, sameP p p0 = b := ⟨_, rfl⟩
            have HSP := Lib.hid hsp
            clear hok hsp
            go_upto_region 15 with (fail)
            refine wp_region_posts [[], [], [0, 1], [2, 0, 1], [3, 2, 0, 1], [], [], [5, 6], [7, 5, 6], [8, 4, 7, 5, 6, 3, 2, 0, 1], [4, 9, 3, 2, 0, 1, 8, 7, 5, 6], [10, 9, 4, 3, 2, 0, 1, 8, 7, 5, 6], [11, 10, 9, 4, 3, 2, 0, 1, 8, 7, 5, 6], [11, 10, 9, 4, 3, 2, 0, 1, 8, 7, 5, 6], [12, 13, 11, 10, 9, 4, 3, 2, 0, 1, 8, 7, 5, 6], [14, 11, 12, 13, 10, 9, 4, 3, 2, 0, 1, 8, 7, 5, 6], [11, 10, 9, 4, 3, 2, 0, 1, 8, 7, 5, 6], [16, 11, 10, 9, 4, 3, 2, 0, 1, 8, 7, 5, 6], [17, 11, 16, 10, 9, 4, 3, 2, 0, 1, 8, 7, 5, 6], [15, 18, 11, 14, 12, 13, 10, 9, 4, 3, 2, 0, 1, 8, 7, 5, 6, 17, 16], [11, 10, 9, 4, 3, 2, 0, 1, 8, 7, 5, 6], [11, 10, 9, 4, 3, 2, 0, 1, 8, 7, 5, 6], [20, 21, 11, 10, 9, 4, 3, 2, 0, 1, 8, 7, 5, 6], [22, 11, 20, 21, 10, 9, 4, 3, 2, 0, 1, 8, 7, 5, 6], [11, 10, 9, 4, 3, 2, 0, 1, 8, 7, 5, 6], [24, 11, 10, 9, 4, 3, 2, 0, 1, 8, 7, 5, 6], [25, 11, 24, 10, 9, 4, 3, 2, 0, 1, 8, 7, 5, 6], [23, 26, 19, 11, 22, 20, 21, 10, 9, 4, 3, 2, 0, 1, 8, 7, 5, 6, 25, 24, 15, 18, 14, 12, 13, 17, 16], [19, 27, 11, 15, 18, 14, 12, 13, 10, 9, 4, 3, 2, 0, 1, 8, 7, 5, 6, 17, 16, 23, 26, 22, 20, 21, 25, 24], [11, 28, 10, 9, 4, 3, 2, 0, 1, 8, 7, 5, 6, 19, 27, 15, 18, 14, 12, 13, 17, 16, 23, 26, 22, 20, 21, 25, 24], [29, 27, 11, 28, 10, 9, 4, 3, 2, 0, 1, 8, 7, 5, 6, 19, 15, 18, 14, 12, 13, 17, 16, 23, 26, 22, 20, 21, 25, 24], [30, 29, 27, 11, 28, 10, 9, 4, 3, 2, 0, 1, 8, 7, 5, 6, 19, 15, 18, 14, 12, 13, 17, 16, 23, 26, 22, 20, 21, 25, 24], [30, 29, 27, 11, 28, 10, 9, 4, 3, 2, 0, 1, 8, 7, 5, 6, 19, 15, 18, 14, 12, 13, 17, 16, 23, 26, 22, 20, 21, 25, 24], [31, 32, 30, 29, 27, 11, 28, 10, 9, 4, 3, 2, 0, 1, 8, 7, 5, 6, 19, 15, 18, 14, 12, 13, 17, 16, 23, 26, 22, 20, 21, 25, 24], [33, 30, 31, 32, 29, 27, 11, 28, 10, 9, 4, 3, 2, 0, 1, 8, 7, 5, 6, 19, 15, 18, 14, 12, 13, 17, 16, 23, 26, 22, 20, 21, 25, 24], [30, 29, 27, 11, 28, 10, 9, 4, 3, 2, 0, 1, 8, 7, 5, 6, 19, 15, 18, 14, 12, 13, 17, 16, 23, 26, 22, 20, 21, 25, 24], [30, 29, 27, 11, 28, 10, 9, 4, 3, 2, 0, 1, 8, 7, 5, 6, 19, 15, 18, 14, 12, 13, 17, 16, 23, 26, 22, 20, 21, 25, 24], [35, 36, 30, 29, 27, 11, 28, 10, 9, 4, 3, 2, 0, 1, 8, 7, 5, 6, 19, 15, 18, 14, 12, 13, 17, 16, 23, 26, 22, 20, 21, 25, 24], [37, 30, 35, 36, 29, 27, 11, 28, 10, 9, 4, 3, 2, 0, 1, 8, 7, 5, 6, 19, 15, 18, 14, 12, 13, 17, 16, 23, 26, 22, 20, 21, 25, 24], [34, 38, 30, 33, 31, 32, 29, 27, 11, 28, 10, 9, 4, 3, 2, 0, 1, 8, 7, 5, 6, 19, 15, 18, 14, 12, 13, 17, 16, 23, 26, 22, 20, 21, 25, 24, 37, 35, 36], [39, 30, 34, 38, 33, 31, 32, 29, 27, 11, 28, 10, 9, 4, 3, 2, 0, 1, 8, 7, 5, 6, 19, 15, 18, 14, 12, 13, 17, 16, 23, 26, 22, 20, 21, 25, 24, 37, 35, 36], [30, 40, 29, 27, 11, 28, 10, 9, 4, 3, 2, 0, 1, 8, 7, 5, 6, 19, 15, 18, 14, 12, 13, 17, 16, 23, 26, 22, 20, 21, 25, 24, 39, 34, 38, 33, 31, 32, 37, 35, 36]] [4, 9, 19, 27, 39] [] [[], [], [], [], [], [], [], [], [], [], [], [], [], [], [], [], [], [], [], [], [], [], [], [], [], [], [], [], [], [], [], [], [], [], [], [], [], [], [], [], [], []] [[], [], [], [], [], [], [], [], [], [], [], [], [], [], [], [], [], [], [], [], [], [], [], [], [], [], [], [], [], [], [], [], [], [], [], [], [], [], [], [], [], []] [] [] [] []
                [some ?v0, some ?v1, some ?v2, some ?v3, some (.bool ok), some ?v5, some ?v6, some ?v7, some ?v8, some (.bool ok), some ?v10, some ?v11, some ?v12, some ?v13, some ?v14, some ?v15, some ?v16, some ?v17, some ?v18, some (.bool sp), some ?v20, some ?v21, some ?v22, some ?v23, some ?v24, some ?v25, some ?v26, some (.bool sp), some ?v28, some ?v29, some ?v30, some ?v31, some ?v32, some ?v33, some ?v34, some ?v35, some ?v36, some ?v37, some ?v38, some (.bool true), some ?v40, some ?v41]
                ?T (fun wx => (CellsAt wx g1 o1 j p u1 ∧ CellsAt wx g2 o2 j p u2) ∧ Only (fun _ => False) wr wx) ?W ?E (by kernel_rfl) (by kernel_rfl) (by kernel_rfl) (fun x => ?hT) ?hF ?hini (Reg.all_ops ?runs) ?pres ?fin
            case W => exact fun _ _ _ => True
            case E => exact fun _ w' w'' => Only (fun _ => False) w' w''
            case hT =>
              simp only [Reg.fillV, Act.put, List.setIfInBounds_toArray, List.set_cons_zero, List.set_cons_succ]
              rfl
            case runs =>
              refine And.intro ?_ ?_
              · refine Reg.ob_pure (fun _ => rfl) rfl rfl rfl rfl (fun x w1 hF => ?_)
                obtain ⟨⟨⟨g0, g1, g2, g3⟩, ⟨g4, g5, g6, g7⟩⟩, hO⟩ := hF
                obtain ⟨k0, k1, k2, k3⟩ := Q3.out w1 hO
                obtain ⟨n0, n1, n2, n3⟩ := Q4.out w1 hO
                simp only [Nat.zero_mul, Nat.add_zero] at k0 k1 k2 k3 n0 n1 n2 n3
                go_simp
                with_reducible rfl
              refine And.intro ?_ ?_
              · refine Reg.ob_pure (fun _ => rfl) rfl rfl rfl rfl (fun x w1 hF => ?_)
                obtain ⟨⟨⟨g0, g1, g2, g3⟩, ⟨g4, g5, g6, g7⟩⟩, hO⟩ := hF
                obtain ⟨k0, k1, k2, k3⟩ := Q3.out w1 hO
                obtain ⟨n0, n1, n2, n3⟩ := Q4.out w1 hO
                simp only [Nat.zero_mul, Nat.add_zero] at k0 k1 k2 k3 n0 n1 n2 n3
                go_simp
                with_reducible rfl
              refine And.intro ?_ ?_
              · refine Reg.ob_pure (fun _ => rfl) rfl rfl rfl rfl (fun x w1 hF => ?_)
                obtain ⟨⟨⟨g0, g1, g2, g3⟩, ⟨g4, g5, g6, g7⟩⟩, hO⟩ := hF
                obtain ⟨k0, k1, k2, k3⟩ := Q3.out w1 hO
                obtain ⟨n0, n1, n2, n3⟩ := Q4.out w1 hO
                simp only [Nat.zero_mul, Nat.add_zero] at k0 k1 k2 k3 n0 n1 n2 n3
                go_simp
                with_reducible rfl
              refine And.intro ?_ ?_
              · refine Reg.ob_pure (fun _ => rfl) rfl rfl rfl rfl (fun x w1 hF => ?_)
                obtain ⟨⟨⟨g0, g1, g2, g3⟩, ⟨g4, g5, g6, g7⟩⟩, hO⟩ := hF
                obtain ⟨k0, k1, k2, k3⟩ := Q3.out w1 hO
                obtain ⟨n0, n1, n2, n3⟩ := Q4.out w1 hO
                simp only [Nat.zero_mul, Nat.add_zero] at k0 k1 k2 k3 n0 n1 n2 n3
                go_simp
                with_reducible rfl
              refine And.intro ?_ ?_
              · refine Reg.ob_known (fun _ => rfl) rfl rfl (fun x w1 hF hU K hK => ?_)
                obtain ⟨⟨h1, h2⟩, hO⟩ := hF rfl
                go_simp
                refine (right_is p u1 w1 HFP.out (S1.out.of_only hO) PB.out).mono ?_
                rw [HOK.out]
                rintro e w3 ⟨rfl, ho⟩
                exact hK w3 (fun _ _ _ => ⟨⟨h1.only ho, h2.only ho⟩, only_more hO ho⟩) ho
              refine And.intro ?_ ?_
              · refine Reg.ob_pure (fun _ => rfl) rfl rfl rfl rfl (fun x w1 hF => ?_)
                obtain ⟨⟨⟨g0, g1, g2, g3⟩, ⟨g4, g5, g6, g7⟩⟩, hO⟩ := hF
                obtain ⟨k0, k1, k2, k3⟩ := Q3.out w1 hO
                obtain ⟨n0, n1, n2, n3⟩ := Q4.out w1 hO
                simp only [Nat.zero_mul, Nat.add_zero] at k0 k1 k2 k3 n0 n1 n2 n3
                go_simp
                with_reducible rfl
              refine And.intro ?_ ?_
              · refine Reg.ob_pure (fun _ => rfl) rfl rfl rfl rfl (fun x w1 hF => ?_)
                obtain ⟨⟨⟨g0, g1, g2, g3⟩, ⟨g4, g5, g6, g7⟩⟩, hO⟩ := hF
                obtain ⟨k0, k1, k2, k3⟩ := Q3.out w1 hO
                obtain ⟨n0, n1, n2, n3⟩ := Q4.out w1 hO
                simp only [Nat.zero_mul, Nat.add_zero] at k0 k1 k2 k3 n0 n1 n2 n3
                go_simp
                with_reducible rfl
              refine And.intro ?_ ?_
              · refine Reg.ob_pure (fun _ => rfl) rfl rfl rfl rfl (fun x w1 hF => ?_)
                obtain ⟨⟨⟨g0, g1, g2, g3⟩, ⟨g4, g5, g6, g7⟩⟩, hO⟩ := hF
                obtain ⟨k0, k1, k2, k3⟩ := Q3.out w1 hO
                obtain ⟨n0, n1, n2, n3⟩ := Q4.out w1 hO
                simp only [Nat.zero_mul, Nat.add_zero] at k0 k1 k2 k3 n0 n1 n2 n3
                go_simp
                with_reducible rfl
              refine And.intro ?_ ?_
              · refine Reg.ob_pure (fun _ => rfl) rfl rfl rfl rfl (fun x w1 hF => ?_)
                obtain ⟨⟨⟨g0, g1, g2, g3⟩, ⟨g4, g5, g6, g7⟩⟩, hO⟩ := hF
                obtain ⟨k0, k1, k2, k3⟩ := Q3.out w1 hO
                obtain ⟨n0, n1, n2, n3⟩ := Q4.out w1 hO
                simp only [Nat.zero_mul, Nat.add_zero] at k0 k1 k2 k3 n0 n1 n2 n3
                go_simp
                with_reducible rfl
              refine And.intro ?_ ?_
              · refine Reg.ob_known (fun _ => rfl) rfl rfl (fun x w1 hF hU K hK => ?_)
                obtain ⟨⟨h1, h2⟩, hO⟩ := hF rfl
                go_simp
                refine (rright_is p u2 w1 HFP.out (S2'.out.of_only hO) PB.out).mono ?_
                rw [HOK.out]
                rintro e w3 ⟨rfl, ho⟩
                exact hK w3 (fun _ _ _ => ⟨⟨h1.only ho, h2.only ho⟩, only_more hO ho⟩) ho
              refine And.intro ?_ ?_
              · refine Reg.ob_pure (fun _ => rfl) rfl rfl rfl rfl (fun x w1 hF => ?_)
                obtain ⟨⟨⟨g0, g1, g2, g3⟩, ⟨g4, g5, g6, g7⟩⟩, hO⟩ := hF
                obtain ⟨k0, k1, k2, k3⟩ := Q3.out w1 hO
                obtain ⟨n0, n1, n2, n3⟩ := Q4.out w1 hO
                simp only [Nat.zero_mul, Nat.add_zero] at k0 k1 k2 k3 n0 n1 n2 n3
                go_simp
                with_reducible rfl
              refine And.intro ?_ ?_
              · refine Reg.ob_pure (fun _ => rfl) rfl rfl rfl rfl (fun x w1 hF => ?_)
                obtain ⟨⟨⟨g0, g1, g2, g3⟩, ⟨g4, g5, g6, g7⟩⟩, hO⟩ := hF
                obtain ⟨k0, k1, k2, k3⟩ := Q3.out w1 hO
                obtain ⟨n0, n1, n2, n3⟩ := Q4.out w1 hO
                simp only [Nat.zero_mul, Nat.add_zero] at k0 k1 k2 k3 n0 n1 n2 n3
                go_simp
                with_reducible rfl
              refine And.intro ?_ ?_
              · refine Reg.ob_pure (fun _ => rfl) rfl rfl rfl rfl (fun x w1 hF => ?_)
                obtain ⟨⟨⟨g0, g1, g2, g3⟩, ⟨g4, g5, g6, g7⟩⟩, hO⟩ := hF
                obtain ⟨k0, k1, k2, k3⟩ := Q3.out w1 hO
                obtain ⟨n0, n1, n2, n3⟩ := Q4.out w1 hO
                simp only [Nat.zero_mul, Nat.add_zero] at k0 k1 k2 k3 n0 n1 n2 n3
                go_simp
                with_reducible rfl
              refine And.intro ?_ ?_
              · refine Reg.ob_pure (fun _ => rfl) rfl rfl rfl rfl (fun x w1 hF => ?_)
                obtain ⟨⟨⟨g0, g1, g2, g3⟩, ⟨g4, g5, g6, g7⟩⟩, hO⟩ := hF
                obtain ⟨k0, k1, k2, k3⟩ := Q3.out w1 hO
                obtain ⟨n0, n1, n2, n3⟩ := Q4.out w1 hO
                simp only [Nat.zero_mul, Nat.add_zero] at k0 k1 k2 k3 n0 n1 n2 n3
                go_simp
                with_reducible rfl
              refine And.intro ?_ ?_
              · refine Reg.ob_pure (fun _ => rfl) rfl rfl rfl rfl (fun x w1 hF => ?_)
                obtain ⟨⟨⟨g0, g1, g2, g3⟩, ⟨g4, g5, g6, g7⟩⟩, hO⟩ := hF
                obtain ⟨k0, k1, k2, k3⟩ := Q3.out w1 hO
                obtain ⟨n0, n1, n2, n3⟩ := Q4.out w1 hO
                simp only [Nat.zero_mul, Nat.add_zero] at k0 k1 k2 k3 n0 n1 n2 n3
                go_simp
                with_reducible rfl
              refine And.intro ?_ ?_
              · refine Reg.ob_pure (fun _ => rfl) rfl rfl rfl rfl (fun x w1 hF => ?_)
                obtain ⟨⟨⟨g0, g1, g2, g3⟩, ⟨g4, g5, g6, g7⟩⟩, hO⟩ := hF
                obtain ⟨k0, k1, k2, k3⟩ := Q3.out w1 hO
                obtain ⟨n0, n1, n2, n3⟩ := Q4.out w1 hO
                simp only [Nat.zero_mul, Nat.add_zero] at k0 k1 k2 k3 n0 n1 n2 n3
                go_simp
                with_reducible rfl
              refine And.intro ?_ ?_
              · refine Reg.ob_pure (fun _ => rfl) rfl rfl rfl rfl (fun x w1 hF => ?_)
                obtain ⟨⟨⟨g0, g1, g2, g3⟩, ⟨g4, g5, g6, g7⟩⟩, hO⟩ := hF
                obtain ⟨k0, k1, k2, k3⟩ := Q3.out w1 hO
                obtain ⟨n0, n1, n2, n3⟩ := Q4.out w1 hO
                simp only [Nat.zero_mul, Nat.add_zero] at k0 k1 k2 k3 n0 n1 n2 n3
                go_simp
                with_reducible rfl
              refine And.intro ?_ ?_
              · refine Reg.ob_pure (fun _ => rfl) rfl rfl rfl rfl (fun x w1 hF => ?_)
                obtain ⟨⟨⟨g0, g1, g2, g3⟩, ⟨g4, g5, g6, g7⟩⟩, hO⟩ := hF
                obtain ⟨k0, k1, k2, k3⟩ := Q3.out w1 hO
                obtain ⟨n0, n1, n2, n3⟩ := Q4.out w1 hO
                simp only [Nat.zero_mul, Nat.add_zero] at k0 k1 k2 k3 n0 n1 n2 n3
                go_simp
                with_reducible rfl
              refine And.intro ?_ ?_
              · refine Reg.ob_pure (fun _ => rfl) rfl rfl rfl rfl (fun x w1 hF => ?_)
                obtain ⟨⟨⟨g0, g1, g2, g3⟩, ⟨g4, g5, g6, g7⟩⟩, hO⟩ := hF
                obtain ⟨k0, k1, k2, k3⟩ := Q3.out w1 hO
                obtain ⟨n0, n1, n2, n3⟩ := Q4.out w1 hO
                simp only [Nat.zero_mul, Nat.add_zero] at k0 k1 k2 k3 n0 n1 n2 n3
                go_simp
                with_reducible rfl
              refine And.intro ?_ ?_
              · refine Reg.ob_known (fun _ => rfl) rfl rfl (fun x w1 hF hU K hK => ?_)
                obtain ⟨⟨h1, h2⟩, hO⟩ := hF rfl
                go_simp
                refine (same_pk p p0 u1 u3 w1 (S1.out.of_only hO) (S3.out.of_only hO) HFP.out HFP0.out).mono ?_
                rw [HSP.out]
                rintro e w3 ⟨rfl, ho⟩
                exact hK w3 (fun _ _ _ => ⟨⟨h1.only ho, h2.only ho⟩, only_more hO ho⟩) ho
              refine And.intro ?_ ?_
              · refine Reg.ob_pure (fun _ => rfl) rfl rfl rfl rfl (fun x w1 hF => ?_)
                obtain ⟨⟨⟨g0, g1, g2, g3⟩, ⟨g4, g5, g6, g7⟩⟩, hO⟩ := hF
                obtain ⟨k0, k1, k2, k3⟩ := Q3.out w1 hO
                obtain ⟨n0, n1, n2, n3⟩ := Q4.out w1 hO
                simp only [Nat.zero_mul, Nat.add_zero] at k0 k1 k2 k3 n0 n1 n2 n3
                go_simp
                with_reducible rfl
              refine And.intro ?_ ?_
              · refine Reg.ob_pure (fun _ => rfl) rfl rfl rfl rfl (fun x w1 hF => ?_)
                obtain ⟨⟨⟨g0, g1, g2, g3⟩, ⟨g4, g5, g6, g7⟩⟩, hO⟩ := hF
                obtain ⟨k0, k1, k2, k3⟩ := Q3.out w1 hO
                obtain ⟨n0, n1, n2, n3⟩ := Q4.out w1 hO
                simp only [Nat.zero_mul, Nat.add_zero] at k0 k1 k2 k3 n0 n1 n2 n3
                go_simp
                with_reducible rfl
              refine And.intro ?_ ?_
              · refine Reg.ob_pure (fun _ => rfl) rfl rfl rfl rfl (fun x w1 hF => ?_)
                obtain ⟨⟨⟨g0, g1, g2, g3⟩, ⟨g4, g5, g6, g7⟩⟩, hO⟩ := hF
                obtain ⟨k0, k1, k2, k3⟩ := Q3.out w1 hO
                obtain ⟨n0, n1, n2, n3⟩ := Q4.out w1 hO
                simp only [Nat.zero_mul, Nat.add_zero] at k0 k1 k2 k3 n0 n1 n2 n3
                go_simp
                with_reducible rfl
              refine And.intro ?_ ?_
              · refine Reg.ob_pure (fun _ => rfl) rfl rfl rfl rfl (fun x w1 hF => ?_)
                obtain ⟨⟨⟨g0, g1, g2, g3⟩, ⟨g4, g5, g6, g7⟩⟩, hO⟩ := hF
                obtain ⟨k0, k1, k2, k3⟩ := Q3.out w1 hO
                obtain ⟨n0, n1, n2, n3⟩ := Q4.out w1 hO
                simp only [Nat.zero_mul, Nat.add_zero] at k0 k1 k2 k3 n0 n1 n2 n3
                go_simp
                with_reducible rfl
              refine And.intro ?_ ?_
              · refine Reg.ob_pure (fun _ => rfl) rfl rfl rfl rfl (fun x w1 hF => ?_)
                obtain ⟨⟨⟨g0, g1, g2, g3⟩, ⟨g4, g5, g6, g7⟩⟩, hO⟩ := hF
                obtain ⟨k0, k1, k2, k3⟩ := Q3.out w1 hO
                obtain ⟨n0, n1, n2, n3⟩ := Q4.out w1 hO
                simp only [Nat.zero_mul, Nat.add_zero] at k0 k1 k2 k3 n0 n1 n2 n3
                go_simp
                with_reducible rfl
              refine And.intro ?_ ?_
              · refine Reg.ob_pure (fun _ => rfl) rfl rfl rfl rfl (fun x w1 hF => ?_)
                obtain ⟨⟨⟨g0, g1, g2, g3⟩, ⟨g4, g5, g6, g7⟩⟩, hO⟩ := hF
                obtain ⟨k0, k1, k2, k3⟩ := Q3.out w1 hO
                obtain ⟨n0, n1, n2, n3⟩ := Q4.out w1 hO
                simp only [Nat.zero_mul, Nat.add_zero] at k0 k1 k2 k3 n0 n1 n2 n3
                go_simp
                with_reducible rfl
              refine And.intro ?_ ?_
              · refine Reg.ob_pure (fun _ => rfl) rfl rfl rfl rfl (fun x w1 hF => ?_)
                obtain ⟨⟨⟨g0, g1, g2, g3⟩, ⟨g4, g5, g6, g7⟩⟩, hO⟩ := hF
                obtain ⟨k0, k1, k2, k3⟩ := Q3.out w1 hO
                obtain ⟨n0, n1, n2, n3⟩ := Q4.out w1 hO
                simp only [Nat.zero_mul, Nat.add_zero] at k0 k1 k2 k3 n0 n1 n2 n3
                go_simp
                with_reducible rfl
              refine And.intro ?_ ?_
              · refine Reg.ob_known (fun _ => rfl) rfl rfl (fun x w1 hF hU K hK => ?_)
                obtain ⟨⟨h1, h2⟩, hO⟩ := hF rfl
                go_simp
                refine (rsame_any p p0 u2 u4 w1 (S2'.out.of_only hO) (S4.out.of_only hO) PB.out).mono ?_
                rw [HSP.out]
                rintro e w3 ⟨rfl, ho⟩
                exact hK w3 (fun _ _ _ => ⟨⟨h1.only ho, h2.only ho⟩, only_more hO ho⟩) ho
              refine And.intro ?_ ?_
              · refine Reg.ob_pure (fun _ => rfl) rfl rfl rfl rfl (fun x w1 hF => ?_)
                obtain ⟨⟨⟨g0, g1, g2, g3⟩, ⟨g4, g5, g6, g7⟩⟩, hO⟩ := hF
                obtain ⟨k0, k1, k2, k3⟩ := Q3.out w1 hO
                obtain ⟨n0, n1, n2, n3⟩ := Q4.out w1 hO
                simp only [Nat.zero_mul, Nat.add_zero] at k0 k1 k2 k3 n0 n1 n2 n3
                go_simp
                with_reducible rfl
              refine And.intro ?_ ?_
              · refine Reg.ob_pure (fun _ => rfl) rfl rfl rfl rfl (fun x w1 hF => ?_)
                obtain ⟨⟨⟨g0, g1, g2, g3⟩, ⟨g4, g5, g6, g7⟩⟩, hO⟩ := hF
                obtain ⟨k0, k1, k2, k3⟩ := Q3.out w1 hO
                obtain ⟨n0, n1, n2, n3⟩ := Q4.out w1 hO
                simp only [Nat.zero_mul, Nat.add_zero] at k0 k1 k2 k3 n0 n1 n2 n3
                go_simp
                with_reducible rfl
              refine And.intro ?_ ?_
              · refine Reg.ob_pure (fun _ => rfl) rfl rfl rfl rfl (fun x w1 hF => ?_)
                obtain ⟨⟨⟨g0, g1, g2, g3⟩, ⟨g4, g5, g6, g7⟩⟩, hO⟩ := hF
                obtain ⟨k0, k1, k2, k3⟩ := Q3.out w1 hO
                obtain ⟨n0, n1, n2, n3⟩ := Q4.out w1 hO
                simp only [Nat.zero_mul, Nat.add_zero] at k0 k1 k2 k3 n0 n1 n2 n3
                go_simp
                with_reducible rfl
              refine And.intro ?_ ?_
              · refine Reg.ob_pure (fun _ => rfl) rfl rfl rfl rfl (fun x w1 hF => ?_)
                obtain ⟨⟨⟨g0, g1, g2, g3⟩, ⟨g4, g5, g6, g7⟩⟩, hO⟩ := hF
                obtain ⟨k0, k1, k2, k3⟩ := Q3.out w1 hO
                obtain ⟨n0, n1, n2, n3⟩ := Q4.out w1 hO
                simp only [Nat.zero_mul, Nat.add_zero] at k0 k1 k2 k3 n0 n1 n2 n3
                go_simp
                with_reducible rfl
              refine And.intro ?_ ?_
              · refine Reg.ob_pure (fun _ => rfl) rfl rfl rfl rfl (fun x w1 hF => ?_)
                obtain ⟨⟨⟨g0, g1, g2, g3⟩, ⟨g4, g5, g6, g7⟩⟩, hO⟩ := hF
                obtain ⟨k0, k1, k2, k3⟩ := Q3.out w1 hO
                obtain ⟨n0, n1, n2, n3⟩ := Q4.out w1 hO
                simp only [Nat.zero_mul, Nat.add_zero] at k0 k1 k2 k3 n0 n1 n2 n3
                go_simp
                with_reducible rfl
              refine And.intro ?_ ?_
              · refine Reg.ob_pure (fun _ => rfl) rfl rfl rfl rfl (fun x w1 hF => ?_)
                obtain ⟨⟨⟨g0, g1, g2, g3⟩, ⟨g4, g5, g6, g7⟩⟩, hO⟩ := hF
                obtain ⟨k0, k1, k2, k3⟩ := Q3.out w1 hO
                obtain ⟨n0, n1, n2, n3⟩ := Q4.out w1 hO
                simp only [Nat.zero_mul, Nat.add_zero] at k0 k1 k2 k3 n0 n1 n2 n3
                go_simp
                with_reducible rfl
              refine And.intro ?_ ?_
              · refine Reg.ob_pure (fun _ => rfl) rfl rfl rfl rfl (fun x w1 hF => ?_)
                obtain ⟨⟨⟨g0, g1, g2, g3⟩, ⟨g4, g5, g6, g7⟩⟩, hO⟩ := hF
                obtain ⟨k0, k1, k2, k3⟩ := Q3.out w1 hO
                obtain ⟨n0, n1, n2, n3⟩ := Q4.out w1 hO
                simp only [Nat.zero_mul, Nat.add_zero] at k0 k1 k2 k3 n0 n1 n2 n3
                go_simp
                with_reducible rfl
              refine And.intro ?_ ?_
              · refine Reg.ob_pure (fun _ => rfl) rfl rfl rfl rfl (fun x w1 hF => ?_)
                obtain ⟨⟨⟨g0, g1, g2, g3⟩, ⟨g4, g5, g6, g7⟩⟩, hO⟩ := hF
                obtain ⟨k0, k1, k2, k3⟩ := Q3.out w1 hO
                obtain ⟨n0, n1, n2, n3⟩ := Q4.out w1 hO
                simp only [Nat.zero_mul, Nat.add_zero] at k0 k1 k2 k3 n0 n1 n2 n3
                go_simp
                with_reducible rfl
              refine And.intro ?_ ?_
              · refine Reg.ob_pure (fun _ => rfl) rfl rfl rfl rfl (fun x w1 hF => ?_)
                obtain ⟨⟨⟨g0, g1, g2, g3⟩, ⟨g4, g5, g6, g7⟩⟩, hO⟩ := hF
                obtain ⟨k0, k1, k2, k3⟩ := Q3.out w1 hO
                obtain ⟨n0, n1, n2, n3⟩ := Q4.out w1 hO
                simp only [Nat.zero_mul, Nat.add_zero] at k0 k1 k2 k3 n0 n1 n2 n3
                go_simp
                with_reducible rfl
              refine And.intro ?_ ?_
              · refine Reg.ob_pure (fun _ => rfl) rfl rfl rfl rfl (fun x w1 hF => ?_)
                obtain ⟨⟨⟨g0, g1, g2, g3⟩, ⟨g4, g5, g6, g7⟩⟩, hO⟩ := hF
                obtain ⟨k0, k1, k2, k3⟩ := Q3.out w1 hO
                obtain ⟨n0, n1, n2, n3⟩ := Q4.out w1 hO
                simp only [Nat.zero_mul, Nat.add_zero] at k0 k1 k2 k3 n0 n1 n2 n3
                go_simp
                with_reducible rfl
              refine And.intro ?_ ?_
              · refine Reg.ob_pure (fun _ => rfl) rfl rfl rfl rfl (fun x w1 hF => ?_)
                obtain ⟨⟨⟨g0, g1, g2, g3⟩, ⟨g4, g5, g6, g7⟩⟩, hO⟩ := hF
                obtain ⟨k0, k1, k2, k3⟩ := Q3.out w1 hO
                obtain ⟨n0, n1, n2, n3⟩ := Q4.out w1 hO
                simp only [Nat.zero_mul, Nat.add_zero] at k0 k1 k2 k3 n0 n1 n2 n3
                go_simp
                with_reducible rfl
              refine And.intro ?_ ?_
              · refine Reg.ob_known (fun _ => rfl) rfl rfl (fun x w1 hF hU K hK => ?_)
                obtain ⟨⟨h1, h2⟩, hO⟩ := hF rfl
                go_simp
                refine (same_pk p p u1 u1 w1 (S1.out.of_only hO) (S1.out.of_only hO) HFP.out HFP.out).mono ?_
                rw [sameP_self]
                rintro e w3 ⟨rfl, ho⟩
                exact hK w3 (fun _ _ _ => ⟨⟨h1.only ho, h2.only ho⟩, only_more hO ho⟩) ho
              refine And.intro ?_ ?_
              · refine Reg.ob_pure (fun _ => rfl) rfl rfl rfl rfl (fun x w1 hF => ?_)
                obtain ⟨⟨⟨g0, g1, g2, g3⟩, ⟨g4, g5, g6, g7⟩⟩, hO⟩ := hF
                obtain ⟨k0, k1, k2, k3⟩ := Q3.out w1 hO
                obtain ⟨n0, n1, n2, n3⟩ := Q4.out w1 hO
                simp only [Nat.zero_mul, Nat.add_zero] at k0 k1 k2 k3 n0 n1 n2 n3
                go_simp
                with_reducible rfl
              refine And.intro ?_ ?_
              · refine Reg.ob_pure (fun _ => rfl) rfl rfl rfl rfl (fun x w1 hF => ?_)
                obtain ⟨⟨⟨g0, g1, g2, g3⟩, ⟨g4, g5, g6, g7⟩⟩, hO⟩ := hF
                obtain ⟨k0, k1, k2, k3⟩ := Q3.out w1 hO
                obtain ⟨n0, n1, n2, n3⟩ := Q4.out w1 hO
                simp only [Nat.zero_mul, Nat.add_zero] at k0 k1 k2 k3 n0 n1 n2 n3
                go_simp
                with_reducible rfl
              exact trivial
            case hF =>
              exact ⟨⟨Q1.out.only (only_drewN wr 1), Q2.out.only (only_drewN wr 1)⟩, only_drewN wr 1⟩
            case hini =>
              exact trivial
            case pres =>
              intro i hi j hj
              cases hj
            case fin =>
              rintro x w9 hF -
              obtain ⟨-, hO⟩ := hF rfl
              go_wp2
              exact ⟨⟨j + 1, by omega, by go_num, only_more OJ.out hO⟩, by simp [intOf]; omega⟩
          · have hjl : j = l.length := by omega
            subst hjl
            have HSM := Lib.hid (docs_same _ _ l _ (HR.out.only TJ.out) RJ.out (by omega) (fun p hp => by have := HFE.out.1 p hp; omega))
            go_wp2_with fail
            refine HSM.out.mono ?_
            rintro e w5 ⟨rfl, ho5⟩
            have O5 := Lib.hid (only_more TJ.out ho5)
            clear ho5
            go_wp2_with fail
            refine (HWK.out _).mono ?_
            rintro e w6 ⟨rfl, ho6⟩
            have O6 := Lib.hid (only_more O5.out ho6)
            clear ho6
            go_wp2
            go_ret
            exact ⟨rfl, O6.out⟩
end Go.Proofs.Ytdhkcffjhcoloaa
