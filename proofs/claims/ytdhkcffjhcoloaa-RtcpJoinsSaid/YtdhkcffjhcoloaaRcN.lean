/- RtcpSplits: its walk. Conditions: as it says. -/
import Derived.Test.YtdhkcffjhcoloaaRcM
import Derived.Test.YtdhkcffjhcoloaaRrB
set_option linter.unusedVariables false
namespace Go.Proofs.Ytdhkcffjhcoloaa
open Go.RowKit

theorem spl_small : ∀ (n : Nat) (lead : Bool) (bs : List Nat), bs.length = n → (spl lead bs).2.length * 4 ≤ bs.length ∧ ∀ p ∈ (spl lead bs).2, p.body.length ≤ bs.length := by
  intro n
  induction n using Nat.strongRecOn with
  | _ n ih =>
    intro lead bs hn
    by_cases h : lead = false ∧ bs.length = 0
    · obtain ⟨rfl, h0⟩ := h
      rw [List.eq_nil_of_length_eq_zero h0, spl_end]
      simp
    · by_cases he : oneErr bs lead = 0
      · have hl := one_len he
        have h4 : 4 ≤ oneSz bs := by unfold oneSz; omega
        obtain ⟨h1, h2⟩ := ih (bs.drop (oneSz bs)).length (by rw [List.length_drop]; omega) false (bs.drop (oneSz bs)) rfl
        rw [List.length_drop] at h1 h2
        rw [spl_go h he]
        refine ⟨by simp only [List.length_cons]; omega, fun p hp => ?_⟩
        rcases List.mem_cons.1 hp with rfl | hp
        · show (oneRest bs).length ≤ bs.length
          unfold oneRest oneBody
          rw [List.length_take, List.length_take, List.length_drop]
          omega
        · have := h2 p hp; omega
      · rw [spl_bad h he]
        simp
/-- What is told of a compound: the packets, or none. -/
def told (bs : List Nat) : List Pkt := if (spl true bs).1 = 0 then (spl true bs).2 else []
theorem told_small (bs : List Nat) : (told bs).length * 4 ≤ bs.length ∧ ∀ p ∈ told bs, p.body.length ≤ bs.length := by
  unfold told
  split
  · exact spl_small _ true bs rfl
  · simp
/-- What both answer, in one form. -/
def ToldEnd (T : TypeId) (bs : List Nat) (w : World) (e : Ending) (w' : World) : Prop := ∃ v vs, e = .returned (.tuple #[v, .int .i64 ((spl true bs).1 : Nat)]) ∧ Pks w' w.heap.size T v vs (told bs) ∧ Only (fun _ => False) w w'
theorem told_of {T : TypeId} {bs : List Nat} {w w' : World} {e : Ending} (h : SplitEnd T (spl true bs) w e w') : ToldEnd T bs w e w' := by
  obtain ⟨ho, ⟨h0, rfl⟩ | ⟨h0, v, vs, rfl, hp⟩⟩ := h
  · exact ⟨_, [], rfl, by unfold told; rw [if_neg h0]; exact Pks.nil _ _ _, ho⟩
  · exact ⟨v, vs, by rw [h0]; rfl, by unfold told; rw [if_pos h0]; exact hp, ho⟩

/-- Amid the spoiling: the row, and the bodies from i on. -/
structure Amid (wr : World) (v : Value) (vs : List Value) (l : List Pkt) (i : Nat) (wx : World) : Prop where
  row : OwnS wx wr.heap.size 36 4 v (List.zipWith Pkt.lst l vs)
  bods : ∀ (j : Nat) (u : Value) (p : Pkt), i ≤ j → vs[j]? = some u → l[j]? = some p → wx.ownsRow wr.heap.size 5 1 u p.body.length (cellsOf p.body)
  apart : ∀ (i j : Nat) (a b : Value), i < j → vs[i]? = some a → vs[j]? = some b → ∀ k, a.ownBlock = some k → b.ownBlock ≠ some k
  len : vs.length = l.length
  pure : Only (fun _ => False) wr wx
theorem Amid.of {wr wx : World} {v : Value} {vs : List Value} {l : List Pkt} (h : Pks wx wr.heap.size 36 v vs l) (ho : Only (fun _ => False) wr wx) : Amid wr v vs l 0 wx :=
  ⟨h.row, fun j u p _ hu hp => h.bods.own j u _ hu (by rw [List.getElem?_map, hp]; rfl), h.bods.apart, h.len, ho⟩
theorem Amid.go {wr wx wy : World} {v : Value} {vs : List Value} {l : List Pkt} {i : Nat} (h : Amid wr v vs l i wx) (ho : Only (fun _ => False) wx wy) : Amid wr v vs l i wy :=
  ⟨h.row.only ho (by simp), fun j u p hj hu hp => owned_only (h.bods j u p hj hu hp) ho (by simp), h.apart, h.len, only_more h.pure ho⟩
theorem Amid.next {wr wx wy : World} {v : Value} {vs : List Value} {l : List Pkt} {i : Nat} {u : Value} {p : Pkt} (h : Amid wr v vs l i wx) (hu : vs[i]? = some u) (hp : l[i]? = some p) (ho : Only (fun k => u.ownBlock = some k) wx wy) : Amid wr v vs l (i + 1) wy := by
  have hb := h.bods i u p (Nat.le_refl _) hu hp
  refine ⟨h.row.only ho (fun k hk hv => owned_apart h.row.1 hb (by decide) k hk hv), fun j u' p' hj hu' hp' => ?_, h.apart, h.len, h.pure.trans ho (fun k hk e => by have := (hb.lt k e).1; omega)⟩
  exact owned_only (h.bods j u' p' (by omega) hu' hp') ho (fun k hk hv => h.apart i j u u' (by omega) hu hu' k hv hk)

set_option maxRecDepth 100000 in
set_option maxHeartbeats 4000000 in
theorem splits_any (v : Value) (bs : List Nat) (w : World) (hs : Src w v bs) (hb : ∀ x ∈ bs, x < 256) :
    Calls Try.prog 4 #[v] w fun e w' => e = .returned (.bool true) ∧ Only (fun _ => False) w w' := by
  obtain ⟨Ab, cb, rfl⟩ := hs.slice
  have HS := Lib.hid hs
  have HB := Lib.hid hb
  have HWK := Lib.hid (fun w => works_any w)
  clear hs hb
  by_cases hl : 2000 < bs.length
  · have zl : decide ((2000 : Int) < (bs.length : Int)) = true := decide_eq_true (by omega)
    clear hl
    go_enter Try.func4, Try.ntmps4
    go_wp2_with fail
    refine (HWK.out _).mono ?_
    rintro e w1 ⟨rfl, ho1⟩
    have O1 := Lib.hid ho1
    clear ho1
    go_wp2
    go_ret
    exact ⟨rfl, O1.out⟩
  · have zl : decide ((2000 : Int) < (bs.length : Int)) = false := decide_eq_false (by omega)
    have hl' : bs.length ≤ 2000 := by omega
    clear hl
    have HBL := Lib.hid hl'
    obtain ⟨L, hL⟩ : ∃ L, told bs = L := ⟨_, rfl⟩
    have HT := Lib.hid (told_small bs)
    rw [hL] at HT
    have HRS := Lib.hid (fun v wx (h : Src wx v bs) => show Calls Try.prog 21 #[v] wx (ToldEnd 38 bs wx) from (rsplit_is v bs wx h HB.out (by have := HBL.out; omega)).mono fun e w' h => told_of h)
    have HPS := Lib.hid (fun v wx (h : Src wx v bs) => show Calls Try.prog 22 #[v] wx (ToldEnd 36 bs wx) from (split_is v bs wx h HB.out (by have := HBL.out; omega)).mono fun e w' h => told_of h)
    unfold ToldEnd at HRS HPS
    rw [hL] at HRS HPS
    obtain ⟨er, her⟩ : ∃ er, (spl true bs).1 = er := ⟨_, rfl⟩
    rw [her] at HRS HPS
    clear hL her
    go_enter Try.func4, Try.ntmps4
    go_wp2_with fail
    refine (kitown_is _ bs w w.heap.size (Nat.le_refl _) HS.out (by have := HBL.out; omega)).mono ?_
    rintro e w1 ⟨v1, rfl, hv1, ho1, -⟩
    rw [length_cellsOf] at hv1
    obtain ⟨A1, c1, rfl, -⟩ := own_slice hv1
    have S1 := Lib.hid (Src.of_own hv1)
    have O1 := Lib.hid ho1
    clear hv1 ho1
    go_wp2_with fail
    refine (HRS.out _ _ S1.out).mono ?_
    rintro e w2 ⟨v2, vs2, rfl, hp2, ho2⟩
    obtain ⟨A2, c2, rfl, -⟩ := hp2.slice
    have R2 := Lib.hid hp2.rd
    have O2 := Lib.hid ho2
    clear hp2 ho2
    go_wp2
    go_loopw [6] (fun i wr => ∃ k : Nat, k ≤ 2 ∧ i = .int .i64 k ∧ Only (fun _ => False) w2 wr) (fun i _ => 2 - (intOf i).toNat)
    case atStart => exact ⟨0, by omega, rfl, Only.refl _ _⟩
    case round =>
      obtain ⟨k, hk, rfl, hpw⟩ := hrel
      have HPW := Lib.hid hpw
      clear hpw
      by_cases hlt : k < 2
      · have zk : (k : Int) < 2 := by omega
        have HP2 := Lib.hid (HPS.out _ wr (HS.out.of_only (only_more O1.out (only_more O2.out HPW.out))))
        go_wp2_with fail
        refine HP2.out.mono ?_
        rintro e w3 ⟨v3, vs3, rfl, hp3, ho3⟩
        have M3 := Lib.hid (Amid.of hp3 ho3)
        have R3 := Lib.hid hp3.rd
        have O3 := Lib.hid ho3
        obtain ⟨A3, c3, rfl, -⟩ := hp3.slice
        clear hp3 ho3
        have HSM := Lib.hid (docs_same _ _ L w3 R3.out (R2.out.only (only_more HPW.out O3.out)) (by have := HT.out.1; have := HBL.out; omega) (fun p hp => by have := HT.out.2 p hp; have := HBL.out; omega))
        go_wp2_with fail
        refine HSM.out.mono ?_
        rintro e w4 ⟨rfl, ho4⟩
        have M4 := Lib.hid (M3.out.go ho4)
        clear ho4
        go_wp2
        go_loopw [9] (fun s9 wx => ∃ i : Nat, i ≤ L.length ∧ s9 = .int .i64 i ∧ Amid wr (.slice A3 L.length c3) vs3 L i wx) (fun s9 _ => L.length - (intOf s9).toNat)
        case atStart => exact ⟨0, by omega, rfl, M4.out⟩
        case round =>
          obtain ⟨i, hi, rfl, hm⟩ := hrel
          have MI := Lib.hid hm
          clear hm
          by_cases hil : i < L.length
          · obtain ⟨p, hp⟩ : ∃ p, L[i]? = some p := ⟨_, List.getElem?_eq_getElem hil⟩
            obtain ⟨u, hu⟩ : ∃ u, vs3[i]? = some u := ⟨_, List.getElem?_eq_getElem (by rw [MI.out.len]; exact hil)⟩
            have hz : (List.zipWith Pkt.lst L vs3)[i]? = some (p.lst u) := by rw [List.getElem?_zipWith, hp, hu]
            obtain ⟨g, c', e1, -, -, -, hcell⟩ := MI.out.row.at_ (by have := (List.getElem?_eq_some_iff.1 hz).1; omega)
            injection e1 with e1 e2 e3
            clear e2 e3
            subst e1
            have q2 := hcell i 2 _ hz (by decide)
            simp [Pkt.lst] at q2
            have HBO := Lib.hid (MI.out.bods i u p (Nat.le_refl _) hu hp)
            obtain ⟨Au, cu, rfl, -⟩ := own_slice HBO.out
            have HNX := Lib.hid (fun wy ho => Amid.next (wy := wy) MI.out hu hp ho)
            have hiI : (i : Int) < (L.length : Int) := by omega
            have hLL : L.length ≤ 500 := by have := HT.out.1; have := HBL.out; omega
            have HPB := Lib.hid (show p.body.length ≤ 140737488355328 from by have := HT.out.2 p (List.mem_of_getElem? hp); have := HBL.out; omega)
            clear hcell hz hp hu
            go_wp2_with fail
            refine (spoil_is _ _ _ _ _ HBO.out HPB.out).mono ?_
            rintro e w5 ⟨rfl, ho5⟩
            have M5 := Lib.hid (HNX.out _ ho5)
            clear ho5
            go_wp2
            exact ⟨⟨i + 1, by omega, by go_num, M5.out⟩, by simp [intOf]; omega⟩
          · have hil : i = L.length := by omega
            subst hil
            go_wp2
            exact ⟨⟨k + 1, by omega, by go_num, only_more HPW.out MI.out.pure⟩, by simp [intOf]; omega⟩
      · obtain rfl : k = 2 := by omega
        have T3 := Lib.hid (only_more O2.out HPW.out)
        have HSM := Lib.hid (kitsame_yes (.slice Ab bs.length cb) (.slice A1 bs.length c1) bs wr (HS.out.of_only (only_more O1.out T3.out)) (S1.out.of_only T3.out) (by have := HBL.out; omega))
        go_wp2_with fail
        refine HSM.out.mono ?_
        rintro e w5 ⟨rfl, ho5⟩
        have O5 := Lib.hid ho5
        clear ho5
        go_wp2_with fail
        refine (HWK.out _).mono ?_
        rintro e w6 ⟨rfl, ho6⟩
        have O6 := Lib.hid ho6
        clear ho6
        go_wp2
        go_ret
        exact ⟨rfl, only_more (only_more O1.out T3.out) (only_more O5.out O6.out)⟩
end Go.Proofs.Ytdhkcffjhcoloaa
