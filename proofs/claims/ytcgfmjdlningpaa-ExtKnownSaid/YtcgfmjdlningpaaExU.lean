/- ExtReads' walk. Conditions: as it says. -/
import Derived.Test.YtcgfmjdlningpaaExT
import Derived.Test.YtcgfmjdlningpaaExS
import Derived.Test.YtcgfmjdlningpaaSpo
set_option linter.unusedVariables false
namespace Go.Proofs.Ytcgfmjdlningpaa
open Go.RowKit

/-- What both answer of some bytes. -/
def TpE (T : TypeId) (l : List El) (k : Nat) (w : World) (e : Ending) (w' : World) : Prop :=
  ∃ v vs, e = .returned (.tuple #[v, .int .i64 (k : Nat)]) ∧ Els w' w.heap.size T v vs l ∧ Only (fun _ => False) w w'
theorem got_tpe {T : TypeId} {r : Nat × List El} {w w' : World} {e : Ending} (h : ExParEnd T r w e w') : TpE T (if r.1 = 0 then r.2 else []) r.1 w e w' := by
  obtain ⟨ho, ⟨hne, rfl⟩ | ⟨h0, v, vs, rfl, hE⟩⟩ := h
  · rw [if_neg hne]
    exact ⟨_, [], rfl, Els.nil _ _ _, ho⟩
  · rw [if_pos h0, h0]
    exact ⟨v, vs, rfl, hE, ho⟩
theorem exP_id (one : Bool) (bs : List Nat) (hb : ∀ x ∈ bs, x < 256) : ∀ x ∈ (exP one bs).2, x.id < 256 := by
  induction hn : bs.length using Nat.strongRecOn generalizing bs with
  | _ n ih =>
    cases bs with
    | nil => rw [exP_nil]; simp
    | cons b r =>
      have hb0 := hb b (by simp)
      rcases exKind_cases one b r with h | h | h | h | h
      · rw [exP_pad (by simp) h, show (b :: r).drop 1 = r from rfl]
        exact ih r.length (by rw [← hn, List.length_cons]; omega) r (fun x hx => hb x (by simp [hx])) rfl
      · rw [exP_end (by simp) h]; simp
      · rw [exP_bad (by simp) h]; simp
      · rw [exP_short (by simp) h]; simp
      · rw [exP_go (by simp) h]
        have hl := exLen_le h
        have := ih ((b :: r).drop (exLen one (b :: r))).length (by rw [← hn, List.length_drop]; omega) _ (fun x hx => hb x (List.mem_of_mem_drop hx)) rfl
        intro x hx
        rcases List.mem_cons.1 hx with rfl | hx
        · unfold exEl
          cases one
          · exact hb0
          · show b / 16 < 256
            omega
        · exact this x hx
theorem both_tpe (p : Nat) (bs : List Nat) (hp : p < 65536) (hb : ∀ x ∈ bs, x < 256) (hl : bs.length ≤ 400) : ∃ l k, (l.length ≤ 400 ∧ (∀ x ∈ l, x.id < 256) ∧ ∀ x ∈ l, x.data.length ≤ 400) ∧
    (∀ v w, Src w v bs → Calls Try.prog 25 #[.int .u16 p, v] w (TpE 50 l k w)) ∧ (∀ v w, Src w v bs → Calls Try.prog 24 #[.int .u16 p, v] w (TpE 101 l k w)) := by
  refine ⟨if (parR p bs).1 = 0 then (parR p bs).2 else [], (parR p bs).1, ?_, fun v w h => (expar_any p v bs w h hb hp (by omega)).mono (fun _ _ h => got_tpe h), fun v w h => (rpar_any p v bs w h hb (by omega)).mono (fun _ _ h => got_tpe h)⟩
  have h : (parR p bs).2.length ≤ 400 ∧ (∀ x ∈ (parR p bs).2, x.id < 256) ∧ ∀ x ∈ (parR p bs).2, x.data.length ≤ 400 := by
    unfold parR
    split
    · simp
    · split
      · simp
      · have h1 := exP_len (formB p == 1) bs
        exact ⟨by omega, exP_id _ bs hb, fun x hx => by have := h1.2 x hx; omega⟩
  split
  · exact h
  · simp
/-- Elements whose data may be written over: where the data lie. -/
structure Spl (w : World) (B : Nat) (T : TypeId) (v : Value) (vs : List Value) (l : List El) : Prop where
  row : OwnS w B T 2 v (List.zipWith El.lst l vs)
  len : vs.length = l.length
  own : ∀ (i : Nat) (u : Value) (x : El), vs[i]? = some u → l[i]? = some x → ∃ ys, w.ownsRow B 5 1 u x.data.length ys
theorem Els.spl {w : World} {B : Nat} {T : TypeId} {v : Value} {vs : List Value} {l : List El} (h : Els w B T v vs l) : Spl w B T v vs l :=
  ⟨h.row, h.len, fun i u x hu hx => ⟨_, h.bods.own i u _ hu (by rw [List.getElem?_map, hx]; rfl)⟩⟩
section
variable {w w1 : World} {B : Nat} {T : TypeId} {v : Value} {vs : List Value} {l : List El}
theorem Spl.pure (h : Spl w B T v vs l) (ho : Only (fun _ => False) w w1) : Spl w1 B T v vs l :=
  ⟨h.row.only ho (by simp), h.len, fun i u x hu hx => by obtain ⟨ys, hy⟩ := h.own i u x hu hx; exact ⟨ys, own_only hy ho (by simp)⟩⟩
theorem Spl.at_ (h : Spl w B T v vs l) (i : Nat) (hi : i < l.length) : ∃ g c x u, v = .slice (some ⟨g, 0, none⟩) l.length c ∧ l.length ≤ c ∧ l[i]? = some x ∧ vs[i]? = some u ∧ w.cell? ⟨g, i * 2 + 1, none⟩ = some u := by
  have hz : (List.zipWith El.lst l vs).length = l.length := by rw [List.length_zipWith, h.len, Nat.min_self]
  obtain ⟨g, c, rfl, hc, -, -, hcell⟩ := h.row.at_ (by omega)
  have e1 : l[i]? = some l[i] := List.getElem?_eq_getElem hi
  obtain ⟨u, e2⟩ : ∃ u, vs[i]? = some u := ⟨_, List.getElem?_eq_getElem (by rw [h.len]; exact hi)⟩
  refine ⟨g, c, _, _, by rw [hz], by rw [hz] at hc; exact hc, e1, e2, ?_⟩
  have := hcell i 1 (El.lst l[i] u) (by rw [List.getElem?_zipWith, e1, e2]) (by decide)
  simpa [El.lst] using this
theorem Spl.spoiled (hT : T ≠ 5) (h : Spl w B T v vs l) {i : Nat} {u : Value} {x : El} (hu : vs[i]? = some u) (hx : l[i]? = some x) (ho : Only (fun k => u.ownBlock = some k) w w1) {zs : List Value} (hz : w1.ownsRow B 5 1 u x.data.length zs) : Spl w1 B T v vs l := by
  obtain ⟨ys, hy⟩ := h.own i u x hu hx
  refine ⟨h.row.only ho (fun k hk e => owned_apart h.row.1 hy hT k hk e), h.len, fun j u' x' hu' hx' => ?_⟩
  obtain ⟨ys', hy'⟩ := h.own j u' x' hu' hx'
  exact spoil_other hy hy' ho hz
end

set_option maxRecDepth 100000 in
set_option maxHeartbeats 4000000 in
theorem xreads_any (p : Nat) (v : Value) (bs : List Nat) (w : World) (hp : p < 65536) (hs : Src w v bs) (hb : ∀ x ∈ bs, x < 256) :
    Calls Try.prog 4 #[.int .u16 p, v] w fun e w' => e = .returned (.bool true) ∧ Only (fun _ => False) w w' := by
  obtain ⟨Ab, cb, rfl⟩ := hs.slice
  have HS := Lib.hid hs
  have HB := Lib.hid hb
  have HWK := Lib.hid (fun w => xworks_any w)
  clear hs hb
  by_cases hl : 400 < bs.length
  · have zl : decide ((400 : Int) < (bs.length : Int)) = true := decide_eq_true (by omega)
    clear hl
    go_enter Try.func4, Try.ntmps4
    go_wp2_with fail
    refine (HWK.out _).mono ?_
    rintro e w1 ⟨rfl, ho1⟩
    have O1 := Lib.hid ho1
    clear ho1
    go_wp2
    go_ret
    exact ⟨rfl, O1.out⟩
  · have zl : decide ((400 : Int) < (bs.length : Int)) = false := decide_eq_false (by omega)
    have hl' : bs.length ≤ 400 := by omega
    clear hl
    obtain ⟨l, k0, hpl, hcp, hrp⟩ := both_tpe p bs hp HB.out hl'
    have HPL := Lib.hid hpl
    have HCP := Lib.hid hcp
    have HRP := Lib.hid hrp
    have HBL := Lib.hid hl'
    have HK1 := Lib.hid (fun w => known_is p w hp)
    have HK2 := Lib.hid (fun w => rknown_is p w)
    have ek : ((k0 : Int) != (k0 : Int)) = false := by simp
    obtain ⟨L, hL⟩ : ∃ n, l.length = n := ⟨_, rfl⟩
    have HL := Lib.hid hL
    have hll := hpl.1
    rw [hL] at hll
    clear hL
    clear hcp hrp hpl hp
    generalize decide (formB p ≠ 0) = kn at *
    have ekn : (kn == kn) = true := by simp
    go_enter Try.func4, Try.ntmps4
    go_upto_region 4 with (go_at_call 14; refine (kitown_is _ bs w w.heap.size (Nat.le_refl _) HS.out (by have := HBL.out; omega)).mono ?_; rintro e w1 ⟨v1, rfl, hv1, ho1, -⟩; rw [length_cellsOf] at hv1; obtain ⟨A1, k1, rfl, -⟩ := own_slice hv1; have S1 := Lib.hid (Src.of_own hv1); have O1 := Lib.hid ho1; clear hv1 ho1)
    go_upto_region 5 with (go_at_call 24; refine (HRP.out _ _ S1.out).mono ?_; rintro e w2 ⟨v2, vs2, rfl, hE2, ho2⟩; obtain ⟨A2, c2, h2, -⟩ := hE2.slice; rw [HL.out] at h2; subst h2; have R2 := Lib.hid hE2.rd; have O2 := Lib.hid ho2; clear hE2 ho2)
    have T2 := Lib.hid (only_more O1.out O2.out)
    go_wp2
    go_loopw [8] (fun i wr => ∃ k : Nat, k ≤ 2 ∧ i = .int .i64 k ∧ Only (fun _ => False) w2 wr) (fun i _ => 2 - (intOf i).toNat)
    case atStart => exact ⟨0, by omega, rfl, Only.refl _ _⟩
    case round =>
      obtain ⟨k, hk, rfl, hpw⟩ := hrel
      have HPW := Lib.hid hpw
      clear hpw
      by_cases hlt : k < 2
      · have zk : (k : Int) < 2 := by omega
        have HCP2 := Lib.hid (HCP.out _ wr (HS.out.only (only_more T2.out HPW.out) (by simp)))
        go_upto_region 9 with (go_at_call 25; refine HCP2.out.mono ?_; rintro e w5 ⟨v5, vs5, rfl, hE5, ho5⟩; obtain ⟨A5, c5, h5, -⟩ := hE5.slice; rw [HL.out] at h5; subst h5; have E5 := Lib.hid hE5; have O5 := Lib.hid ho5; clear hE5 ho5)
        have HSM := Lib.hid (lsame_is (.slice A5 L c5) (.slice A2 L c2) l w5 E5.out.rd (R2.out.only (only_more HPW.out O5.out)) (by rw [HL.out]; omega) (fun x hx => by have := HPL.out.2.2 x hx; omega) HPL.out.2.1)
        go_upto_region 11 with (go_at_call 26; refine HSM.out.mono ?_; rintro e w6 ⟨rfl, ho6⟩; have O6 := Lib.hid ho6; clear ho6)
        obtain ⟨B5, hB5⟩ : ∃ n, wr.heap.size = n := ⟨_, rfl⟩
        have SP6 := Lib.hid (E5.out.spl.pure O6.out)
        rw [hB5] at SP6
        have HB5 := Lib.hid hB5
        clear hB5 HSM HCP2
        go_wp2
        go_loopw [11] (fun i wz => ∃ j : Nat, j ≤ L ∧ i = .int .i64 j ∧ Spl wz B5 50 (.slice A5 L c5) vs5 l ∧ Only (fun q => B5 ≤ q) w6 wz) (fun i _ => L - (intOf i).toNat)
        case atStart => exact ⟨0, by omega, rfl, SP6.out, Only.refl _ _⟩
        case round =>
          obtain ⟨j, hj, rfl, hsp, ho7⟩ := hrel
          have SPJ := Lib.hid hsp
          have O7 := Lib.hid ho7
          clear ho7 hsp
          by_cases hjl : j < L
          · have zj : (j : Int) < (L : Int) := by omega
            obtain ⟨g, c', x, u, he, hcl, hx, hu, hcell⟩ := SPJ.out.at_ j (by rw [HL.out]; exact hjl)
            obtain ⟨ys, hy⟩ := SPJ.out.own j u x hu hx
            have HY := Lib.hid hy
            obtain ⟨Au, cu, rfl, -⟩ := own_slice hy
            have hxl := HPL.out.2.2 x (List.mem_of_getElem? hx)
            have HSO := Lib.hid (spoil_own _ _ _ _ _ hy (by omega))
            have HU := Lib.hid hu
            have HX := Lib.hid hx
            rw [HL.out] at he hcl
            injection he with he1 he2 he3
            subst he1 he3
            clear hu hx hy he2
            go_wp2_with (go_at_call 27; refine HSO.out.mono ?_; rintro e w8 ⟨rfl, ho8, zs, hz⟩)
            refine ⟨⟨j + 1, by omega, by go_num, SPJ.out.spoiled (by decide) HU.out HX.out ho8 hz, O7.out.trans ho8 (fun i hi e => (HY.out.lt i e).1)⟩, by simp [intOf]; omega⟩
          · obtain rfl : j = L := by omega
            go_wp2
            go_roundw
            case rel => exact ⟨k + 1, by omega, by go_num, (only_more HPW.out (only_more O5.out O6.out)).trans O7.out (fun i hi e => by have := HPW.out.size; have := HB5.out; omega)⟩
            case measure => simp [intOf]; omega
      · obtain rfl : k = 2 := by omega
        have HSM := Lib.hid (fun wx (h : Only (fun _ => False) wr wx) => xsame_yes (.slice Ab bs.length cb) (.slice A1 bs.length k1) bs wx (HS.out.only (only_more T2.out (only_more HPW.out h)) (by simp)) (S1.out.only (only_more O2.out (only_more HPW.out h)) (by simp)) (by have := HBL.out; omega))
        go_wp2_with (first
          | (go_at_call 22; refine (HSM.out _ (Only.refl _ _)).mono ?_; rintro e w5 ⟨rfl, ho5⟩; have O5 := Lib.hid ho5; clear ho5)
          | (go_at_call 28; refine (HK1.out _).mono ?_; rintro e w6 ⟨rfl, ho6⟩; have O6 := Lib.hid (only_more O5.out ho6); clear ho6)
          | (go_at_call 29; refine (HK2.out _).mono ?_; rintro e w7 ⟨rfl, rfl⟩)
          | (go_at_call 23; refine (HWK.out _).mono ?_; rintro e w8 ⟨rfl, ho8⟩; have O8 := Lib.hid ho8; clear ho8))
        go_ret
        exact ⟨rfl, only_more T2.out (only_more HPW.out (only_more O6.out O8.out))⟩
theorem xreads_args {W : World} {p : Nat} {v : Value} {bs : List Nat} (hp : p < 65536) (h : Src W v bs) (k : ∀ x ∈ bs, x < 256) :
    Calls Try.prog 4 #[.int .u16 p, v] W fun e w' => e = .returned (.bool true) ∧ Below W.heap.size W w' := by
  refine (xreads_any p v bs W hp h k).mono ?_
  rintro e w' ⟨rfl, ho⟩
  exact ⟨rfl, Only.below ho (fun i hi => hi.elim) (Nat.le_refl _)⟩
end Go.Proofs.Ytcgfmjdlningpaa
