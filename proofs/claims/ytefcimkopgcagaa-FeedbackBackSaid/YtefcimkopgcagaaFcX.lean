/- Rounds that take parts from a reader. Conditions: as each says. -/
import Derived.Test.YtefcimkopgcagaaFbGr
import Derived.Test.YtefcimkopgcagaaFcT
import Derived.Test.YtefcimkopgcagaaBtGr
import Derived.Test.YtefcimkopgcagaaBase
set_option linter.unusedVariables false
set_option linter.unusedSimpArgs false
namespace Go.Proofs.Ytefcimkopgcagaa
open Go.RowKit

theorem Try.infoOd : (Try.prog.info? 85).map (fun i => (i.zero, i.size, i.bytes)) = some (some (.agg #[.int .u32 0, .int .u8 0]), 2, 8) := by kernel_rfl
theorem sty_od : Sty 24 85 2 8 := by
  obtain ⟨i0, hi, hz0, hz1, hz2⟩ := info_parts Try.infoOd
  exact ⟨Try.underlying24, ⟨i0, _, hi, hz0, hz1, hz2, rfl⟩, by decide⟩
/-- Amid Parse: the message in the making. -/
structure Mp (cs : Array Value) (mb : Nat) (w0 wx : World) : Prop where
  io : Is wx mb 27 cs
  pure : Only (fun _ => False) w0 wx
theorem Mp.go {cs : Array Value} {mb : Nat} {w0 wx wy : World} (h : Mp cs mb w0 wx) (ho : Only (fun _ => False) wx wy) : Mp cs mb w0 wy := ⟨h.io.only ho (by simp), h.pure.trans ho (fun _ _ e => e)⟩
theorem Mp.took {cs : Array Value} {mb br p : Nat} {bs : List Nat} {f : Int} {v : Value} {w0 wx wy : World} (h : Mp cs mb w0 wx) (hb : w0.heap.size ≤ br) (hR : Rdr wx br bs p f v) (ho : Only (fun k => k = br) wx wy) : Mp cs mb w0 wy :=
  ⟨h.io.only ho (fun e => Is.apart h.io hR.is (by decide) e), h.pure.trans ho (fun i hi e => by omega)⟩
theorem fx_base {w : World} {B n sz : Nat} {T : TypeId} {v : Value} {xs : List Value} (h : w.ownsRow B T sz v n xs) {k : Nat} (hk : v.ownBlock = some k) : B ≤ k := by
  rcases h.2 with ⟨rfl, _⟩ | ⟨g, cap, cur, rfl, hb, _⟩
  · simp [Value.ownBlock] at hk
  · simp only [Value.ownBlock, Option.some.injEq] at hk
    omega
theorem Mp.far {cs : Array Value} {mb n sz : Nat} {w0 wx wy : World} {T : TypeId} {v : Value} {xs : List Value} (h : Mp cs mb w0 wx) (hw : wx.ownsRow w0.heap.size T sz v n xs) (hT : T ≠ 27) (ho : Only (fun k => v.ownBlock = some k) wx wy) : Mp cs mb w0 wy :=
  ⟨h.io.only ho (owned_off hw h.io hT), h.pure.trans ho (fun i hi e => by have := fx_base hw e; omega)⟩
theorem Mp.put {cs : Array Value} {mb : Nat} {w0 wx : World} (h : Mp cs mb w0 wx) (hob : w0.heap.size ≤ mb) (f : Nat) (v : Value) : Mp (cs.setIfInBounds f v) mb w0 (wx.setCell ⟨mb, f, none⟩ v) := by
  have ho : Only (fun k => k = mb) wx (wx.setCell ⟨mb, f, none⟩ v) := Only.set (S := fun k => k = mb) (p := ⟨mb, f, none⟩) (Only.refl _ wx) (fun _ => rfl) v
  exact ⟨h.io.put f v, h.pure.trans ho (fun i hi e => by omega)⟩
theorem fx_own {B sz : Nat} {T : TypeId} {v : Value} {xss : List (List Value)} {w : World} {ob : Nat} {cs : Array Value} (h : OwnS w B T sz v xss) (hI : Is w ob 27 cs) (hT : T ≠ 27) (i : Nat) (u : Value) : OwnS (w.setCell ⟨ob, i, none⟩ u) B T sz v xss :=
  OwnS.only h (Only.set (S := fun k => k = ob) (p := ⟨ob, i, none⟩) (Only.refl _ w) (fun _ => rfl) u) (fun k hk e => owned_off h.1 hI hT (by rw [hk, e]))
theorem fx_rdr {br p : Nat} {bs : List Nat} {f : Int} {v : Value} {w : World} {ob : Nat} {cs : Array Value} (h : Rdr w br bs p f v) (hI : Is w ob 27 cs) (i : Nat) (u : Value) : Rdr (w.setCell ⟨ob, i, none⟩ u) br bs p f v :=
  Rdr.only h (Only.set (S := fun k => k = ob) (p := ⟨ob, i, none⟩) (Only.refl _ w) (fun _ => rfl) u) (fun e => Is.apart h.is hI (by decide) e) (fun k hk e => owned_off h.row hI (by decide) (by rw [hk, e]))
def tp2_A : List (List Nat) := ([] :: [] :: [1] :: [2, 1] :: [3, 2, 1] :: [] :: [5] :: [6, 5] :: [] :: [8, 6, 5] :: [9, 8, 6, 5] :: [7, 10, 6, 5, 9, 8] :: [11, 7, 10, 6, 5, 9, 8] :: (4 :: 12 :: 9 :: 3 :: 2 :: 1 :: 11 :: 7 :: 10 :: 6 :: 5 :: 8 :: []) :: (0 :: 1 :: 2 :: 3 :: 4 :: 5 :: 6 :: 7 :: 8 :: 9 :: 10 :: 11 :: 12 :: 13 :: []) :: (14 :: 0 :: 1 :: 2 :: 3 :: 4 :: 5 :: 6 :: 7 :: 8 :: 9 :: 10 :: 11 :: 12 :: 13 :: []) :: (15 :: 13 :: 0 :: 1 :: 2 :: 3 :: 4 :: 5 :: 6 :: 7 :: 8 :: 9 :: 10 :: 11 :: 12 :: 14 :: []) :: [])
def tp2_kill : List (List Nat) := ([] :: [] :: [] :: [] :: [] :: [] :: [17] :: [] :: [] :: [17, 6] :: [] :: [] :: [] :: [12, 18] :: [] :: [] :: [6, 9, 12, 13, 17, 18] :: [])
def tp2_uses : List (List Nat) := ([] :: [] :: [] :: [] :: [] :: [] :: [17] :: [] :: [] :: [6] :: [] :: [] :: [] :: [12, 18, 9] :: [] :: [] :: [13, 9] :: [])
noncomputable def tp2_code : Code := ((Try.f70.body.bind (codeRegion 2)).getD .skip)
set_option maxRecDepth 100000 in
set_option maxHeartbeats 4000000 in
theorem tp2_in (cs : Array Value) (mb br p k c : Nat) (bs : List Nat) (v : Value) (Ao : Option Addr) (xss : List (List Value)) (na nb : Nat) (w0 : World) (hcf : cs[3]? = some (.slice Ao k c)) (hl : xss.length = k) (hk : k ≤ 70000) (hmb : w0.heap.size ≤ mb) (hbr : w0.heap.size ≤ br) (hp : p + 32 ≤ 8 * bs.length) (hna : num bs p 16 = na) (hnb : num bs (p + 16) 16 = nb) (ha : na < 65536) (hb : nb < 65536) (u2 u3 u4 u5 u6 u7 u8 u9 u10 u11 u12 u13 u14 u15 u16 u17 u18 u19 u20 u21 u22 u23 u24 u25 : Value) (w : World) (hG : Mp cs mb w0 w) (hR0 : Rdr w br bs p 0 v) (hown : OwnS w w0.heap.size 82 2 (.slice Ao k c) xss) :
    Code.wp Try.prog tp2_code (fun e a w' => ∃ y9 y10 y11 y12 y13 y14 y15 y16 y17 y18 y19 y20 y21 y22 y23 y24 : Value, a = ⟨(List.toArray (.pointer (some ⟨mb, 0, none⟩) :: .pointer (some ⟨br, 0, none⟩) :: u2 :: u3 :: u4 :: u5 :: u6 :: u7 :: u8 :: y9 :: y10 :: y11 :: y12 :: y13 :: y14 :: y15 :: y16 :: y17 :: y18 :: y19 :: y20 :: y21 :: y22 :: y23 :: y24 :: u25 :: [])), []⟩ ∧ e = .normal ∧ (∃ A' c', Mp (cs.setIfInBounds 3 (.slice A' (k + 1) c')) mb w0 w' ∧ OwnS w' w0.heap.size 82 2 (.slice A' (k + 1) c') (xss ++ [[Value.int .u16 (na : Nat), Value.int .u16 (nb : Nat)]]) ∧ Rdr w' br bs (p + 32) 0 v)) ⟨(List.toArray (.pointer (some ⟨mb, 0, none⟩) :: .pointer (some ⟨br, 0, none⟩) :: u2 :: u3 :: u4 :: u5 :: u6 :: u7 :: u8 :: u9 :: u10 :: u11 :: u12 :: u13 :: u14 :: u15 :: u16 :: u17 :: u18 :: u19 :: u20 :: u21 :: u22 :: u23 :: u24 :: u25 :: [])), []⟩ w := by
  conv => arg 2; whnf
  have HCF := Lib.hid hcf
  clear hcf
  have HV0 := Lib.hid hna
  have HV1 := Lib.hid hnb
  have e3 : IntKind.u16.wrap (na : Int) = (na : Int) := by rw [IntKind.wrap_u16]; omega
  have e4 : IntKind.u16.wrap (nb : Int) = (nb : Int) := by rw [IntKind.wrap_u16]; omega
  clear hna hnb
  refine wp_region_posts tp2_A [6, 9, 12, 13, 16] [6, 9, 12, 13, 16, 17, 18] tp2_kill tp2_uses [16] [16] [] [17, 18]
      (some ?v0 :: some ?v1 :: some ?v2 :: some ?v3 :: some ?v4 :: some ?v5 :: some (.int .u64 (na : Nat)) :: some ?v7 :: some ?v8 :: some (.int .u64 (nb : Nat)) :: some ?v10 :: some ?v11 :: none :: none :: some ?v14 :: some ?v15 :: none :: [])
      ?T (fun wx => Mp cs mb w0 wx) ?W ?E (by kernel_rfl) (by kernel_rfl) (by kernel_rfl) (fun x => ?hT) ?hF ?hini (Reg.all_ops ?runs) ?pres ?fin
  case W => exact fun j x w' => match j with | 6 => Rdr w' br bs (p + 16) 0 v | 9 => Rdr w' br bs (p + 32) 0 v | 12 => ∃ g, x 12 = .slice (some ⟨g, 0, none⟩) 1 1 ∧ Is w' g 82 [Value.int .u16 (na : Nat), Value.int .u16 (nb : Nat)].toArray | 13 => ∃ A' c', x 13 = .slice A' (k + 1) c' ∧ OwnS w' w0.heap.size 82 2 (.slice A' (k + 1) c') (xss ++ [[Value.int .u16 (na : Nat), Value.int .u16 (nb : Nat)]]) | 16 => ∃ A' c', Mp (cs.setIfInBounds 3 (.slice A' (k + 1) c')) mb w0 w' ∧ OwnS w' w0.heap.size 82 2 (.slice A' (k + 1) c') (xss ++ [[Value.int .u16 (na : Nat), Value.int .u16 (nb : Nat)]]) ∧ Rdr w' br bs (p + 32) 0 v | 17 => Rdr w' br bs p 0 v | 18 => OwnS w' w0.heap.size 82 2 (.slice Ao k c) xss | _ => True
  case E => exact fun i wx wy => match i with | 6 => Only (fun k => k = br) wx wy ∧ ∃ ds, Is wx br 127 ds | 9 => Only (fun k => k = br) wx wy ∧ ∃ ds, Is wx br 127 ds | 12 => Only (fun _ => False) wx wy | 13 => ∃ S, Only S wx wy ∧ ¬ S br ∧ ∀ k, v.ownBlock = some k → ¬ S k | _ => True
  case hT =>
    simp only [Reg.fillV, Act.put, List.setIfInBounds_toArray, List.set_cons_zero, List.set_cons_succ]
    rfl
  case runs =>
    refine And.intro ?_ ?_
    · refine Reg.ob_pure (fun _ => rfl) rfl rfl rfl rfl (fun x w1 hF => ?_)
      have cf : w1.cell? ⟨mb, 3, none⟩ = some (.slice Ao k c) := (hF.io.cell 3).trans HCF.out
      go_simp
      with_reducible rfl
    refine And.intro ?_ ?_
    · refine Reg.ob_pure (fun _ => rfl) rfl rfl rfl rfl (fun x w1 hF => ?_)
      have cf : w1.cell? ⟨mb, 3, none⟩ = some (.slice Ao k c) := (hF.io.cell 3).trans HCF.out
      go_simp
      with_reducible rfl
    refine And.intro ?_ ?_
    · refine Reg.ob_pure (fun _ => rfl) rfl rfl rfl rfl (fun x w1 hF => ?_)
      have cf : w1.cell? ⟨mb, 3, none⟩ = some (.slice Ao k c) := (hF.io.cell 3).trans HCF.out
      go_simp
      with_reducible rfl
    refine And.intro ?_ ?_
    · refine Reg.ob_pure (fun _ => rfl) rfl rfl rfl rfl (fun x w1 hF => ?_)
      have cf : w1.cell? ⟨mb, 3, none⟩ = some (.slice Ao k c) := (hF.io.cell 3).trans HCF.out
      go_simp
      with_reducible rfl
    refine And.intro ?_ ?_
    · refine Reg.ob_pure (fun _ => rfl) rfl rfl rfl rfl (fun x w1 hF => ?_)
      have cf : w1.cell? ⟨mb, 3, none⟩ = some (.slice Ao k c) := (hF.io.cell 3).trans HCF.out
      go_simp
      with_reducible rfl
    refine And.intro ?_ ?_
    · refine Reg.ob_pure (fun _ => rfl) rfl rfl rfl rfl (fun x w1 hF => ?_)
      have cf : w1.cell? ⟨mb, 3, none⟩ = some (.slice Ao k c) := (hF.io.cell 3).trans HCF.out
      go_simp
      with_reducible rfl
    refine And.intro ?_ ?_
    · refine Reg.ob_told (fun _ => rfl) rfl (fun x w1 hF hU K hK => ?_)
      replace hF := hF rfl
      obtain ⟨hR, -⟩ := hU
      have hR : Rdr w1 br bs p 0 v := hR
      have HT := take_ok br p 16 bs v w1 hR (by omega) (by omega)
      rw [HV0.out] at HT
      unfold ptr at HT
      go_simp
      refine HT.mono ?_
      rintro e w5 ⟨rfl, hR2, ho⟩
      exact hK w5 (fun _ _ _ => hF.took hbr hR ho) ⟨ho, _, hR.is⟩ hR2
    refine And.intro ?_ ?_
    · refine Reg.ob_pure (fun _ => rfl) rfl rfl rfl rfl (fun x w1 hF => ?_)
      have cf : w1.cell? ⟨mb, 3, none⟩ = some (.slice Ao k c) := (hF.io.cell 3).trans HCF.out
      go_simp
      with_reducible rfl
    refine And.intro ?_ ?_
    · refine Reg.ob_pure (fun _ => rfl) rfl rfl rfl rfl (fun x w1 hF => ?_)
      have cf : w1.cell? ⟨mb, 3, none⟩ = some (.slice Ao k c) := (hF.io.cell 3).trans HCF.out
      go_simp
      with_reducible rfl
    refine And.intro ?_ ?_
    · refine Reg.ob_told (fun _ => rfl) rfl (fun x w1 hF hU K hK => ?_)
      replace hF := hF rfl
      obtain ⟨hR, -⟩ := hU
      have hR : Rdr w1 br bs (p + 16) 0 v := hR
      have HT := take_ok br (p + 16) 16 bs v w1 hR (by omega) (by omega)
      rw [HV1.out] at HT
      unfold ptr at HT
      go_simp
      refine HT.mono ?_
      rintro e w5 ⟨rfl, hR2, ho⟩
      exact hK w5 (fun _ _ _ => hF.took hbr hR ho) ⟨ho, _, hR.is⟩ hR2
    refine And.intro ?_ ?_
    · refine Reg.ob_pure (fun _ => rfl) rfl rfl rfl rfl (fun x w1 hF => ?_)
      have cf : w1.cell? ⟨mb, 3, none⟩ = some (.slice Ao k c) := (hF.io.cell 3).trans HCF.out
      go_simp
      with_reducible rfl
    refine And.intro ?_ ?_
    · refine Reg.ob_pure (fun _ => rfl) rfl rfl rfl rfl (fun x w1 hF => ?_)
      have cf : w1.cell? ⟨mb, 3, none⟩ = some (.slice Ao k c) := (hF.io.cell 3).trans HCF.out
      go_simp
      with_reducible rfl
    refine And.intro ?_ ?_
    · refine Reg.ob_some (fun _ => rfl) rfl (fun x w1 hF hU K hK => ?_)
      replace hF := hF rfl
      go_simp
      exact hK _ _ (fun _ _ _ => hF.go ((Only.refl _ _).alloc _)) ((Only.refl _ _).alloc _) ⟨_, rfl, Is.made _ _ _⟩
    refine And.intro ?_ ?_
    · refine Reg.ob_some (fun _ => rfl) rfl (fun x w1 hF hU K hK => ?_)
      replace hF := hF rfl
      obtain ⟨⟨g, hx, hI⟩, hO, hR, -⟩ := hU
      have hx : x 12 = .slice (some ⟨g, 0, none⟩) 1 1 := hx
      have hO : OwnS w1 w0.heap.size 82 2 (.slice Ao k c) xss := hO
      have hR : Rdr w1 br bs (p + 32) 0 v := hR
      refine append_run w1 _ _ sty_pr rfl w0.heap.size (.slice Ao k c) xss rfl hO g [Value.int .u16 (na : Nat), Value.int .u16 (nb : Nat)] (by simpa [Act.eval] using hx) hI rfl (by simp [Value.oneCell']) (by omega) (by decide) hF.pure.size ?_
      intro v' w' hown ho
      obtain ⟨A', c', rfl, -⟩ := OwnS.slice hown
      have e : (xss ++ [[Value.int .u16 (na : Nat), Value.int .u16 (nb : Nat)]]).length = k + 1 := by rw [List.length_append, hl]; rfl
      rw [e] at hown
      rw [e]
      exact hK _ w' (fun _ _ _ => hF.far hO.1 (by decide) ho) ⟨_, ho, owned_off hO.1 hR.is (by decide), fun k' hk' e' => owned_apart hO.1 hR.row (by decide) k' e' hk'⟩ ⟨A', c', rfl, hown⟩
    refine And.intro ?_ ?_
    · refine Reg.ob_pure (fun _ => rfl) rfl rfl rfl rfl (fun x w1 hF => ?_)
      have cf : w1.cell? ⟨mb, 3, none⟩ = some (.slice Ao k c) := (hF.io.cell 3).trans HCF.out
      go_simp
      with_reducible rfl
    refine And.intro ?_ ?_
    · refine Reg.ob_pure (fun _ => rfl) rfl rfl rfl rfl (fun x w1 hF => ?_)
      have cf : w1.cell? ⟨mb, 3, none⟩ = some (.slice Ao k c) := (hF.io.cell 3).trans HCF.out
      go_simp
      with_reducible rfl
    refine And.intro ?_ ?_
    · refine Reg.ob_some (fun _ => rfl) rfl (fun x w1 hF hU K hK => ?_)
      replace hF := hF rfl
      obtain ⟨⟨A', c', hx, hO⟩, hR, -⟩ := hU
      have hx : x 13 = .slice A' (k + 1) c' := hx
      have hR : Rdr w1 br bs (p + 32) 0 v := hR
      have ff := hF.io.free 3
      have cf : w1.cell? ⟨mb, 3, none⟩ = some (.slice Ao k c) := (hF.io.cell 3).trans HCF.out
      revert hK
      simp only [Nat.reduceAdd, hx]
      intro hK
      go_simp
      exact hK undef _ (fun _ h _ => by cases h) trivial ⟨A', c', hF.put hmb 3 _, fx_own hO hF.io (by decide) 3 _, fx_rdr hR hF.io 3 _⟩
    exact trivial
  case hF =>
    exact hG.go ((Only.refl _ _).drewN 1)
  case hini =>
    exact ⟨fun x => hR0.drewN 1, fun x => OwnS.only hown ((Only.refl (fun _ => False) w).drewN 1) (by simp), trivial⟩
  case pres =>
    intro i hi j hj hc x wx wy hF hE hW
    simp only [List.mem_cons, List.mem_nil_iff, or_false] at hi hj
    rcases hi with rfl | rfl | rfl | rfl | rfl <;> rcases hj with rfl | rfl | rfl | rfl | rfl | rfl | rfl
    all_goals first
      | (exfalso; revert hc; decide)
      | (obtain ⟨h1, ds, h2⟩ := hE; exact OwnS.only hW h1 (fun k hk e => owned_off hW.1 h2 (by decide) (by rw [hk, e])))
      | exact OwnS.only hW hE (by simp)
      | exact Rdr.only hW hE (by simp) (by simp)
      | (obtain ⟨S, h1, h2, h3⟩ := hE; exact Rdr.only hW h1 h2 h3)
  case fin =>
    rintro x w9 hF hU
    obtain ⟨hQ, -⟩ := hU
    repeat apply Exists.intro
    exact ⟨rfl, rfl, hQ⟩

set_option maxRecDepth 100000 in
set_option maxHeartbeats 4000000 in
theorem tp2 (cs : Array Value) (mb br p k c : Nat) (bs : List Nat) (v : Value) (Ao : Option Addr) (xss : List (List Value)) (na nb : Nat) (w0 : World) (hcf : cs[3]? = some (.slice Ao k c)) (hl : xss.length = k) (hk : k ≤ 70000) (hmb : w0.heap.size ≤ mb) (hbr : w0.heap.size ≤ br) (hp : p + 32 ≤ 8 * bs.length) (hna : num bs p 16 = na) (hnb : num bs (p + 16) 16 = nb) (ha : na < 65536) (hb : nb < 65536) (u2 u3 u4 u5 u6 u7 u8 u9 u10 u11 u12 u13 u14 u15 u16 u17 u18 u19 u20 u21 u22 u23 u24 u25 : Value) (Q : Exit → Act → World → Prop) (w : World) (hG : Mp cs mb w0 w) (hR0 : Rdr w br bs p 0 v) (hown : OwnS w w0.heap.size 82 2 (.slice Ao k c) xss)
    (hend : ∀ (y9 y10 y11 y12 y13 y14 y15 y16 y17 y18 y19 y20 y21 y22 y23 y24 : Value) (w' : World), (∃ A' c', Mp (cs.setIfInBounds 3 (.slice A' (k + 1) c')) mb w0 w' ∧ OwnS w' w0.heap.size 82 2 (.slice A' (k + 1) c') (xss ++ [[Value.int .u16 (na : Nat), Value.int .u16 (nb : Nat)]]) ∧ Rdr w' br bs (p + 32) 0 v) → Q .normal ⟨(List.toArray (.pointer (some ⟨mb, 0, none⟩) :: .pointer (some ⟨br, 0, none⟩) :: u2 :: u3 :: u4 :: u5 :: u6 :: u7 :: u8 :: y9 :: y10 :: y11 :: y12 :: y13 :: y14 :: y15 :: y16 :: y17 :: y18 :: y19 :: y20 :: y21 :: y22 :: y23 :: y24 :: u25 :: [])), []⟩ w') :
    Code.wp Try.prog tp2_code Q ⟨(List.toArray (.pointer (some ⟨mb, 0, none⟩) :: .pointer (some ⟨br, 0, none⟩) :: u2 :: u3 :: u4 :: u5 :: u6 :: u7 :: u8 :: u9 :: u10 :: u11 :: u12 :: u13 :: u14 :: u15 :: u16 :: u17 :: u18 :: u19 :: u20 :: u21 :: u22 :: u23 :: u24 :: u25 :: [])), []⟩ w := by
  refine wp_mono (tp2_in cs mb br p k c bs v Ao xss na nb w0 hcf hl hk hmb hbr hp hna hnb ha hb _ _ _ _ _ _ _ _ _ _ _ _ _ _ _ _ _ _ _ _ _ _ _ _ w hG hR0 hown) ?_
  rintro e a w' h
  obtain ⟨y9, h⟩ := h
  obtain ⟨y10, h⟩ := h
  obtain ⟨y11, h⟩ := h
  obtain ⟨y12, h⟩ := h
  obtain ⟨y13, h⟩ := h
  obtain ⟨y14, h⟩ := h
  obtain ⟨y15, h⟩ := h
  obtain ⟨y16, h⟩ := h
  obtain ⟨y17, h⟩ := h
  obtain ⟨y18, h⟩ := h
  obtain ⟨y19, h⟩ := h
  obtain ⟨y20, h⟩ := h
  obtain ⟨y21, h⟩ := h
  obtain ⟨y22, h⟩ := h
  obtain ⟨y23, h⟩ := h
  obtain ⟨y24, h⟩ := h
  obtain ⟨h, rfl, hq⟩ := h
  subst h
  exact hend y9 y10 y11 y12 y13 y14 y15 y16 y17 y18 y19 y20 y21 y22 y23 y24 w' hq
def to2_A : List (List Nat) := ([] :: [] :: [1] :: [2, 1] :: [3, 2, 1] :: [] :: [5] :: [6, 5] :: [] :: [8, 6, 5] :: [9, 8, 6, 5] :: [7, 10, 6, 5, 9, 8] :: [11, 7, 10, 6, 5, 9, 8] :: (4 :: 12 :: 9 :: 3 :: 2 :: 1 :: 11 :: 7 :: 10 :: 6 :: 5 :: 8 :: []) :: (0 :: 1 :: 2 :: 3 :: 4 :: 5 :: 6 :: 7 :: 8 :: 9 :: 10 :: 11 :: 12 :: 13 :: []) :: (14 :: 0 :: 1 :: 2 :: 3 :: 4 :: 5 :: 6 :: 7 :: 8 :: 9 :: 10 :: 11 :: 12 :: 13 :: []) :: (15 :: 13 :: 0 :: 1 :: 2 :: 3 :: 4 :: 5 :: 6 :: 7 :: 8 :: 9 :: 10 :: 11 :: 12 :: 14 :: []) :: [])
def to2_kill : List (List Nat) := ([] :: [] :: [] :: [] :: [] :: [] :: [17] :: [] :: [] :: [17, 6] :: [] :: [] :: [] :: [12, 18] :: [] :: [] :: [6, 9, 12, 13, 17, 18] :: [])
def to2_uses : List (List Nat) := ([] :: [] :: [] :: [] :: [] :: [] :: [17] :: [] :: [] :: [6] :: [] :: [] :: [] :: [12, 18, 9] :: [] :: [] :: [13, 9] :: [])
noncomputable def to2_code : Code := ((Try.f74.body.bind (codeRegion 2)).getD .skip)
set_option maxRecDepth 100000 in
set_option maxHeartbeats 4000000 in
theorem to2_in (cs : Array Value) (mb br p k c : Nat) (bs : List Nat) (v : Value) (Ao : Option Addr) (xss : List (List Value)) (na nb : Nat) (w0 : World) (hcf : cs[4]? = some (.slice Ao k c)) (hl : xss.length = k) (hk : k ≤ 70000) (hmb : w0.heap.size ≤ mb) (hbr : w0.heap.size ≤ br) (hp : p + 40 ≤ 8 * bs.length) (hna : num bs p 32 = na) (hnb : num bs (p + 32) 8 = nb) (ha : na < 4294967296) (hb : nb < 256) (u2 u3 u4 u5 u6 u7 u8 u9 u10 u11 u12 u13 u14 u15 u16 u17 u18 u19 u20 u21 u22 u23 u24 u25 u26 u27 : Value) (w : World) (hG : Mp cs mb w0 w) (hR0 : Rdr w br bs p 0 v) (hown : OwnS w w0.heap.size 85 2 (.slice Ao k c) xss) :
    Code.wp Try.prog to2_code (fun e a w' => ∃ y9 y10 y11 y12 y13 y14 y15 y16 y17 y18 y19 y20 y21 y22 y23 y24 : Value, a = ⟨(List.toArray (.pointer (some ⟨mb, 0, none⟩) :: .pointer (some ⟨br, 0, none⟩) :: u2 :: u3 :: u4 :: u5 :: u6 :: u7 :: u8 :: y9 :: y10 :: y11 :: y12 :: y13 :: y14 :: y15 :: y16 :: y17 :: y18 :: y19 :: y20 :: y21 :: y22 :: y23 :: y24 :: u25 :: u26 :: u27 :: [])), []⟩ ∧ e = .normal ∧ (∃ A' c', Mp (cs.setIfInBounds 4 (.slice A' (k + 1) c')) mb w0 w' ∧ OwnS w' w0.heap.size 85 2 (.slice A' (k + 1) c') (xss ++ [[Value.int .u32 (na : Nat), Value.int .u8 (nb : Nat)]]) ∧ Rdr w' br bs (p + 40) 0 v)) ⟨(List.toArray (.pointer (some ⟨mb, 0, none⟩) :: .pointer (some ⟨br, 0, none⟩) :: u2 :: u3 :: u4 :: u5 :: u6 :: u7 :: u8 :: u9 :: u10 :: u11 :: u12 :: u13 :: u14 :: u15 :: u16 :: u17 :: u18 :: u19 :: u20 :: u21 :: u22 :: u23 :: u24 :: u25 :: u26 :: u27 :: [])), []⟩ w := by
  conv => arg 2; whnf
  have HCF := Lib.hid hcf
  clear hcf
  have HV0 := Lib.hid hna
  have HV1 := Lib.hid hnb
  have e3 : IntKind.u32.wrap (na : Int) = (na : Int) := by rw [IntKind.wrap_u32]; omega
  have e4 : IntKind.u8.wrap (nb : Int) = (nb : Int) := by rw [IntKind.wrap_u8]; omega
  clear hna hnb
  refine wp_region_posts to2_A [6, 9, 12, 13, 16] [6, 9, 12, 13, 16, 17, 18] to2_kill to2_uses [16] [16] [] [17, 18]
      (some ?v0 :: some ?v1 :: some ?v2 :: some ?v3 :: some ?v4 :: some ?v5 :: some (.int .u64 (na : Nat)) :: some ?v7 :: some ?v8 :: some (.int .u64 (nb : Nat)) :: some ?v10 :: some ?v11 :: none :: none :: some ?v14 :: some ?v15 :: none :: [])
      ?T (fun wx => Mp cs mb w0 wx) ?W ?E (by kernel_rfl) (by kernel_rfl) (by kernel_rfl) (fun x => ?hT) ?hF ?hini (Reg.all_ops ?runs) ?pres ?fin
  case W => exact fun j x w' => match j with | 6 => Rdr w' br bs (p + 32) 0 v | 9 => Rdr w' br bs (p + 40) 0 v | 12 => ∃ g, x 12 = .slice (some ⟨g, 0, none⟩) 1 1 ∧ Is w' g 85 [Value.int .u32 (na : Nat), Value.int .u8 (nb : Nat)].toArray | 13 => ∃ A' c', x 13 = .slice A' (k + 1) c' ∧ OwnS w' w0.heap.size 85 2 (.slice A' (k + 1) c') (xss ++ [[Value.int .u32 (na : Nat), Value.int .u8 (nb : Nat)]]) | 16 => ∃ A' c', Mp (cs.setIfInBounds 4 (.slice A' (k + 1) c')) mb w0 w' ∧ OwnS w' w0.heap.size 85 2 (.slice A' (k + 1) c') (xss ++ [[Value.int .u32 (na : Nat), Value.int .u8 (nb : Nat)]]) ∧ Rdr w' br bs (p + 40) 0 v | 17 => Rdr w' br bs p 0 v | 18 => OwnS w' w0.heap.size 85 2 (.slice Ao k c) xss | _ => True
  case E => exact fun i wx wy => match i with | 6 => Only (fun k => k = br) wx wy ∧ ∃ ds, Is wx br 127 ds | 9 => Only (fun k => k = br) wx wy ∧ ∃ ds, Is wx br 127 ds | 12 => Only (fun _ => False) wx wy | 13 => ∃ S, Only S wx wy ∧ ¬ S br ∧ ∀ k, v.ownBlock = some k → ¬ S k | _ => True
  case hT =>
    simp only [Reg.fillV, Act.put, List.setIfInBounds_toArray, List.set_cons_zero, List.set_cons_succ]
    rfl
  case runs =>
    refine And.intro ?_ ?_
    · refine Reg.ob_pure (fun _ => rfl) rfl rfl rfl rfl (fun x w1 hF => ?_)
      have cf : w1.cell? ⟨mb, 4, none⟩ = some (.slice Ao k c) := (hF.io.cell 4).trans HCF.out
      go_simp
      with_reducible rfl
    refine And.intro ?_ ?_
    · refine Reg.ob_pure (fun _ => rfl) rfl rfl rfl rfl (fun x w1 hF => ?_)
      have cf : w1.cell? ⟨mb, 4, none⟩ = some (.slice Ao k c) := (hF.io.cell 4).trans HCF.out
      go_simp
      with_reducible rfl
    refine And.intro ?_ ?_
    · refine Reg.ob_pure (fun _ => rfl) rfl rfl rfl rfl (fun x w1 hF => ?_)
      have cf : w1.cell? ⟨mb, 4, none⟩ = some (.slice Ao k c) := (hF.io.cell 4).trans HCF.out
      go_simp
      with_reducible rfl
    refine And.intro ?_ ?_
    · refine Reg.ob_pure (fun _ => rfl) rfl rfl rfl rfl (fun x w1 hF => ?_)
      have cf : w1.cell? ⟨mb, 4, none⟩ = some (.slice Ao k c) := (hF.io.cell 4).trans HCF.out
      go_simp
      with_reducible rfl
    refine And.intro ?_ ?_
    · refine Reg.ob_pure (fun _ => rfl) rfl rfl rfl rfl (fun x w1 hF => ?_)
      have cf : w1.cell? ⟨mb, 4, none⟩ = some (.slice Ao k c) := (hF.io.cell 4).trans HCF.out
      go_simp
      with_reducible rfl
    refine And.intro ?_ ?_
    · refine Reg.ob_pure (fun _ => rfl) rfl rfl rfl rfl (fun x w1 hF => ?_)
      have cf : w1.cell? ⟨mb, 4, none⟩ = some (.slice Ao k c) := (hF.io.cell 4).trans HCF.out
      go_simp
      with_reducible rfl
    refine And.intro ?_ ?_
    · refine Reg.ob_told (fun _ => rfl) rfl (fun x w1 hF hU K hK => ?_)
      replace hF := hF rfl
      obtain ⟨hR, -⟩ := hU
      have hR : Rdr w1 br bs p 0 v := hR
      have HT := take_ok br p 32 bs v w1 hR (by omega) (by omega)
      rw [HV0.out] at HT
      unfold ptr at HT
      go_simp
      refine HT.mono ?_
      rintro e w5 ⟨rfl, hR2, ho⟩
      exact hK w5 (fun _ _ _ => hF.took hbr hR ho) ⟨ho, _, hR.is⟩ hR2
    refine And.intro ?_ ?_
    · refine Reg.ob_pure (fun _ => rfl) rfl rfl rfl rfl (fun x w1 hF => ?_)
      have cf : w1.cell? ⟨mb, 4, none⟩ = some (.slice Ao k c) := (hF.io.cell 4).trans HCF.out
      go_simp
      with_reducible rfl
    refine And.intro ?_ ?_
    · refine Reg.ob_pure (fun _ => rfl) rfl rfl rfl rfl (fun x w1 hF => ?_)
      have cf : w1.cell? ⟨mb, 4, none⟩ = some (.slice Ao k c) := (hF.io.cell 4).trans HCF.out
      go_simp
      with_reducible rfl
    refine And.intro ?_ ?_
    · refine Reg.ob_told (fun _ => rfl) rfl (fun x w1 hF hU K hK => ?_)
      replace hF := hF rfl
      obtain ⟨hR, -⟩ := hU
      have hR : Rdr w1 br bs (p + 32) 0 v := hR
      have HT := take_ok br (p + 32) 8 bs v w1 hR (by omega) (by omega)
      rw [HV1.out] at HT
      unfold ptr at HT
      go_simp
      refine HT.mono ?_
      rintro e w5 ⟨rfl, hR2, ho⟩
      exact hK w5 (fun _ _ _ => hF.took hbr hR ho) ⟨ho, _, hR.is⟩ hR2
    refine And.intro ?_ ?_
    · refine Reg.ob_pure (fun _ => rfl) rfl rfl rfl rfl (fun x w1 hF => ?_)
      have cf : w1.cell? ⟨mb, 4, none⟩ = some (.slice Ao k c) := (hF.io.cell 4).trans HCF.out
      go_simp
      with_reducible rfl
    refine And.intro ?_ ?_
    · refine Reg.ob_pure (fun _ => rfl) rfl rfl rfl rfl (fun x w1 hF => ?_)
      have cf : w1.cell? ⟨mb, 4, none⟩ = some (.slice Ao k c) := (hF.io.cell 4).trans HCF.out
      go_simp
      with_reducible rfl
    refine And.intro ?_ ?_
    · refine Reg.ob_some (fun _ => rfl) rfl (fun x w1 hF hU K hK => ?_)
      replace hF := hF rfl
      go_simp
      exact hK _ _ (fun _ _ _ => hF.go ((Only.refl _ _).alloc _)) ((Only.refl _ _).alloc _) ⟨_, rfl, Is.made _ _ _⟩
    refine And.intro ?_ ?_
    · refine Reg.ob_some (fun _ => rfl) rfl (fun x w1 hF hU K hK => ?_)
      replace hF := hF rfl
      obtain ⟨⟨g, hx, hI⟩, hO, hR, -⟩ := hU
      have hx : x 12 = .slice (some ⟨g, 0, none⟩) 1 1 := hx
      have hO : OwnS w1 w0.heap.size 85 2 (.slice Ao k c) xss := hO
      have hR : Rdr w1 br bs (p + 40) 0 v := hR
      refine append_run w1 _ _ sty_od rfl w0.heap.size (.slice Ao k c) xss rfl hO g [Value.int .u32 (na : Nat), Value.int .u8 (nb : Nat)] (by simpa [Act.eval] using hx) hI rfl (by simp [Value.oneCell']) (by omega) (by decide) hF.pure.size ?_
      intro v' w' hown ho
      obtain ⟨A', c', rfl, -⟩ := OwnS.slice hown
      have e : (xss ++ [[Value.int .u32 (na : Nat), Value.int .u8 (nb : Nat)]]).length = k + 1 := by rw [List.length_append, hl]; rfl
      rw [e] at hown
      rw [e]
      exact hK _ w' (fun _ _ _ => hF.far hO.1 (by decide) ho) ⟨_, ho, owned_off hO.1 hR.is (by decide), fun k' hk' e' => owned_apart hO.1 hR.row (by decide) k' e' hk'⟩ ⟨A', c', rfl, hown⟩
    refine And.intro ?_ ?_
    · refine Reg.ob_pure (fun _ => rfl) rfl rfl rfl rfl (fun x w1 hF => ?_)
      have cf : w1.cell? ⟨mb, 4, none⟩ = some (.slice Ao k c) := (hF.io.cell 4).trans HCF.out
      go_simp
      with_reducible rfl
    refine And.intro ?_ ?_
    · refine Reg.ob_pure (fun _ => rfl) rfl rfl rfl rfl (fun x w1 hF => ?_)
      have cf : w1.cell? ⟨mb, 4, none⟩ = some (.slice Ao k c) := (hF.io.cell 4).trans HCF.out
      go_simp
      with_reducible rfl
    refine And.intro ?_ ?_
    · refine Reg.ob_some (fun _ => rfl) rfl (fun x w1 hF hU K hK => ?_)
      replace hF := hF rfl
      obtain ⟨⟨A', c', hx, hO⟩, hR, -⟩ := hU
      have hx : x 13 = .slice A' (k + 1) c' := hx
      have hR : Rdr w1 br bs (p + 40) 0 v := hR
      have ff := hF.io.free 4
      have cf : w1.cell? ⟨mb, 4, none⟩ = some (.slice Ao k c) := (hF.io.cell 4).trans HCF.out
      revert hK
      simp only [Nat.reduceAdd, hx]
      intro hK
      go_simp
      exact hK undef _ (fun _ h _ => by cases h) trivial ⟨A', c', hF.put hmb 4 _, fx_own hO hF.io (by decide) 4 _, fx_rdr hR hF.io 4 _⟩
    exact trivial
  case hF =>
    exact hG.go ((Only.refl _ _).drewN 1)
  case hini =>
    exact ⟨fun x => hR0.drewN 1, fun x => OwnS.only hown ((Only.refl (fun _ => False) w).drewN 1) (by simp), trivial⟩
  case pres =>
    intro i hi j hj hc x wx wy hF hE hW
    simp only [List.mem_cons, List.mem_nil_iff, or_false] at hi hj
    rcases hi with rfl | rfl | rfl | rfl | rfl <;> rcases hj with rfl | rfl | rfl | rfl | rfl | rfl | rfl
    all_goals first
      | (exfalso; revert hc; decide)
      | (obtain ⟨h1, ds, h2⟩ := hE; exact OwnS.only hW h1 (fun k hk e => owned_off hW.1 h2 (by decide) (by rw [hk, e])))
      | exact OwnS.only hW hE (by simp)
      | exact Rdr.only hW hE (by simp) (by simp)
      | (obtain ⟨S, h1, h2, h3⟩ := hE; exact Rdr.only hW h1 h2 h3)
  case fin =>
    rintro x w9 hF hU
    obtain ⟨hQ, -⟩ := hU
    repeat apply Exists.intro
    exact ⟨rfl, rfl, hQ⟩

set_option maxRecDepth 100000 in
set_option maxHeartbeats 4000000 in
theorem to2 (cs : Array Value) (mb br p k c : Nat) (bs : List Nat) (v : Value) (Ao : Option Addr) (xss : List (List Value)) (na nb : Nat) (w0 : World) (hcf : cs[4]? = some (.slice Ao k c)) (hl : xss.length = k) (hk : k ≤ 70000) (hmb : w0.heap.size ≤ mb) (hbr : w0.heap.size ≤ br) (hp : p + 40 ≤ 8 * bs.length) (hna : num bs p 32 = na) (hnb : num bs (p + 32) 8 = nb) (ha : na < 4294967296) (hb : nb < 256) (u2 u3 u4 u5 u6 u7 u8 u9 u10 u11 u12 u13 u14 u15 u16 u17 u18 u19 u20 u21 u22 u23 u24 u25 u26 u27 : Value) (Q : Exit → Act → World → Prop) (w : World) (hG : Mp cs mb w0 w) (hR0 : Rdr w br bs p 0 v) (hown : OwnS w w0.heap.size 85 2 (.slice Ao k c) xss)
    (hend : ∀ (y9 y10 y11 y12 y13 y14 y15 y16 y17 y18 y19 y20 y21 y22 y23 y24 : Value) (w' : World), (∃ A' c', Mp (cs.setIfInBounds 4 (.slice A' (k + 1) c')) mb w0 w' ∧ OwnS w' w0.heap.size 85 2 (.slice A' (k + 1) c') (xss ++ [[Value.int .u32 (na : Nat), Value.int .u8 (nb : Nat)]]) ∧ Rdr w' br bs (p + 40) 0 v) → Q .normal ⟨(List.toArray (.pointer (some ⟨mb, 0, none⟩) :: .pointer (some ⟨br, 0, none⟩) :: u2 :: u3 :: u4 :: u5 :: u6 :: u7 :: u8 :: y9 :: y10 :: y11 :: y12 :: y13 :: y14 :: y15 :: y16 :: y17 :: y18 :: y19 :: y20 :: y21 :: y22 :: y23 :: y24 :: u25 :: u26 :: u27 :: [])), []⟩ w') :
    Code.wp Try.prog to2_code Q ⟨(List.toArray (.pointer (some ⟨mb, 0, none⟩) :: .pointer (some ⟨br, 0, none⟩) :: u2 :: u3 :: u4 :: u5 :: u6 :: u7 :: u8 :: u9 :: u10 :: u11 :: u12 :: u13 :: u14 :: u15 :: u16 :: u17 :: u18 :: u19 :: u20 :: u21 :: u22 :: u23 :: u24 :: u25 :: u26 :: u27 :: [])), []⟩ w := by
  refine wp_mono (to2_in cs mb br p k c bs v Ao xss na nb w0 hcf hl hk hmb hbr hp hna hnb ha hb _ _ _ _ _ _ _ _ _ _ _ _ _ _ _ _ _ _ _ _ _ _ _ _ _ _ w hG hR0 hown) ?_
  rintro e a w' h
  obtain ⟨y9, h⟩ := h
  obtain ⟨y10, h⟩ := h
  obtain ⟨y11, h⟩ := h
  obtain ⟨y12, h⟩ := h
  obtain ⟨y13, h⟩ := h
  obtain ⟨y14, h⟩ := h
  obtain ⟨y15, h⟩ := h
  obtain ⟨y16, h⟩ := h
  obtain ⟨y17, h⟩ := h
  obtain ⟨y18, h⟩ := h
  obtain ⟨y19, h⟩ := h
  obtain ⟨y20, h⟩ := h
  obtain ⟨y21, h⟩ := h
  obtain ⟨y22, h⟩ := h
  obtain ⟨y23, h⟩ := h
  obtain ⟨y24, h⟩ := h
  obtain ⟨h, rfl, hq⟩ := h
  subst h
  exact hend y9 y10 y11 y12 y13 y14 y15 y16 y17 y18 y19 y20 y21 y22 y23 y24 w' hq
def tr4_A : List (List Nat) := ([] :: [] :: [1] :: [2, 1] :: [3, 2, 1] :: [] :: [5] :: [6, 5] :: [7, 6, 5] :: (4 :: 8 :: 6 :: 3 :: 2 :: 1 :: 7 :: 5 :: []) :: (0 :: 1 :: 2 :: 3 :: 4 :: 5 :: 6 :: 7 :: 8 :: 9 :: []) :: (10 :: 0 :: 1 :: 2 :: 3 :: 4 :: 5 :: 6 :: 7 :: 8 :: 9 :: []) :: (11 :: 9 :: 0 :: 1 :: 2 :: 3 :: 4 :: 5 :: 6 :: 7 :: 8 :: 10 :: []) :: [])
def tr4_kill : List (List Nat) := ([] :: [] :: [] :: [] :: [] :: [] :: [13] :: [] :: [] :: [8, 14] :: [] :: [] :: [6, 8, 9, 13, 14] :: [])
def tr4_uses : List (List Nat) := ([] :: [] :: [] :: [] :: [] :: [] :: [13] :: [] :: [] :: [8, 14, 6] :: [] :: [] :: [9, 6] :: [])
noncomputable def tr4_code : Code := ((Try.f76.body.bind (codeRegion 4)).getD .skip)
set_option maxRecDepth 100000 in
set_option maxHeartbeats 4000000 in
theorem tr4_in (cs : Array Value) (mb br p k c : Nat) (bs : List Nat) (v : Value) (Ao : Option Addr) (xss : List (List Value)) (na q : Nat) (f f1 : Int) (w0 : World) (hcf : cs[7]? = some (.slice Ao k c)) (hl : xss.length = k) (hk : k ≤ 70000) (hmb : w0.heap.size ≤ mb) (hbr : w0.heap.size ≤ br) (ht : ∀ wx, Rdr wx br bs p f v → Calls Try.prog 57 #[.pointer (some ⟨br, 0, none⟩), .int .i64 32] wx (Took wx br bs q f1 v (na : Nat))) (ha : na < 4294967296) (u2 u3 u4 u5 u6 u7 u8 u9 u10 u11 u12 u13 u14 u15 u16 u17 u18 u19 u20 u21 u22 u23 u24 u25 u26 u27 u28 u29 u30 u31 u32 u33 u34 : Value) (w : World) (hG : Mp cs mb w0 w) (hR0 : Rdr w br bs p f v) (hown : OwnS w w0.heap.size 22 1 (.slice Ao k c) xss) :
    Code.wp Try.prog tr4_code (fun e a w' => ∃ y22 y23 y24 y25 y26 y27 y28 y29 y30 y31 y32 y33 : Value, a = ⟨(List.toArray (.pointer (some ⟨mb, 0, none⟩) :: .pointer (some ⟨br, 0, none⟩) :: u2 :: u3 :: u4 :: u5 :: u6 :: u7 :: u8 :: u9 :: u10 :: u11 :: u12 :: u13 :: u14 :: u15 :: u16 :: u17 :: u18 :: u19 :: u20 :: u21 :: y22 :: y23 :: y24 :: y25 :: y26 :: y27 :: y28 :: y29 :: y30 :: y31 :: y32 :: y33 :: u34 :: [])), []⟩ ∧ e = .normal ∧ (∃ A' c', Mp (cs.setIfInBounds 7 (.slice A' (k + 1) c')) mb w0 w' ∧ OwnS w' w0.heap.size 22 1 (.slice A' (k + 1) c') (xss ++ [[Value.int .u32 (na : Nat)]]) ∧ Rdr w' br bs q f1 v)) ⟨(List.toArray (.pointer (some ⟨mb, 0, none⟩) :: .pointer (some ⟨br, 0, none⟩) :: u2 :: u3 :: u4 :: u5 :: u6 :: u7 :: u8 :: u9 :: u10 :: u11 :: u12 :: u13 :: u14 :: u15 :: u16 :: u17 :: u18 :: u19 :: u20 :: u21 :: u22 :: u23 :: u24 :: u25 :: u26 :: u27 :: u28 :: u29 :: u30 :: u31 :: u32 :: u33 :: u34 :: [])), []⟩ w := by
  conv => arg 2; whnf
  have HCF := Lib.hid hcf
  clear hcf
  have HTK := Lib.hid ht
  have e3 : IntKind.u32.wrap (na : Int) = (na : Int) := by rw [IntKind.wrap_u32]; omega
  clear ht
  refine wp_region_posts tr4_A [6, 8, 9, 12] [6, 8, 9, 12, 13, 14] tr4_kill tr4_uses [12] [12] [] [13, 14]
      (some ?v0 :: some ?v1 :: some ?v2 :: some ?v3 :: some ?v4 :: some ?v5 :: some (.int .u64 (na : Nat)) :: some ?v7 :: none :: none :: some ?v10 :: some ?v11 :: none :: [])
      ?T (fun wx => Mp cs mb w0 wx) ?W ?E (by kernel_rfl) (by kernel_rfl) (by kernel_rfl) (fun x => ?hT) ?hF ?hini (Reg.all_ops ?runs) ?pres ?fin
  case W => exact fun j x w' => match j with | 6 => Rdr w' br bs q f1 v | 8 => ∃ g, x 8 = .slice (some ⟨g, 0, none⟩) 1 1 ∧ Is w' g 22 [Value.int .u32 (na : Nat)].toArray | 9 => ∃ A' c', x 9 = .slice A' (k + 1) c' ∧ OwnS w' w0.heap.size 22 1 (.slice A' (k + 1) c') (xss ++ [[Value.int .u32 (na : Nat)]]) | 12 => ∃ A' c', Mp (cs.setIfInBounds 7 (.slice A' (k + 1) c')) mb w0 w' ∧ OwnS w' w0.heap.size 22 1 (.slice A' (k + 1) c') (xss ++ [[Value.int .u32 (na : Nat)]]) ∧ Rdr w' br bs q f1 v | 13 => Rdr w' br bs p f v | 14 => OwnS w' w0.heap.size 22 1 (.slice Ao k c) xss | _ => True
  case E => exact fun i wx wy => match i with | 6 => Only (fun k => k = br) wx wy ∧ ∃ ds, Is wx br 127 ds | 8 => Only (fun _ => False) wx wy | 9 => ∃ S, Only S wx wy ∧ ¬ S br ∧ ∀ k, v.ownBlock = some k → ¬ S k | _ => True
  case hT =>
    simp only [Reg.fillV, Act.put, List.setIfInBounds_toArray, List.set_cons_zero, List.set_cons_succ]
    rfl
  case runs =>
    refine And.intro ?_ ?_
    · refine Reg.ob_pure (fun _ => rfl) rfl rfl rfl rfl (fun x w1 hF => ?_)
      have cf : w1.cell? ⟨mb, 7, none⟩ = some (.slice Ao k c) := (hF.io.cell 7).trans HCF.out
      go_simp
      with_reducible rfl
    refine And.intro ?_ ?_
    · refine Reg.ob_pure (fun _ => rfl) rfl rfl rfl rfl (fun x w1 hF => ?_)
      have cf : w1.cell? ⟨mb, 7, none⟩ = some (.slice Ao k c) := (hF.io.cell 7).trans HCF.out
      go_simp
      with_reducible rfl
    refine And.intro ?_ ?_
    · refine Reg.ob_pure (fun _ => rfl) rfl rfl rfl rfl (fun x w1 hF => ?_)
      have cf : w1.cell? ⟨mb, 7, none⟩ = some (.slice Ao k c) := (hF.io.cell 7).trans HCF.out
      go_simp
      with_reducible rfl
    refine And.intro ?_ ?_
    · refine Reg.ob_pure (fun _ => rfl) rfl rfl rfl rfl (fun x w1 hF => ?_)
      have cf : w1.cell? ⟨mb, 7, none⟩ = some (.slice Ao k c) := (hF.io.cell 7).trans HCF.out
      go_simp
      with_reducible rfl
    refine And.intro ?_ ?_
    · refine Reg.ob_pure (fun _ => rfl) rfl rfl rfl rfl (fun x w1 hF => ?_)
      have cf : w1.cell? ⟨mb, 7, none⟩ = some (.slice Ao k c) := (hF.io.cell 7).trans HCF.out
      go_simp
      with_reducible rfl
    refine And.intro ?_ ?_
    · refine Reg.ob_pure (fun _ => rfl) rfl rfl rfl rfl (fun x w1 hF => ?_)
      have cf : w1.cell? ⟨mb, 7, none⟩ = some (.slice Ao k c) := (hF.io.cell 7).trans HCF.out
      go_simp
      with_reducible rfl
    refine And.intro ?_ ?_
    · refine Reg.ob_told (fun _ => rfl) rfl (fun x w1 hF hU K hK => ?_)
      replace hF := hF rfl
      obtain ⟨hR, -⟩ := hU
      have hR : Rdr w1 br bs p f v := hR
      have HT := HTK.out w1 hR
      go_simp
      refine HT.mono ?_
      rintro e w5 ⟨rfl, hR2, ho⟩
      exact hK w5 (fun _ _ _ => hF.took hbr hR ho) ⟨ho, _, hR.is⟩ hR2
    refine And.intro ?_ ?_
    · refine Reg.ob_pure (fun _ => rfl) rfl rfl rfl rfl (fun x w1 hF => ?_)
      have cf : w1.cell? ⟨mb, 7, none⟩ = some (.slice Ao k c) := (hF.io.cell 7).trans HCF.out
      go_simp
      with_reducible rfl
    refine And.intro ?_ ?_
    · refine Reg.ob_some (fun _ => rfl) rfl (fun x w1 hF hU K hK => ?_)
      replace hF := hF rfl
      go_simp
      exact hK _ _ (fun _ _ _ => hF.go ((Only.refl _ _).alloc _)) ((Only.refl _ _).alloc _) ⟨_, rfl, Is.made _ _ _⟩
    refine And.intro ?_ ?_
    · refine Reg.ob_some (fun _ => rfl) rfl (fun x w1 hF hU K hK => ?_)
      replace hF := hF rfl
      obtain ⟨⟨g, hx, hI⟩, hO, hR, -⟩ := hU
      have hx : x 8 = .slice (some ⟨g, 0, none⟩) 1 1 := hx
      have hO : OwnS w1 w0.heap.size 22 1 (.slice Ao k c) xss := hO
      have hR : Rdr w1 br bs q f1 v := hR
      refine append_run w1 _ _ sty_u32 rfl w0.heap.size (.slice Ao k c) xss rfl hO g [Value.int .u32 (na : Nat)] (by simpa [Act.eval] using hx) hI rfl (by simp [Value.oneCell']) (by omega) (by decide) hF.pure.size ?_
      intro v' w' hown ho
      obtain ⟨A', c', rfl, -⟩ := OwnS.slice hown
      have e : (xss ++ [[Value.int .u32 (na : Nat)]]).length = k + 1 := by rw [List.length_append, hl]; rfl
      rw [e] at hown
      rw [e]
      exact hK _ w' (fun _ _ _ => hF.far hO.1 (by decide) ho) ⟨_, ho, owned_off hO.1 hR.is (by decide), fun k' hk' e' => owned_apart hO.1 hR.row (by decide) k' e' hk'⟩ ⟨A', c', rfl, hown⟩
    refine And.intro ?_ ?_
    · refine Reg.ob_pure (fun _ => rfl) rfl rfl rfl rfl (fun x w1 hF => ?_)
      have cf : w1.cell? ⟨mb, 7, none⟩ = some (.slice Ao k c) := (hF.io.cell 7).trans HCF.out
      go_simp
      with_reducible rfl
    refine And.intro ?_ ?_
    · refine Reg.ob_pure (fun _ => rfl) rfl rfl rfl rfl (fun x w1 hF => ?_)
      have cf : w1.cell? ⟨mb, 7, none⟩ = some (.slice Ao k c) := (hF.io.cell 7).trans HCF.out
      go_simp
      with_reducible rfl
    refine And.intro ?_ ?_
    · refine Reg.ob_some (fun _ => rfl) rfl (fun x w1 hF hU K hK => ?_)
      replace hF := hF rfl
      obtain ⟨⟨A', c', hx, hO⟩, hR, -⟩ := hU
      have hx : x 9 = .slice A' (k + 1) c' := hx
      have hR : Rdr w1 br bs q f1 v := hR
      have ff := hF.io.free 7
      have cf : w1.cell? ⟨mb, 7, none⟩ = some (.slice Ao k c) := (hF.io.cell 7).trans HCF.out
      revert hK
      simp only [Nat.reduceAdd, hx]
      intro hK
      go_simp
      exact hK undef _ (fun _ h _ => by cases h) trivial ⟨A', c', hF.put hmb 7 _, fx_own hO hF.io (by decide) 7 _, fx_rdr hR hF.io 7 _⟩
    exact trivial
  case hF =>
    exact hG.go ((Only.refl _ _).drewN 1)
  case hini =>
    exact ⟨fun x => hR0.drewN 1, fun x => OwnS.only hown ((Only.refl (fun _ => False) w).drewN 1) (by simp), trivial⟩
  case pres =>
    intro i hi j hj hc x wx wy hF hE hW
    simp only [List.mem_cons, List.mem_nil_iff, or_false] at hi hj
    rcases hi with rfl | rfl | rfl | rfl <;> rcases hj with rfl | rfl | rfl | rfl | rfl | rfl
    all_goals first
      | (exfalso; revert hc; decide)
      | (obtain ⟨h1, ds, h2⟩ := hE; exact OwnS.only hW h1 (fun k hk e => owned_off hW.1 h2 (by decide) (by rw [hk, e])))
      | exact OwnS.only hW hE (by simp)
      | exact Rdr.only hW hE (by simp) (by simp)
      | (obtain ⟨S, h1, h2, h3⟩ := hE; exact Rdr.only hW h1 h2 h3)
  case fin =>
    rintro x w9 hF hU
    obtain ⟨hQ, -⟩ := hU
    repeat apply Exists.intro
    exact ⟨rfl, rfl, hQ⟩

set_option maxRecDepth 100000 in
set_option maxHeartbeats 4000000 in
theorem tr4 (cs : Array Value) (mb br p k c : Nat) (bs : List Nat) (v : Value) (Ao : Option Addr) (xss : List (List Value)) (na q : Nat) (f f1 : Int) (w0 : World) (hcf : cs[7]? = some (.slice Ao k c)) (hl : xss.length = k) (hk : k ≤ 70000) (hmb : w0.heap.size ≤ mb) (hbr : w0.heap.size ≤ br) (ht : ∀ wx, Rdr wx br bs p f v → Calls Try.prog 57 #[.pointer (some ⟨br, 0, none⟩), .int .i64 32] wx (Took wx br bs q f1 v (na : Nat))) (ha : na < 4294967296) (u2 u3 u4 u5 u6 u7 u8 u9 u10 u11 u12 u13 u14 u15 u16 u17 u18 u19 u20 u21 u22 u23 u24 u25 u26 u27 u28 u29 u30 u31 u32 u33 u34 : Value) (Q : Exit → Act → World → Prop) (w : World) (hG : Mp cs mb w0 w) (hR0 : Rdr w br bs p f v) (hown : OwnS w w0.heap.size 22 1 (.slice Ao k c) xss)
    (hend : ∀ (y22 y23 y24 y25 y26 y27 y28 y29 y30 y31 y32 y33 : Value) (w' : World), (∃ A' c', Mp (cs.setIfInBounds 7 (.slice A' (k + 1) c')) mb w0 w' ∧ OwnS w' w0.heap.size 22 1 (.slice A' (k + 1) c') (xss ++ [[Value.int .u32 (na : Nat)]]) ∧ Rdr w' br bs q f1 v) → Q .normal ⟨(List.toArray (.pointer (some ⟨mb, 0, none⟩) :: .pointer (some ⟨br, 0, none⟩) :: u2 :: u3 :: u4 :: u5 :: u6 :: u7 :: u8 :: u9 :: u10 :: u11 :: u12 :: u13 :: u14 :: u15 :: u16 :: u17 :: u18 :: u19 :: u20 :: u21 :: y22 :: y23 :: y24 :: y25 :: y26 :: y27 :: y28 :: y29 :: y30 :: y31 :: y32 :: y33 :: u34 :: [])), []⟩ w') :
    Code.wp Try.prog tr4_code Q ⟨(List.toArray (.pointer (some ⟨mb, 0, none⟩) :: .pointer (some ⟨br, 0, none⟩) :: u2 :: u3 :: u4 :: u5 :: u6 :: u7 :: u8 :: u9 :: u10 :: u11 :: u12 :: u13 :: u14 :: u15 :: u16 :: u17 :: u18 :: u19 :: u20 :: u21 :: u22 :: u23 :: u24 :: u25 :: u26 :: u27 :: u28 :: u29 :: u30 :: u31 :: u32 :: u33 :: u34 :: [])), []⟩ w := by
  refine wp_mono (tr4_in cs mb br p k c bs v Ao xss na q f f1 w0 hcf hl hk hmb hbr ht ha _ _ _ _ _ _ _ _ _ _ _ _ _ _ _ _ _ _ _ _ _ _ _ _ _ _ _ _ _ _ _ _ _ w hG hR0 hown) ?_
  rintro e a w' h
  obtain ⟨y22, h⟩ := h
  obtain ⟨y23, h⟩ := h
  obtain ⟨y24, h⟩ := h
  obtain ⟨y25, h⟩ := h
  obtain ⟨y26, h⟩ := h
  obtain ⟨y27, h⟩ := h
  obtain ⟨y28, h⟩ := h
  obtain ⟨y29, h⟩ := h
  obtain ⟨y30, h⟩ := h
  obtain ⟨y31, h⟩ := h
  obtain ⟨y32, h⟩ := h
  obtain ⟨y33, h⟩ := h
  obtain ⟨h, rfl, hq⟩ := h
  subst h
  exact hend y22 y23 y24 y25 y26 y27 y28 y29 y30 y31 y32 y33 w' hq
end Go.Proofs.Ytefcimkopgcagaa
