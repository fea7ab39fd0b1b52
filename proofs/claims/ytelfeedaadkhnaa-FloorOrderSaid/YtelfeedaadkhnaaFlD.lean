/- floor: grant; end. Conditions: as each says. -/
import Derived.Test.YtelfeedaadkhnaaFlC
import Derived.Test.YtelfeedaadkhnaaFew
set_option linter.unusedVariables false
set_option linter.unusedSimpArgs false
namespace Go.Proofs.Ytelfeedaadkhnaa
open Go Go.RowKit

theorem Try.sizeGr : (Try.prog.info? 48).map (·.size) = some 3 := by kernel_rfl
/-- Amid grant: the floor, the new grant's block. -/
structure Gd (cs : Array Value) (gc : List Value) (b gb : Nat) (vg : Value) (w0 wx : World) : Prop where
  io : Is wx b 66 cs
  ig : Is wx gb 48 gc.toArray
  sz : w0.heap.size ≤ wx.heap.size
  only : Only (fun k => vg.ownBlock = some k) w0 wx
theorem Gd.go {cs : Array Value} {gc : List Value} {b gb : Nat} {vg : Value} {w0 wx wy : World} (h : Gd cs gc b gb vg w0 wx) (ho : Only (fun _ => False) wx wy) : Gd cs gc b gb vg w0 wy :=
  ⟨h.io.only ho (by simp), h.ig.only ho (by simp), Nat.le_trans h.sz ho.size, h.only.trans ho (fun _ _ e => e.elim)⟩
def fg1_A : List (List Nat) := ([] :: [] :: [1] :: [2, 1] :: [3, 2, 1] :: [] :: [5] :: [4, 6, 3, 2, 1, 5] :: (0 :: 1 :: 2 :: 3 :: 4 :: 5 :: 6 :: 7 :: []) :: (8 :: 0 :: 1 :: 2 :: 3 :: 4 :: 5 :: 6 :: 7 :: []) :: (9 :: 7 :: 0 :: 1 :: 2 :: 3 :: 4 :: 5 :: 6 :: 8 :: []) :: [])
def fg1_kill : List (List Nat) := ([] :: [] :: [] :: [] :: [] :: [] :: [] :: [6, 11] :: [] :: [] :: [6, 7, 11] :: [])
def fg1_uses : List (List Nat) := ([] :: [] :: [] :: [] :: [] :: [] :: [] :: [6, 11] :: [] :: [] :: [7] :: [])
noncomputable def fg1_code : Code := ((Try.f49.body.bind (codeRegion 1)).getD .skip)
set_option maxRecDepth 100000 in
set_option maxHeartbeats 4000000 in
theorem fg1_in (cs : Array Value) (g1 g2 g3 : Nat) (b gb k c B : Nat) (Ao : Option Addr) (xss : List (List Value)) (w0 : World) (hcf : cs[9]? = some (.slice Ao k c)) (hl : xss.length = k) (hk : k ≤ 100000) (hB : B ≤ w0.heap.size) (hgb : Value.ownBlock (.slice Ao k c) ≠ some gb)  (u1 u2 u3 u4 u5 u7 u8 u9 u10 u11 u12 u13 u14 u15 u16 u17 u18 u19 u20 u21 u22 u23 u24 u25 u26 u27 u28 u29 u30 u31 u32 : Value) (w : World) (hG : Gd cs [Value.int .u64 (g1 : Nat), Value.int .u32 (g2 : Nat), Value.int .u64 (g3 : Nat)] b gb (.slice Ao k c) w0 w) (hown : OwnS w B 48 3 (.slice Ao k c) xss) :
    Code.wp Try.prog fg1_code (fun e a w' => ∃ y17 y18 y19 y20 y21 y22 y23 y24 y25 y26 : Value, a = ⟨(List.toArray (.pointer (some ⟨b, 0, none⟩) :: u1 :: u2 :: u3 :: u4 :: u5 :: .pointer (some ⟨gb, 0, none⟩) :: u7 :: u8 :: u9 :: u10 :: u11 :: u12 :: u13 :: u14 :: u15 :: u16 :: y17 :: y18 :: y19 :: y20 :: y21 :: y22 :: y23 :: y24 :: y25 :: y26 :: u27 :: u28 :: u29 :: u30 :: u31 :: u32 :: [])), []⟩ ∧ e = .normal ∧ (∃ A' c' w2, w' = w2.setCell ⟨b, 9, none⟩ (.slice A' (k + 1) c') ∧ OwnS w2 B 48 3 (.slice A' (k + 1) c') (xss ++ [[Value.int .u64 (g1 : Nat), Value.int .u32 (g2 : Nat), Value.int .u64 (g3 : Nat)]]) ∧ Gd cs [Value.int .u64 (g1 : Nat), Value.int .u32 (g2 : Nat), Value.int .u64 (g3 : Nat)] b gb (.slice Ao k c) w0 w2 ∧ ∀ k1, Value.ownBlock (.slice A' (k + 1) c') = some k1 → Value.ownBlock (.slice Ao k c) = some k1 ∨ w0.heap.size ≤ k1)) ⟨(List.toArray (.pointer (some ⟨b, 0, none⟩) :: u1 :: u2 :: u3 :: u4 :: u5 :: .pointer (some ⟨gb, 0, none⟩) :: u7 :: u8 :: u9 :: u10 :: u11 :: u12 :: u13 :: u14 :: u15 :: u16 :: u17 :: u18 :: u19 :: u20 :: u21 :: u22 :: u23 :: u24 :: u25 :: u26 :: u27 :: u28 :: u29 :: u30 :: u31 :: u32 :: [])), []⟩ w := by
  conv => arg 2; whnf
  have HCF := Lib.hid hcf
  have hgo := Lib.hid hgb
  clear hcf hgb
  refine wp_region_posts fg1_A [6, 7, 10] [6, 7, 10, 11] fg1_kill fg1_uses [10] [10] [] [11]
      (some ?v0 :: some ?v1 :: some ?v2 :: some ?v3 :: some ?v4 :: some ((.agg [Value.int .u64 (g1 : Nat), Value.int .u32 (g2 : Nat), Value.int .u64 (g3 : Nat)].toArray)) :: none :: none :: some ?v8 :: some ?v9 :: none :: [])
      ?T (fun wx => Gd cs [Value.int .u64 (g1 : Nat), Value.int .u32 (g2 : Nat), Value.int .u64 (g3 : Nat)] b gb (.slice Ao k c) w0 wx) ?W ?E (by kernel_rfl) (by kernel_rfl) (by kernel_rfl) (fun x => ?hT) ?hF ?hini (Reg.all_ops ?runs) ?pres ?fin
  case W => exact fun j x w' => match j with | 6 => ∃ g, x 6 = .slice (some ⟨g, 0, none⟩) 1 1 ∧ Is w' g 48 [Value.int .u64 (g1 : Nat), Value.int .u32 (g2 : Nat), Value.int .u64 (g3 : Nat)].toArray | 7 => ∃ A' c', x 7 = (.slice A' (k + 1) c') ∧ OwnS w' B 48 3 (.slice A' (k + 1) c') (xss ++ [[Value.int .u64 (g1 : Nat), Value.int .u32 (g2 : Nat), Value.int .u64 (g3 : Nat)]]) ∧ Gd cs [Value.int .u64 (g1 : Nat), Value.int .u32 (g2 : Nat), Value.int .u64 (g3 : Nat)] b gb (.slice Ao k c) w0 w' ∧ ∀ k1, Value.ownBlock (.slice A' (k + 1) c') = some k1 → Value.ownBlock (.slice Ao k c) = some k1 ∨ w0.heap.size ≤ k1 | 10 => ∃ A' c' w2, w' = w2.setCell ⟨b, 9, none⟩ (.slice A' (k + 1) c') ∧ OwnS w2 B 48 3 (.slice A' (k + 1) c') (xss ++ [[Value.int .u64 (g1 : Nat), Value.int .u32 (g2 : Nat), Value.int .u64 (g3 : Nat)]]) ∧ Gd cs [Value.int .u64 (g1 : Nat), Value.int .u32 (g2 : Nat), Value.int .u64 (g3 : Nat)] b gb (.slice Ao k c) w0 w2 ∧ ∀ k1, Value.ownBlock (.slice A' (k + 1) c') = some k1 → Value.ownBlock (.slice Ao k c) = some k1 ∨ w0.heap.size ≤ k1 | 11 => OwnS w' B 48 3 (.slice Ao k c) xss | _ => True
  case E => exact fun i w' w'' => match i with | 6 => Only (fun _ => False) w' w'' | _ => True
  case hT =>
    simp only [Reg.fillV, Act.put, List.setIfInBounds_toArray, List.set_cons_zero, List.set_cons_succ]
    rfl
  case runs =>
    refine And.intro ?_ ?_
    · refine Reg.ob_pure (fun _ => rfl) rfl rfl rfl rfl (fun x w1 hF => ?_)
      have cf : w1.cell? ⟨b, 9, none⟩ = some (.slice Ao k c) := (hF.io.cell 9).trans HCF.out
      go_simp
      with_reducible rfl
    refine And.intro ?_ ?_
    · refine Reg.ob_pure (fun _ => rfl) rfl rfl rfl rfl (fun x w1 hF => ?_)
      have cf : w1.cell? ⟨b, 9, none⟩ = some (.slice Ao k c) := (hF.io.cell 9).trans HCF.out
      go_simp
      with_reducible rfl
    refine And.intro ?_ ?_
    · refine Reg.ob_pure (fun _ => rfl) rfl rfl rfl rfl (fun x w1 hF => ?_)
      have cf : w1.cell? ⟨b, 9, none⟩ = some (.slice Ao k c) := (hF.io.cell 9).trans HCF.out
      go_simp
      with_reducible rfl
    refine And.intro ?_ ?_
    · refine Reg.ob_pure (fun _ => rfl) rfl rfl rfl rfl (fun x w1 hF => ?_)
      have cf : w1.cell? ⟨b, 9, none⟩ = some (.slice Ao k c) := (hF.io.cell 9).trans HCF.out
      go_simp
      with_reducible rfl
    refine And.intro ?_ ?_
    · refine Reg.ob_pure (fun _ => rfl) rfl rfl rfl rfl (fun x w1 hF => ?_)
      have cf : w1.cell? ⟨b, 9, none⟩ = some (.slice Ao k c) := (hF.io.cell 9).trans HCF.out
      go_simp
      with_reducible rfl
    refine And.intro ?_ ?_
    · refine Reg.ob_pure (fun _ => rfl) rfl rfl rfl rfl (fun x w1 hF => ?_)
      exact run_load_at 48 _ (by rfl) gb (by rfl) 48 _ _ hF.ig Try.underlying48 rfl Try.sizeGr
    refine And.intro ?_ ?_
    · refine Reg.ob_some (fun _ => rfl) rfl (fun x w1 hF hU K hK => ?_)
      replace hF := hF rfl
      go_simp
      exact hK _ _ (fun _ _ _ => hF.go ((Only.refl _ _).alloc _)) ((Only.refl _ _).alloc _) ⟨_, rfl, Is.made _ _ _⟩
    refine And.intro ?_ ?_
    · refine Reg.ob_some (fun _ => rfl) rfl (fun x w1 hF hU K hK => ?_)
      replace hF := hF rfl
      obtain ⟨⟨g, hx, hI⟩, hO, -⟩ := hU
      have hx : x 6 = .slice (some ⟨g, 0, none⟩) 1 1 := hx
      have hO : OwnS w1 B 48 3 (.slice Ao k c) xss := hO
      refine append_runN w1 _ _ sty_gr rfl B (.slice Ao k c) xss rfl hO g [Value.int .u64 (g1 : Nat), Value.int .u32 (g2 : Nat), Value.int .u64 (g3 : Nat)] (by simpa [Act.eval] using hx) hI rfl (by simp [Value.oneCell']) (by omega) (by decide) (Nat.le_trans hB hF.sz) ?_
      intro v' w' hown ho hn
      obtain ⟨A', c', rfl, -⟩ := OwnS.slice hown
      have e : (xss ++ [[Value.int .u64 (g1 : Nat), Value.int .u32 (g2 : Nat), Value.int .u64 (g3 : Nat)]]).length = k + 1 := by rw [List.length_append, hl]; rfl
      rw [e] at hown hn
      rw [e]
      have hG' : Gd cs [Value.int .u64 (g1 : Nat), Value.int .u32 (g2 : Nat), Value.int .u64 (g3 : Nat)] b gb (.slice Ao k c) w0 w' := ⟨hF.io.only ho (owned_off hO.1 hF.io (by decide)), hF.ig.only ho (hgo.out), Nat.le_trans hF.sz ho.size, hF.only.trans ho (fun _ _ e => e)⟩
      exact hK _ w' (fun _ _ _ => hG') trivial ⟨A', c', rfl, hown, hG', fun k1 h1 => (hn k1 h1).imp id (fun h => Nat.le_trans hF.sz h)⟩
    refine And.intro ?_ ?_
    · refine Reg.ob_pure (fun _ => rfl) rfl rfl rfl rfl (fun x w1 hF => ?_)
      have cf : w1.cell? ⟨b, 9, none⟩ = some (.slice Ao k c) := (hF.io.cell 9).trans HCF.out
      go_simp
      with_reducible rfl
    refine And.intro ?_ ?_
    · refine Reg.ob_pure (fun _ => rfl) rfl rfl rfl rfl (fun x w1 hF => ?_)
      have cf : w1.cell? ⟨b, 9, none⟩ = some (.slice Ao k c) := (hF.io.cell 9).trans HCF.out
      go_simp
      with_reducible rfl
    refine And.intro ?_ ?_
    · refine Reg.ob_some (fun _ => rfl) rfl (fun x w1 hF hU K hK => ?_)
      replace hF := hF rfl
      obtain ⟨⟨A', c', hx, hO, hG', hn⟩, -⟩ := hU
      have hx : x 7 = .slice A' (k + 1) c' := hx
      have ff := hF.io.free 9
      have cf : w1.cell? ⟨b, 9, none⟩ = some (.slice Ao k c) := (hF.io.cell 9).trans HCF.out
      revert hK
      simp only [Nat.reduceAdd, hx]
      intro hK
      go_simp
      exact hK undef _ (fun _ h _ => by cases h) trivial ⟨A', c', _, rfl, hO, hG', hn⟩
    exact trivial
  case hF =>
    exact hG.go ((Only.refl _ _).drewN 1)
  case hini =>
    exact ⟨fun x => OwnS.only hown ((Only.refl (fun _ => False) w).drewN 1) (by simp), trivial⟩
  case pres =>
    intro i hi j hj hc x wx wy hF hE hW
    simp only [List.mem_cons, List.mem_nil_iff, or_false] at hi hj
    rcases hi with rfl | rfl | rfl <;> rcases hj with rfl | rfl | rfl | rfl
    all_goals first
      | (exfalso; revert hc; decide)
      | (obtain ⟨g, h1, h3⟩ := hW; exact ⟨g, h1, h3.only hE (by simp)⟩)
      | exact OwnS.only hW hE (by simp)
  case fin =>
    rintro x w9 hF hU
    obtain ⟨hQ, -⟩ := hU
    repeat apply Exists.intro
    exact ⟨rfl, rfl, hQ⟩

set_option maxRecDepth 100000 in
set_option maxHeartbeats 4000000 in
theorem fg1 (cs : Array Value) (g1 g2 g3 : Nat) (b gb k c B : Nat) (Ao : Option Addr) (xss : List (List Value)) (w0 : World) (hcf : cs[9]? = some (.slice Ao k c)) (hl : xss.length = k) (hk : k ≤ 100000) (hB : B ≤ w0.heap.size) (hgb : Value.ownBlock (.slice Ao k c) ≠ some gb)  (u1 u2 u3 u4 u5 u7 u8 u9 u10 u11 u12 u13 u14 u15 u16 u17 u18 u19 u20 u21 u22 u23 u24 u25 u26 u27 u28 u29 u30 u31 u32 : Value) (Q : Exit → Act → World → Prop) (w : World) (hG : Gd cs [Value.int .u64 (g1 : Nat), Value.int .u32 (g2 : Nat), Value.int .u64 (g3 : Nat)] b gb (.slice Ao k c) w0 w) (hown : OwnS w B 48 3 (.slice Ao k c) xss)
    (hend : ∀ (y17 y18 y19 y20 y21 y22 y23 y24 y25 y26 : Value) (w' : World), (∃ A' c' w2, w' = w2.setCell ⟨b, 9, none⟩ (.slice A' (k + 1) c') ∧ OwnS w2 B 48 3 (.slice A' (k + 1) c') (xss ++ [[Value.int .u64 (g1 : Nat), Value.int .u32 (g2 : Nat), Value.int .u64 (g3 : Nat)]]) ∧ Gd cs [Value.int .u64 (g1 : Nat), Value.int .u32 (g2 : Nat), Value.int .u64 (g3 : Nat)] b gb (.slice Ao k c) w0 w2 ∧ ∀ k1, Value.ownBlock (.slice A' (k + 1) c') = some k1 → Value.ownBlock (.slice Ao k c) = some k1 ∨ w0.heap.size ≤ k1) → Q .normal ⟨(List.toArray (.pointer (some ⟨b, 0, none⟩) :: u1 :: u2 :: u3 :: u4 :: u5 :: .pointer (some ⟨gb, 0, none⟩) :: u7 :: u8 :: u9 :: u10 :: u11 :: u12 :: u13 :: u14 :: u15 :: u16 :: y17 :: y18 :: y19 :: y20 :: y21 :: y22 :: y23 :: y24 :: y25 :: y26 :: u27 :: u28 :: u29 :: u30 :: u31 :: u32 :: [])), []⟩ w') :
    Code.wp Try.prog fg1_code Q ⟨(List.toArray (.pointer (some ⟨b, 0, none⟩) :: u1 :: u2 :: u3 :: u4 :: u5 :: .pointer (some ⟨gb, 0, none⟩) :: u7 :: u8 :: u9 :: u10 :: u11 :: u12 :: u13 :: u14 :: u15 :: u16 :: u17 :: u18 :: u19 :: u20 :: u21 :: u22 :: u23 :: u24 :: u25 :: u26 :: u27 :: u28 :: u29 :: u30 :: u31 :: u32 :: [])), []⟩ w := by
  refine wp_mono (fg1_in cs g1 g2 g3 b gb k c B Ao xss w0 hcf hl hk hB hgb _ _ _ _ _ _ _ _ _ _ _ _ _ _ _ _ _ _ _ _ _ _ _ _ _ _ _ _ _ _ _ w hG hown) ?_
  rintro e a w' h
  obtain ⟨y17, h⟩ := h
  obtain ⟨y18, h⟩ := h
  obtain ⟨y19, h⟩ := h
  obtain ⟨y20, h⟩ := h
  obtain ⟨y21, h⟩ := h
  obtain ⟨y22, h⟩ := h
  obtain ⟨y23, h⟩ := h
  obtain ⟨y24, h⟩ := h
  obtain ⟨y25, h⟩ := h
  obtain ⟨y26, h⟩ := h
  obtain ⟨h, rfl, hq⟩ := h
  subst h
  exact hend y17 y18 y19 y20 y21 y22 y23 y24 y25 y26 w' hq
theorem Try.sizeH : (Try.prog.info? 64).map (·.size) = some 5 := by kernel_rfl
theorem setA_nil (cs : Array Value) (o : Nat) : setA cs o [] = cs := rfl
set_option maxRecDepth 100000 in
set_option maxHeartbeats 2000000 in
theorem grant_is (B b mb n now : Nat) (m : Fl) (vw vg : Value) (w : World) (h : Flr w B b mb m vw vg) (hg : m.gs.length ≤ 10000) :
    Calls Try.prog 49 #[ptr b, .int .u32 (n : Int), .int .u64 (now : Int)] w fun e w' => e = .returned (.tuple #[]) ∧ Turned w w' B b mb vw vg (m.grant n now) := by
  obtain ⟨hm1, hm2, hm3, hm4⟩ := h.mb_ne
  have hM := Lib.hid (And.intro hm1 (And.intro hm2 (And.intro hm3 hm4)))
  have HF := Lib.hid h
  obtain ⟨Ao, c, rfl, hc⟩ := h.gr.slice
  have hlen : (grRows m.gs).length = m.gs.length := by simp [grRows]
  rw [hlen] at hc hM HF ⊢
  obtain ⟨k, hk⟩ : ∃ k, m.gs.length = k := ⟨_, rfl⟩
  have HK := Lib.hid hk
  rw [hk] at hg hc hM HF ⊢
  have c9 : w.cell? ⟨b, 9, none⟩ = some (.slice Ao k c) := HF.out.cell 9
  have hlt := HF.out.lt
  have e1 : IntKind.u64.wrap ((k : Int) + 1) = ((k + 1 : Nat) : Int) := by rw [IntKind.wrap_u64]; omega
  have e2 : IntKind.u64.wrap (k : Int) = (k : Int) := by rw [IntKind.wrap_u64]; omega
  clear h hm1 hm2 hm3 hm4 hlen hk
  go_enter Try.func49, Try.ntmps49
  go_upto_region 1 with (fail)
  rw [show (k : Int) + 1 = ((k + 1 : Nat) : Int) from rfl]
  obtain ⟨W, hW⟩ : ∃ W, W = w.alloc (.cells #[.int .u64 ((k + 1 : Nat) : Int), .int .u32 (n : Int), .int .u64 (now : Int)] 48) := ⟨_, rfl⟩
  have ho : Only (fun _ => False) w W := by rw [hW]; exact (Only.refl _ w).alloc _
  have HW := Lib.hid (HF.out.pure ho)
  have hgi : Is W w.heap.size 48 #[.int .u64 ((k + 1 : Nat) : Int), .int .u32 (n : Int), .int .u64 (now : Int)] := by rw [hW]; exact Is.made w _ _
  have HO := Lib.hid ho
  have hsz : W.heap.size = w.heap.size + 1 := by rw [hW]; simp
  rw [← hW]
  clear hW ho c9 e1 e2
  have hgb : Value.ownBlock (.slice Ao k c) ≠ some w.heap.size := fun e => by
    have := (HF.out.gr.lt _ e).2
    omega
  have hgl : (grRows m.gs).length = k := by rw [← HK.out]; simp [grRows]
  refine fg1 (flCells m mb vw (.slice Ao k c)) (k + 1) n now b w.heap.size k c B Ao (grRows m.gs) W rfl hgl (by omega) (by have := HF.out.lo.1; omega) hgb _ _ _ _ _ _ _ _ _ _ _ _ _ _ _ _ _ _ _ _ _ _ _ _ _ _ _ _ _ _ _ _ W ⟨HW.out.is, hgi, Nat.le_refl _, Only.refl _ _⟩ HW.out.gr ?_
  rintro y17 y18 y19 y20 y21 y22 y23 y24 y25 y26 w' ⟨A', c', w2, rfl, hown, hG, hn⟩
  have hS : Only (fun k => k = b) w2 (w2.setCell ⟨b, 9, none⟩ (.slice A' (k + 1) c')) := Only.set (S := fun k => k = b) (p := ⟨b, 9, none⟩) (Only.refl _ w2) (fun _ => rfl) _
  have hne : Value.ownBlock (.slice A' (k + 1) c') ≠ some b := owned_off hown.1 hG.io (by decide)
  have HI := Lib.hid (hG.io.put 9 (.slice A' (k + 1) c'))
  have HG := Lib.hid (hG.ig.only hS (by omega))
  have HR := Lib.hid (OwnS.only hown hS (fun j hj e => hne (by rw [hj, e])))
  have hO2 : Only (fun j => j = b ∨ Value.ownBlock (.slice Ao k c) = some j) w (w2.setCell ⟨b, 9, none⟩ (.slice A' (k + 1) c')) :=
    ((HO.out.mono (fun _ _ e => e.elim)).trans hG.only (fun _ _ e => .inr e)).trans hS (fun _ _ e => .inl e)
  have HO2 := Lib.hid hO2
  clear hO2
  have HN := Lib.hid hn
  generalize w2.setCell ⟨b, 9, none⟩ (.slice A' (k + 1) c') = W9 at *
  clear hS hne hG hown hn hgi
  have hth := Lib.hid (show W9.there b 3 5 from fun j hj => by
    refine ⟨?_, HI.out.free _⟩
    rw [HI.out.cell, Array.getElem?_eq_getElem (by simp [flCells]; omega)]
    rfl)
  go_wp2_with (first
    | (refine wpList_load_row (o := ⟨some 28, _, _, _, _, _⟩) rfl _ _ rfl w.heap.size rfl _ _ _ _ HG.out Try.underlying48 rfl Try.sizeGr ?_)
    | (refine wpList_store_midw rfl 64 _ _ rfl b 3 #[.int .u64 ((k + 1 : Nat) : Int), .int .u32 (n : Int), .int .u64 (now : Int), .int .u64 (now : Int), .bool true] rfl rfl hth.out Try.sizeH (by simp [Value.oneCell']) ?_; intro w' hw'; replace hw' := Lib.hid hw'))
  go_end0
  have hG2 := HF.out
  have hI2 := Is.many [.int .u64 ((k + 1 : Nat) : Int), .int .u32 (n : Int), .int .u64 (now : Int), .int .u64 (now : Int), .bool true] 3 _ _ _ HI.out
  have hO3 : Only (fun k => k = b) W9 w' := by rw [hw'.out]; exact Only.many _ _ _ (Only.refl _ W9) (fun _ => rfl)
  have hO4 : Only (fun j => j = b ∨ Value.ownBlock (.slice Ao k c) = some j) w w' := HO2.out.trans hO3 (fun _ _ e => .inl e)
  have hne : ∀ j, Value.ownBlock (.slice A' (k + 1) c') = some j → ¬ j = b := fun j hj e => owned_off HR.out.1 HI.out (by decide) (by rw [hj, e])
  refine ⟨rfl, vw, .slice A' (k + 1) c', ⟨?_, hG2.mp.only hO4 (fun e => ?_), OwnS.only hG2.wr hO4 (fun j hj e => ?_), ?_, hG2.lo⟩, hO4.mono (fun j _ e => ?_), fun j hj => ?_⟩
  · rw [hw'.out]
    have e : flCells (m.grant n now) mb vw (.slice A' (k + 1) c') = setA ((flCells m mb vw (.slice Ao k c)).setIfInBounds 9 (.slice A' (k + 1) c')) 3 [.int .u64 ((k + 1 : Nat) : Int), .int .u32 (n : Int), .int .u64 (now : Int), .int .u64 (now : Int), .bool true] := by
      simp [flCells, Fl.grant, setA, HK.out]
    rw [e]
    exact hI2
  · rcases e with e | e
    · exact hM.out.1 e
    · exact (hM.out.2.2.1 mb e).1 rfl
  · rcases e with e | e
    · exact (hM.out.2.1 j hj).2 e
    · exact hM.out.2.2.2 j hj e
  · have := OwnS.only HR.out hO3 hne
    have e : grRows (m.grant n now).gs = grRows m.gs ++ [[.int .u64 ((k + 1 : Nat) : Int), .int .u32 (n : Int), .int .u64 (now : Int)]] := by simp [grRows, Fl.grant, grCells, HK.out]
    rw [e]
    exact this
  · rcases e with e | e
    · exact .inl e
    · exact .inr (.inr (.inr e))
  · rcases hj with rfl | rfl | hj | hj
    · exact .inl (.inl rfl)
    · exact .inl (.inr (.inl rfl))
    · exact .inl (.inr (.inr (.inl hj)))
    · rcases HN.out j hj with h | h
      · exact .inl (.inr (.inr (.inr h)))
      · exact .inr (by omega)
end Go.Proofs.Ytelfeedaadkhnaa
