/- feedback.Parse: a sort's parts, taken; two of its regions. Conditions: as each says. -/
import Derived.Test.YtefcimkopgcagaaFdC
import Derived.Test.YtefcimkopgcagaaFcW
import Derived.Test.YtefcimkopgcagaaFbN
set_option linter.unusedVariables false
set_option linter.unusedSimpArgs false
namespace Go.Proofs.Ytefcimkopgcagaa
open Go.RowKit

/-- A message whose parts are taken from a reader that stands at st; where the reader stands then. -/
def tkMs (m : Ms) (bs : List Nat) (st : Nat × Int) : Ms × Nat × Int :=
  if m.sort = 1 then ({ m with pairs := (List.range ((8 * bs.length - st.1) / 32)).map (prAt bs st.1) }, st.1 + 32 * ((8 * bs.length - st.1) / 32), st.2)
  else if m.sort = 3 then ({ m with orders := (List.range ((8 * bs.length - st.1) / 64)).map (odAt bs st.1) }, st.1 + 64 * ((8 * bs.length - st.1) / 64), st.2)
  else if m.sort = 4 then ({ m with exp := (tk bs 6 (tk bs 8 st).2).1, mant := (tk bs 18 (tk bs 6 (tk bs 8 st).2).2).1, srcs := (tkS bs (tk bs 8 st).1 (tk bs 18 (tk bs 6 (tk bs 8 st).2).2).2).1 }, (tkS bs (tk bs 8 st).1 (tk bs 18 (tk bs 6 (tk bs 8 st).2).2).2).2)
  else (m, st)
/-- A message's rows are owned. -/
def OwnM (B : Nat) (m : Ms) (vp vo vs : Value) (w : World) : Prop :=
  OwnS w B 82 2 vp (m.pairs.map Pr.lst) ∧ OwnS w B 85 2 vo (m.orders.map Od.lst) ∧ OwnS w B 22 1 vs (m.srcs.map fun x => [Value.int .u32 (x : Nat)])
theorem own_rdo {w : World} {B : Nat} {T : TypeId} {v : Value} {l : List Od} (h : OwnS w B T 2 v (l.map Od.lst)) : RdO w v l := by
  obtain ⟨A, c, rfl, hc⟩ := OwnS.slice h
  rw [List.length_map] at hc
  refine ⟨A, c, by rw [List.length_map], hc, fun hp => ?_⟩
  obtain ⟨g, c', e, -, -, -, hcell⟩ := OwnS.at_ h (by simpa using hp)
  injection e with e1
  subst e1
  refine ⟨g, 0, rfl, fun i p hi => ?_⟩
  have h0 := hcell i 0 p.lst (by simp [hi]) (by omega)
  have h1 := hcell i 1 p.lst (by simp [hi]) (by omega)
  refine ⟨?_, ?_⟩
  · rw [Nat.zero_add]; exact h0
  · rw [Nat.zero_add]; exact h1
theorem OwnM.rd {B : Nat} {m : Ms} {vp vo vs : Value} {w : World} (h : OwnM B m vp vo vs w) : RdM m vp vo vs w := ⟨OwnP.rd h.1, own_rdo h.2.1, own32s_rd h.2.2⟩
theorem OwnM.only {B : Nat} {m : Ms} {vp vo vs : Value} {w w1 : World} (h : OwnM B m vp vo vs w) (ho : Only (fun _ => False) w w1) : OwnM B m vp vo vs w1 := ⟨OwnS.only h.1 ho (by simp), OwnS.only h.2.1 ho (by simp), OwnS.only h.2.2 ho (by simp)⟩
theorem OwnM.far {B ob : Nat} {m : Ms} {vp vo vs : Value} {w w1 : World} {T : TypeId} {cs : Array Value} (h : OwnM B m vp vo vs w) (hI : Is w ob T cs) (h1 : 82 ≠ T) (h2 : 85 ≠ T) (h3 : 22 ≠ T) (ho : Only (fun k => k = ob) w w1) : OwnM B m vp vo vs w1 :=
  ⟨OwnS.only h.1 ho (fun k hk e => owned_off h.1.1 hI h1 (by rw [hk, e])), OwnS.only h.2.1 ho (fun k hk e => owned_off h.2.1.1 hI h2 (by rw [hk, e])), OwnS.only h.2.2 ho (fun k hk e => owned_off h.2.2.1 hI h3 (by rw [hk, e]))⟩
theorem OwnM.nil (w : World) (B : Nat) (m : Ms) (h1 : m.pairs = []) (h2 : m.orders = []) (h3 : m.srcs = []) : OwnM B m (.slice none 0 0) (.slice none 0 0) (.slice none 0 0) w := by
  unfold OwnM
  rw [h1, h2, h3]
  exact ⟨OwnS.nil _ _ _ _, OwnS.nil _ _ _ _, OwnS.nil _ _ _ _⟩
theorem OwnM.low {B B' : Nat} {m : Ms} {vp vo vs : Value} {w : World} (h : OwnM B m vp vo vs w) (hB : B' ≤ B) : OwnM B' m vp vo vs w := ⟨⟨owned_low h.1.1 hB, h.1.2⟩, ⟨owned_low h.2.1.1 hB, h.2.1.2⟩, ⟨owned_low h.2.2.1 hB, h.2.2.2⟩⟩
def msB (s a b : Nat) : Ms := ⟨s, a, b, [], [], 0, 0, []⟩
/-- A sort's parts are taken: the contract of its function. -/
def Takes (fn : Nat) (m : Ms) (bs : List Nat) (st : Nat × Int) : Prop := ∀ (v : Value) (mb br : Nat) (w0 w : World), Mp (m.cls (.slice none 0 0) (.slice none 0 0) (.slice none 0 0)) mb w0 w → Rdr w br bs st.1 st.2 v → w0.heap.size ≤ mb → w0.heap.size ≤ br →
  Calls Try.prog fn #[.pointer (some ⟨mb, 0, none⟩), .pointer (some ⟨br, 0, none⟩)] w fun e w' => e = .returned (.tuple #[]) ∧ ∃ vp vo vs, Mp ((tkMs m bs st).1.cls vp vo vs) mb w0 w' ∧ OwnM w0.heap.size (tkMs m bs st).1 vp vo vs w' ∧ Rdr w' br bs (tkMs m bs st).2.1 (tkMs m bs st).2.2 v
theorem takes_1 (a b : Nat) (bs : List Nat) (st : Nat × Int) (hl : bs.length ≤ 10000) (hf : st.2 = 0 ∨ (8 * bs.length - st.1) / 32 = 0) : Takes 70 (msB 1 a b) bs st := by
  intro v mb br w0 w hM hR h1 h2
  refine (takepairs_is _ mb br st.1 _ bs st.2 v w0 w rfl hl h1 h2 hM hR rfl hf).mono ?_
  rintro e w' ⟨rfl, A, c, h3, h4, h5⟩
  refine ⟨rfl, _, .slice none 0 0, .slice none 0 0, h3, ⟨h4, OwnS.nil _ _ _ _, OwnS.nil _ _ _ _⟩, h5⟩
theorem takes_3 (a b : Nat) (bs : List Nat) (st : Nat × Int) (hl : bs.length ≤ 10000) (hf : st.2 = 0 ∨ (8 * bs.length - st.1) / 64 = 0) : Takes 74 (msB 3 a b) bs st := by
  intro v mb br w0 w hM hR h1 h2
  refine (takeorders_is _ mb br st.1 _ bs st.2 v w0 w rfl hl h1 h2 hM hR rfl hf).mono ?_
  rintro e w' ⟨rfl, A, c, h3, h4, h5⟩
  refine ⟨rfl, .slice none 0 0, _, .slice none 0 0, h3, ⟨OwnS.nil _ _ _ _, h4, OwnS.nil _ _ _ _⟩, h5⟩
theorem takes_4 (a b : Nat) (bs : List Nat) (st : Nat × Int) : Takes 76 (msB 4 a b) bs st := by
  intro v mb br w0 w hM hR h1 h2
  refine (takerate_is _ mb br st.1 (tk bs 8 st).1 (tk bs 6 (tk bs 8 st).2).1 (tk bs 18 (tk bs 6 (tk bs 8 st).2).2).1 (tk bs 8 st).2 (tk bs 6 (tk bs 8 st).2).2 (tk bs 18 (tk bs 6 (tk bs 8 st).2).2).2 bs st.2 v w0 w rfl rfl rfl h1 h2 hM hR rfl rfl rfl).mono ?_
  rintro e w' ⟨rfl, A, c, h3, h4, h5⟩
  exact ⟨rfl, .slice none 0 0, .slice none 0 0, _, h3, ⟨OwnS.nil _ _ _ _, OwnS.nil _ _ _ _, h4⟩, h5⟩
theorem nothing_is (p q : Value) (w : World) : Calls Try.prog 72 #[p, q] w fun e w' => e = .returned (.tuple #[]) ∧ w = w' := by
  go_enter Try.func72, Try.ntmps72
  go_wp2
  go_end0
  exact ⟨rfl, rfl⟩
theorem takes_2 (a b : Nat) (bs : List Nat) (st : Nat × Int) : Takes 72 (msB 2 a b) bs st := by
  intro v mb br w0 w hM hR h1 h2
  refine (nothing_is _ _ w).mono ?_
  rintro e w' ⟨rfl, rfl⟩
  exact ⟨rfl, .slice none 0 0, .slice none 0 0, .slice none 0 0, hM, OwnM.nil _ _ _ rfl rfl rfl, hR⟩
theorem ftake_1 : ∀ (args : Array Value) (w : World), (callFunc 70 args).run Try.prog w = .ok (.enter 70 args) w := fun _ _ => by kernel_rfl
theorem ftake_2 : ∀ (args : Array Value) (w : World), (callFunc 72 args).run Try.prog w = .ok (.enter 72 args) w := fun _ _ => by kernel_rfl
theorem ftake_3 : ∀ (args : Array Value) (w : World), (callFunc 74 args).run Try.prog w = .ok (.enter 74 args) w := fun _ _ => by kernel_rfl
theorem ftake_4 : ∀ (args : Array Value) (w : World), (callFunc 76 args).run Try.prog w = .ok (.enter 76 args) w := fun _ _ => by kernel_rfl
theorem isnt {T U : TypeId} {w : World} {a b : Nat} {x y : Array Value} (h : Is w a T x) (k : Is w b U y) (hne : T ≠ U) {S : World} (ho : Only (fun j => j = b) w S) : Is S a T x := h.only ho (fun e => Is.apart h k hne e)
abbrev BR (br : Nat) (bs : List Nat) (v : Value) (s : Nat × Int) (w : World) : Prop := Rdr w br bs s.1 s.2 v
def fp5_A : List (List Nat) := ([] :: [] :: [1] :: [2, 1] :: [] :: [4, 2, 1] :: [5, 4, 2, 1] :: [0, 3, 6, 2, 1, 5, 4] :: [] :: (8 :: 7 :: 5 :: 0 :: 1 :: 2 :: 3 :: 4 :: 6 :: []) :: [])
def fp5_kill : List (List Nat) := ([] :: [] :: [10] :: [] :: [] :: [2, 10] :: [] :: [] :: [] :: [2, 5, 8, 10] :: [])
def fp5_uses : List (List Nat) := ([] :: [] :: [10] :: [] :: [] :: [2] :: [] :: [] :: [] :: [8, 5] :: [])
noncomputable def fp5_code : Code := ((Try.f23.body.bind (codeRegion 5)).getD .skip)
set_option maxRecDepth 100000 in
set_option maxHeartbeats 4000000 in
theorem fp5_in (s x1 x2 br : Nat) (bs : List Nat) (v : Value) (a1 a2 : Nat × Int) (h1 : x1 < 4294967296) (h2 : x2 < 4294967296) (t1 : ∀ wx, BR br bs v (0, 0) wx → Calls Try.prog 57 #[.pointer (some ⟨br, 0, none⟩), .int .i64 32] wx (Took wx br bs a1.1 a1.2 v (x1 : Nat))) (t2 : ∀ wx, BR br bs v a1 wx → Calls Try.prog 57 #[.pointer (some ⟨br, 0, none⟩), .int .i64 32] wx (Took wx br bs a2.1 a2.2 v (x2 : Nat))) (u0 u1 u2 u3 u5 u7 u8 u9 u10 u11 u12 u13 u14 u15 u16 u17 u18 u19 u20 u21 u22 u23 u24 u25 u26 u27 u28 u29 u30 u31 u32 u33 u34 u35 u36 u37 u38 u39 u40 u41 u42 u43 u44 u45 u46 u47 u48 u49 u50 u51 u52 u53 u54 u55 u56 u57 u58 u59 u60 u61 u62 : Value) (w : World) (hR0 : BR br bs v (0, 0) w) :
    Code.wp Try.prog fp5_code (fun e a w' => ∃ y7 y23 y24 y25 y26 y27 y28 y29 y30 : Value, a = ⟨(List.toArray (u0 :: u1 :: u2 :: u3 :: .int .u8 (s : Nat) :: u5 :: .pointer (some ⟨br, 0, none⟩) :: y7 :: u8 :: u9 :: u10 :: u11 :: u12 :: u13 :: u14 :: u15 :: u16 :: u17 :: u18 :: u19 :: u20 :: u21 :: u22 :: y23 :: y24 :: y25 :: y26 :: y27 :: y28 :: y29 :: y30 :: u31 :: u32 :: u33 :: u34 :: u35 :: u36 :: u37 :: u38 :: u39 :: u40 :: u41 :: u42 :: u43 :: u44 :: u45 :: u46 :: u47 :: u48 :: u49 :: u50 :: u51 :: u52 :: u53 :: u54 :: u55 :: u56 :: u57 :: u58 :: u59 :: u60 :: u61 :: u62 :: [])), []⟩ ∧ e = .normal ∧ (∃ mb, y7 = .pointer (some ⟨mb, 0, none⟩) ∧ w.heap.size ≤ mb ∧ Is w' mb 27 ((msB s x1 x2).cls (.slice none 0 0) (.slice none 0 0) (.slice none 0 0)) ∧ BR br bs v a2 w' ∧ Only (fun k => k = br) w w')) ⟨(List.toArray (u0 :: u1 :: u2 :: u3 :: .int .u8 (s : Nat) :: u5 :: .pointer (some ⟨br, 0, none⟩) :: u7 :: u8 :: u9 :: u10 :: u11 :: u12 :: u13 :: u14 :: u15 :: u16 :: u17 :: u18 :: u19 :: u20 :: u21 :: u22 :: u23 :: u24 :: u25 :: u26 :: u27 :: u28 :: u29 :: u30 :: u31 :: u32 :: u33 :: u34 :: u35 :: u36 :: u37 :: u38 :: u39 :: u40 :: u41 :: u42 :: u43 :: u44 :: u45 :: u46 :: u47 :: u48 :: u49 :: u50 :: u51 :: u52 :: u53 :: u54 :: u55 :: u56 :: u57 :: u58 :: u59 :: u60 :: u61 :: u62 :: [])), []⟩ w := by
  conv => arg 2; whnf
  have T1 := Lib.hid t1
  have T2 := Lib.hid t2
  have e3 : IntKind.u32.wrap (x1 : Int) = (x1 : Int) := by rw [IntKind.wrap_u32]; omega
  have e4 : IntKind.u32.wrap (x2 : Int) = (x2 : Int) := by rw [IntKind.wrap_u32]; omega
  clear t1 t2 h1 h2
  refine wp_region_text fp5_A [2, 5, 8, 9] [2, 5, 8, 9, 10] fp5_kill fp5_uses [9] [] [] [10]
      (some ?v0 :: some ?v1 :: some (.int .u64 (x1 : Nat)) :: some ?v3 :: some ?v4 :: some (.int .u64 (x2 : Nat)) :: some ?v6 :: some ?v7 :: none :: none :: [])
      ?T (fun wx => Only (fun k => k = br) w wx) ?W ?E (by kernel_rfl) (by kernel_rfl) (by kernel_rfl) (fun x => ?hT) ?hF ?hini (Reg.all_ops ?runs) ?pres ?fin
  case W => exact fun j x w' => match j with | 2 => BR br bs v a1 w' | 5 => BR br bs v a2 w' | 8 => ∃ mb, x 8 = .pointer (some ⟨mb, 0, none⟩) ∧ w.heap.size ≤ mb ∧ Is w' mb 27 ((msB 0 0 0).cls (.slice none 0 0) (.slice none 0 0) (.slice none 0 0)) | 9 => ∃ mb, x 8 = .pointer (some ⟨mb, 0, none⟩) ∧ w.heap.size ≤ mb ∧ Is w' mb 27 ((msB s x1 x2).cls (.slice none 0 0) (.slice none 0 0) (.slice none 0 0)) ∧ BR br bs v a2 w' | 10 => BR br bs v (0, 0) w' | _ => True
  case E => exact fun i wx wy => match i with | 8 => Only (fun _ => False) wx wy | 9 => True | _ => Only (fun k => k = br) wx wy ∧ ∃ ds, Is wx br 127 ds
  case hT =>
    simp only [Reg.fillV, Act.put, List.setIfInBounds_toArray, List.set_cons_zero, List.set_cons_succ]
    rfl
  case runs =>
    refine And.intro ?_ ?_
    · refine Reg.ob_pure (fun _ => rfl) rfl rfl rfl rfl (fun x w1 hF => ?_)
      go_simp
      with_reducible rfl
    refine And.intro ?_ ?_
    · refine Reg.ob_pure (fun _ => rfl) rfl rfl rfl rfl (fun x w1 hF => ?_)
      go_simp
      with_reducible rfl
    refine And.intro ?_ ?_
    · refine Reg.ob_told (fun _ => rfl) rfl (fun x w1 hF hU K hK => ?_)
      replace hF := hF rfl
      obtain ⟨hR, -⟩ := hU
      have hR : BR br bs v (0, 0) w1 := hR
      have HT := T1.out w1 hR
      go_simp
      refine HT.mono ?_
      rintro e w5 ⟨rfl, hR2, ho⟩
      exact hK w5 (fun _ _ _ => hF.trans ho (fun _ _ e => e)) ⟨ho, _, hR.is⟩ hR2
    refine And.intro ?_ ?_
    · refine Reg.ob_pure (fun _ => rfl) rfl rfl rfl rfl (fun x w1 hF => ?_)
      go_simp
      with_reducible rfl
    refine And.intro ?_ ?_
    · refine Reg.ob_pure (fun _ => rfl) rfl rfl rfl rfl (fun x w1 hF => ?_)
      go_simp
      with_reducible rfl
    refine And.intro ?_ ?_
    · refine Reg.ob_told (fun _ => rfl) rfl (fun x w1 hF hU K hK => ?_)
      replace hF := hF rfl
      obtain ⟨hR, -⟩ := hU
      have hR : BR br bs v a1 w1 := hR
      have HT := T2.out w1 hR
      go_simp
      refine HT.mono ?_
      rintro e w5 ⟨rfl, hR2, ho⟩
      exact hK w5 (fun _ _ _ => hF.trans ho (fun _ _ e => e)) ⟨ho, _, hR.is⟩ hR2
    refine And.intro ?_ ?_
    · refine Reg.ob_pure (fun _ => rfl) rfl rfl rfl rfl (fun x w1 hF => ?_)
      go_simp
      with_reducible rfl
    refine And.intro ?_ ?_
    · refine Reg.ob_pure (fun _ => rfl) rfl rfl rfl rfl (fun x w1 hF => ?_)
      go_simp
      with_reducible rfl
    refine And.intro ?_ ?_
    · refine Reg.ob_some (fun _ => rfl) rfl (fun x w1 hF hU K hK => ?_)
      replace hF := hF rfl
      go_simp
      exact hK _ _ (fun _ _ _ => hF.alloc _) ((Only.refl _ _).alloc _) ⟨_, rfl, hF.size, Is.made _ _ _⟩
    refine And.intro ?_ ?_
    · refine Reg.ob_some (fun _ => rfl) rfl (fun x w1 hF hU K hK => ?_)
      replace hF := hF rfl
      obtain ⟨⟨mb, h8, hge, hI⟩, hR, -⟩ := hU
      have h8 : x 8 = .pointer (some ⟨mb, 0, none⟩) := h8
      have hR : BR br bs v a2 w1 := hR
      revert hK
      simp only [Nat.reduceAdd, h8]
      intro hK
      refine wp_store_row 27 _ _ rfl mb ((msB s x1 x2).cls (.slice none 0 0) (.slice none 0 0) (.slice none 0 0)) rfl rfl 27 _ hI Try.sizeMe rfl (by simp [Ms.cls, msB, Value.oneCell']) ?_
      have ho : Only (fun k => k = mb) w1 (w1.setRow mb ((msB s x1 x2).cls (.slice none 0 0) (.slice none 0 0) (.slice none 0 0))) := Only.setRow (S := fun k => k = mb) (Only.refl _ w1) (fun _ => rfl) _
      exact hK undef _ (fun _ _ _ => hF.trans ho (fun i hi e => by omega)) trivial ⟨mb, h8, hge, Is.setRow hI _, Rdr.only hR ho (fun e => Is.apart hI hR.is (by decide) e.symm) (fun k hk e => owned_off hR.row hI (by decide) (by rw [hk, e]))⟩
    exact trivial
  case hF =>
    exact Only.refl _ _
  case hini =>
    exact ⟨fun x => hR0, trivial⟩
  case pres =>
    intro i hi j hj hc x wx wy hF hE hW
    simp only [List.mem_cons, List.mem_nil_iff, or_false] at hi hj
    rcases hi with rfl | rfl | rfl | rfl <;> rcases hj with rfl | rfl | rfl | rfl | rfl
    all_goals first
      | (exfalso; revert hc; decide)
      | exact Rdr.only hW hE (by simp) (by simp)
      | (obtain ⟨ho, ds, hd⟩ := hE; obtain ⟨mb, h8, hge, hI⟩ := hW; exact ⟨mb, h8, hge, isnt hI hd (by decide) ho⟩)
  case fin =>
    rintro x w9 hF hU
    obtain ⟨⟨mb, h8, hge, hI, hR⟩, -⟩ := hU
    repeat apply Exists.intro
    exact ⟨rfl, rfl, mb, h8, hge, hI, hR, hF rfl⟩

set_option maxRecDepth 100000 in
set_option maxHeartbeats 4000000 in
theorem fp5 (s x1 x2 br : Nat) (bs : List Nat) (v : Value) (a1 a2 : Nat × Int) (h1 : x1 < 4294967296) (h2 : x2 < 4294967296) (t1 : ∀ wx, BR br bs v (0, 0) wx → Calls Try.prog 57 #[.pointer (some ⟨br, 0, none⟩), .int .i64 32] wx (Took wx br bs a1.1 a1.2 v (x1 : Nat))) (t2 : ∀ wx, BR br bs v a1 wx → Calls Try.prog 57 #[.pointer (some ⟨br, 0, none⟩), .int .i64 32] wx (Took wx br bs a2.1 a2.2 v (x2 : Nat))) (u0 u1 u2 u3 u5 u7 u8 u9 u10 u11 u12 u13 u14 u15 u16 u17 u18 u19 u20 u21 u22 u23 u24 u25 u26 u27 u28 u29 u30 u31 u32 u33 u34 u35 u36 u37 u38 u39 u40 u41 u42 u43 u44 u45 u46 u47 u48 u49 u50 u51 u52 u53 u54 u55 u56 u57 u58 u59 u60 u61 u62 : Value) (Q : Exit → Act → World → Prop) (w : World) (hR0 : BR br bs v (0, 0) w)
    (hend : ∀ (y7 y23 y24 y25 y26 y27 y28 y29 y30 : Value) (w' : World), (∃ mb, y7 = .pointer (some ⟨mb, 0, none⟩) ∧ w.heap.size ≤ mb ∧ Is w' mb 27 ((msB s x1 x2).cls (.slice none 0 0) (.slice none 0 0) (.slice none 0 0)) ∧ BR br bs v a2 w' ∧ Only (fun k => k = br) w w') → Q .normal ⟨(List.toArray (u0 :: u1 :: u2 :: u3 :: .int .u8 (s : Nat) :: u5 :: .pointer (some ⟨br, 0, none⟩) :: y7 :: u8 :: u9 :: u10 :: u11 :: u12 :: u13 :: u14 :: u15 :: u16 :: u17 :: u18 :: u19 :: u20 :: u21 :: u22 :: y23 :: y24 :: y25 :: y26 :: y27 :: y28 :: y29 :: y30 :: u31 :: u32 :: u33 :: u34 :: u35 :: u36 :: u37 :: u38 :: u39 :: u40 :: u41 :: u42 :: u43 :: u44 :: u45 :: u46 :: u47 :: u48 :: u49 :: u50 :: u51 :: u52 :: u53 :: u54 :: u55 :: u56 :: u57 :: u58 :: u59 :: u60 :: u61 :: u62 :: [])), []⟩ w') :
    Code.wp Try.prog fp5_code Q ⟨(List.toArray (u0 :: u1 :: u2 :: u3 :: .int .u8 (s : Nat) :: u5 :: .pointer (some ⟨br, 0, none⟩) :: u7 :: u8 :: u9 :: u10 :: u11 :: u12 :: u13 :: u14 :: u15 :: u16 :: u17 :: u18 :: u19 :: u20 :: u21 :: u22 :: u23 :: u24 :: u25 :: u26 :: u27 :: u28 :: u29 :: u30 :: u31 :: u32 :: u33 :: u34 :: u35 :: u36 :: u37 :: u38 :: u39 :: u40 :: u41 :: u42 :: u43 :: u44 :: u45 :: u46 :: u47 :: u48 :: u49 :: u50 :: u51 :: u52 :: u53 :: u54 :: u55 :: u56 :: u57 :: u58 :: u59 :: u60 :: u61 :: u62 :: [])), []⟩ w := by
  refine wp_mono (fp5_in s x1 x2 br bs v a1 a2 h1 h2 t1 t2 _ _ _ _ _ _ _ _ _ _ _ _ _ _ _ _ _ _ _ _ _ _ _ _ _ _ _ _ _ _ _ _ _ _ _ _ _ _ _ _ _ _ _ _ _ _ _ _ _ _ _ _ _ _ _ _ _ _ _ _ _ w hR0) ?_
  rintro e a w' h
  obtain ⟨y7, h⟩ := h
  obtain ⟨y23, h⟩ := h
  obtain ⟨y24, h⟩ := h
  obtain ⟨y25, h⟩ := h
  obtain ⟨y26, h⟩ := h
  obtain ⟨y27, h⟩ := h
  obtain ⟨y28, h⟩ := h
  obtain ⟨y29, h⟩ := h
  obtain ⟨y30, h⟩ := h
  obtain ⟨h, rfl, hq⟩ := h
  subst h
  exact hend y7 y23 y24 y25 y26 y27 y28 y29 y30 w' hq
def fp6_A : List (List Nat) := ([] :: [] :: [1] :: [2, 1] :: [0, 3, 2, 1] :: [4, 0, 3, 2, 1] :: [] :: [6] :: (5 :: 7 :: 4 :: 0 :: 3 :: 2 :: 1 :: 6 :: []) :: (8 :: 4 :: 0 :: 1 :: 2 :: 3 :: 5 :: 6 :: 7 :: []) :: [])
def fp6_kill : List (List Nat) := ([] :: [] :: [] :: [] :: [10] :: [4] :: [] :: [] :: [4, 5] :: [] :: [])
def fp6_uses : List (List Nat) := ([] :: [] :: [] :: [] :: [10] :: [4] :: [] :: [] :: [5] :: [] :: [])
noncomputable def fp6_code : Code := ((Try.f23.body.bind (codeRegion 6)).getD .skip)
set_option maxRecDepth 100000 in
set_option maxHeartbeats 4000000 in
theorem fp6_in (s br sb : Nat) (nm : ByteArray) (nd : Bool) (bs : List Nat) (v : Value) (a2 a3 : Nat × Int) (hs2 : (srtV s)[2]? = some (.string nm)) (hnm : nm.size ≤ 100) (hby : ∀ wx, BR br bs v a2 wx → Calls Try.prog 58 #[.pointer (some ⟨br, 0, none⟩), .int .i64 (nm.size : Nat)] wx fun e w' => ∃ A n c out, e = .returned (.slice A n c) ∧ out.length = n ∧ Src w' (.slice A n c) out ∧ ((strOfNums (nats out)).toList == nm.toList) = nd ∧ BR br bs v a3 w' ∧ Only (fun k => k = br) wx w') (u0 u1 u2 u3 u4 u7 u8 u9 u10 u11 u12 u13 u14 u15 u16 u17 u18 u19 u20 u21 u22 u23 u24 u25 u26 u27 u28 u29 u30 u31 u32 u33 u34 u35 u36 u37 u38 u39 u40 u41 u42 u43 u44 u45 u46 u47 u48 u49 u50 u51 u52 u53 u54 u55 u56 u57 u58 u59 u60 u61 u62 : Value) (w : World) (hR0 : BR br bs v a2 w) (hS : Is w sb 93 (srtV s)) :
    Code.wp Try.prog fp6_code (fun e a w' => ∃ y31 y32 y33 y34 y35 y36 y37 y38 y39 : Value, a = ⟨(List.toArray (u0 :: u1 :: u2 :: u3 :: u4 :: .pointer (some ⟨sb, 0, none⟩) :: .pointer (some ⟨br, 0, none⟩) :: u7 :: .bool nd :: u9 :: u10 :: u11 :: u12 :: u13 :: u14 :: u15 :: u16 :: u17 :: u18 :: u19 :: u20 :: u21 :: u22 :: u23 :: u24 :: u25 :: u26 :: u27 :: u28 :: u29 :: u30 :: y31 :: y32 :: y33 :: y34 :: y35 :: y36 :: y37 :: y38 :: y39 :: u40 :: u41 :: u42 :: u43 :: u44 :: u45 :: u46 :: u47 :: u48 :: u49 :: u50 :: u51 :: u52 :: u53 :: u54 :: u55 :: u56 :: u57 :: u58 :: u59 :: u60 :: u61 :: u62 :: [])), []⟩ ∧ e = .normal ∧ (BR br bs v a3 w' ∧ Only (fun k => k = br) w w')) ⟨(List.toArray (u0 :: u1 :: u2 :: u3 :: u4 :: .pointer (some ⟨sb, 0, none⟩) :: .pointer (some ⟨br, 0, none⟩) :: u7 :: u8 :: u9 :: u10 :: u11 :: u12 :: u13 :: u14 :: u15 :: u16 :: u17 :: u18 :: u19 :: u20 :: u21 :: u22 :: u23 :: u24 :: u25 :: u26 :: u27 :: u28 :: u29 :: u30 :: u31 :: u32 :: u33 :: u34 :: u35 :: u36 :: u37 :: u38 :: u39 :: u40 :: u41 :: u42 :: u43 :: u44 :: u45 :: u46 :: u47 :: u48 :: u49 :: u50 :: u51 :: u52 :: u53 :: u54 :: u55 :: u56 :: u57 :: u58 :: u59 :: u60 :: u61 :: u62 :: [])), []⟩ w := by
  conv => arg 2; whnf
  have HBY := Lib.hid hby
  have HS2 := Lib.hid hs2
  clear hby hs2
  refine wp_region_posts fp6_A [4] [4, 5, 8, 10] fp6_kill fp6_uses [8] [] [] [10]
      (some ?v0 :: some ?v1 :: some ?v2 :: some ?v3 :: none :: none :: some ?v6 :: some ?v7 :: some (.bool nd) :: some ?v9 :: [])
      ?T (fun wx => Only (fun k => k = br) w wx ∧ Is wx sb 93 (srtV s)) ?W ?E (by kernel_rfl) (by kernel_rfl) (by kernel_rfl) (fun x => ?hT) ?hF ?hini (Reg.all_ops ?runs) ?pres ?fin
  case W => exact fun j x w' => match j with | 4 => ∃ A n c out, x 4 = .slice A n c ∧ out.length = n ∧ Src w' (.slice A n c) out ∧ ((strOfNums (nats out)).toList == nm.toList) = nd ∧ BR br bs v a3 w' | 5 => ∃ sa, x 5 = .string sa ∧ (sa.toList == nm.toList) = nd ∧ BR br bs v a3 w' | 8 => BR br bs v a3 w' | 10 => BR br bs v a2 w' | _ => True
  case E => exact fun i wx wy => match i with | 4 => Only (fun k => k = br) wx wy | _ => wx = wy
  case hT =>
    simp only [Reg.fillV, Act.put, List.setIfInBounds_toArray, List.set_cons_zero, List.set_cons_succ]
    rfl
  case runs =>
    refine And.intro ?_ ?_
    · refine Reg.ob_pure (fun _ => rfl) rfl rfl rfl rfl (fun x w1 hF => ?_)
      have s2 := (hF.2.cell 2).trans HS2.out
      go_simp
      with_reducible rfl
    refine And.intro ?_ ?_
    · refine Reg.ob_pure (fun _ => rfl) rfl rfl rfl rfl (fun x w1 hF => ?_)
      have s2 := (hF.2.cell 2).trans HS2.out
      go_simp
      with_reducible rfl
    refine And.intro ?_ ?_
    · refine Reg.ob_pure (fun _ => rfl) rfl rfl rfl rfl (fun x w1 hF => ?_)
      have s2 := (hF.2.cell 2).trans HS2.out
      go_simp
      with_reducible rfl
    refine And.intro ?_ ?_
    · refine Reg.ob_pure (fun _ => rfl) rfl rfl rfl rfl (fun x w1 hF => ?_)
      have s2 := (hF.2.cell 2).trans HS2.out
      go_simp
      with_reducible rfl
    refine And.intro ?_ ?_
    · refine Reg.ob_some (fun _ => rfl) rfl (fun x w1 hF hU K hK => ?_)
      replace hF := hF rfl
      obtain ⟨hR, -⟩ := hU
      have hR : BR br bs v a2 w1 := hR
      have HT := HBY.out w1 hR
      go_simp
      refine HT.mono ?_
      rintro e w5 ⟨A, n, c, out, rfl, h1, h2, h3, hR2, ho⟩
      exact hK _ w5 (fun _ _ _ => ⟨hF.1.trans ho (fun _ _ e => e), isnt hF.2 hR.is (by decide) ho⟩) ho ⟨A, n, c, out, rfl, h1, h2, h3, hR2⟩
    refine And.intro ?_ ?_
    · refine Reg.ob_some (fun _ => rfl) rfl (fun x w1 hF hU K hK => ?_)
      obtain ⟨⟨A, n, c, out, h4, hn, hs, hq, hR⟩, -⟩ := hU
      have h4 : x 4 = .slice A n c := h4
      have QC := conv_src hs hn
      revert hK
      simp only [Nat.reduceAdd, h4]
      intro hK
      go_simp
      exact hK _ _ (fun h => by cases h) rfl ⟨_, rfl, hq, hR⟩
    refine And.intro ?_ ?_
    · refine Reg.ob_pure (fun _ => rfl) rfl rfl rfl rfl (fun x w1 hF => ?_)
      have s2 := (hF.2.cell 2).trans HS2.out
      go_simp
      with_reducible rfl
    refine And.intro ?_ ?_
    · refine Reg.ob_pure (fun _ => rfl) rfl rfl rfl rfl (fun x w1 hF => ?_)
      have s2 := (hF.2.cell 2).trans HS2.out
      go_simp
      with_reducible rfl
    refine And.intro ?_ ?_
    · refine Reg.ob_told (fun _ => rfl) rfl (fun x w1 hF hU K hK => ?_)
      obtain ⟨⟨sa, h5, hq, hR⟩, -⟩ := hU
      have h5 : x 5 = .string sa := h5
      revert hK
      simp only [Nat.reduceAdd, h5]
      intro hK
      go_simp
      exact hK _ (fun h => by cases h) rfl hR
    refine And.intro ?_ ?_
    · refine Reg.ob_pure (fun _ => rfl) rfl rfl rfl rfl (fun x w1 hF => ?_)
      have s2 := (hF.2.cell 2).trans HS2.out
      go_simp
      with_reducible rfl
    exact trivial
  case hF =>
    exact ⟨(Only.refl _ _).drewN 1, hS.only ((Only.refl (fun _ => False) _).drewN 1) (by simp)⟩
  case hini =>
    exact ⟨fun x => hR0.drewN 1, trivial⟩
  case pres =>
    intro i hi j hj hc x wx wy hF hE hW
    simp only [List.mem_cons, List.mem_nil_iff, or_false] at hi hj
    subst hi
    rcases hj with rfl | rfl | rfl | rfl
    all_goals (exfalso; revert hc; decide)
  case fin =>
    rintro x w9 hF hU
    obtain ⟨hR, -⟩ := hU
    repeat apply Exists.intro
    exact ⟨rfl, rfl, hR, (hF rfl).1⟩

set_option maxRecDepth 100000 in
set_option maxHeartbeats 4000000 in
theorem fp6 (s br sb : Nat) (nm : ByteArray) (nd : Bool) (bs : List Nat) (v : Value) (a2 a3 : Nat × Int) (hs2 : (srtV s)[2]? = some (.string nm)) (hnm : nm.size ≤ 100) (hby : ∀ wx, BR br bs v a2 wx → Calls Try.prog 58 #[.pointer (some ⟨br, 0, none⟩), .int .i64 (nm.size : Nat)] wx fun e w' => ∃ A n c out, e = .returned (.slice A n c) ∧ out.length = n ∧ Src w' (.slice A n c) out ∧ ((strOfNums (nats out)).toList == nm.toList) = nd ∧ BR br bs v a3 w' ∧ Only (fun k => k = br) wx w') (u0 u1 u2 u3 u4 u7 u8 u9 u10 u11 u12 u13 u14 u15 u16 u17 u18 u19 u20 u21 u22 u23 u24 u25 u26 u27 u28 u29 u30 u31 u32 u33 u34 u35 u36 u37 u38 u39 u40 u41 u42 u43 u44 u45 u46 u47 u48 u49 u50 u51 u52 u53 u54 u55 u56 u57 u58 u59 u60 u61 u62 : Value) (Q : Exit → Act → World → Prop) (w : World) (hR0 : BR br bs v a2 w) (hS : Is w sb 93 (srtV s))
    (hend : ∀ (y31 y32 y33 y34 y35 y36 y37 y38 y39 : Value) (w' : World), (BR br bs v a3 w' ∧ Only (fun k => k = br) w w') → Q .normal ⟨(List.toArray (u0 :: u1 :: u2 :: u3 :: u4 :: .pointer (some ⟨sb, 0, none⟩) :: .pointer (some ⟨br, 0, none⟩) :: u7 :: .bool nd :: u9 :: u10 :: u11 :: u12 :: u13 :: u14 :: u15 :: u16 :: u17 :: u18 :: u19 :: u20 :: u21 :: u22 :: u23 :: u24 :: u25 :: u26 :: u27 :: u28 :: u29 :: u30 :: y31 :: y32 :: y33 :: y34 :: y35 :: y36 :: y37 :: y38 :: y39 :: u40 :: u41 :: u42 :: u43 :: u44 :: u45 :: u46 :: u47 :: u48 :: u49 :: u50 :: u51 :: u52 :: u53 :: u54 :: u55 :: u56 :: u57 :: u58 :: u59 :: u60 :: u61 :: u62 :: [])), []⟩ w') :
    Code.wp Try.prog fp6_code Q ⟨(List.toArray (u0 :: u1 :: u2 :: u3 :: u4 :: .pointer (some ⟨sb, 0, none⟩) :: .pointer (some ⟨br, 0, none⟩) :: u7 :: u8 :: u9 :: u10 :: u11 :: u12 :: u13 :: u14 :: u15 :: u16 :: u17 :: u18 :: u19 :: u20 :: u21 :: u22 :: u23 :: u24 :: u25 :: u26 :: u27 :: u28 :: u29 :: u30 :: u31 :: u32 :: u33 :: u34 :: u35 :: u36 :: u37 :: u38 :: u39 :: u40 :: u41 :: u42 :: u43 :: u44 :: u45 :: u46 :: u47 :: u48 :: u49 :: u50 :: u51 :: u52 :: u53 :: u54 :: u55 :: u56 :: u57 :: u58 :: u59 :: u60 :: u61 :: u62 :: [])), []⟩ w := by
  refine wp_mono (fp6_in s br sb nm nd bs v a2 a3 hs2 hnm hby _ _ _ _ _ _ _ _ _ _ _ _ _ _ _ _ _ _ _ _ _ _ _ _ _ _ _ _ _ _ _ _ _ _ _ _ _ _ _ _ _ _ _ _ _ _ _ _ _ _ _ _ _ _ _ _ _ _ _ _ _ w hR0 hS) ?_
  rintro e a w' h
  obtain ⟨y31, h⟩ := h
  obtain ⟨y32, h⟩ := h
  obtain ⟨y33, h⟩ := h
  obtain ⟨y34, h⟩ := h
  obtain ⟨y35, h⟩ := h
  obtain ⟨y36, h⟩ := h
  obtain ⟨y37, h⟩ := h
  obtain ⟨y38, h⟩ := h
  obtain ⟨y39, h⟩ := h
  obtain ⟨h, rfl, hq⟩ := h
  subst h
  exact hend y31 y32 y33 y34 y35 y36 y37 y38 y39 w' hq
end Go.Proofs.Ytefcimkopgcagaa
