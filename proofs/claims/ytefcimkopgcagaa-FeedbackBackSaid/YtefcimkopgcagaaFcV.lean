/- feedback.sortBy. Conditions: as each says. -/
import Derived.Test.YtefcimkopgcagaaFbGr
import Derived.Test.YtefcimkopgcagaaFcS
import Derived.Test.YtefcimkopgcagaaBase
set_option linter.unusedVariables false
set_option linter.unusedSimpArgs false
namespace Go.Proofs.Ytefcimkopgcagaa
open Go.RowKit

def kindR : Nat → Nat | 1 => 205 | 2 => 206 | 3 => 206 | 4 => 206 | _ => 0
def cntR : Nat → Nat | 1 => 1 | 2 => 1 | 3 => 4 | 4 => 15 | _ => 0
theorem row_cases {k : Nat} (h : k < 5) : k = 0 ∨ k = 1 ∨ k = 2 ∨ k = 3 ∨ k = 4 := by omega
theorem srt_kind {k : Nat} (h : k < 5) : (srtV k)[0]? = some (.int .u8 (kindR k : Nat)) := by rcases row_cases h with rfl | rfl | rfl | rfl | rfl <;> rfl
theorem srt_cnt {k : Nat} (h : k < 5) : (srtV k)[1]? = some (.int .u8 (cntR k : Nat)) := by rcases row_cases h with rfl | rfl | rfl | rfl | rfl <;> rfl
theorem srt_size5 {k : Nat} (h : k < 5) : (Try.prog.info? 93).map (·.size) = some (srtV k).size := by
  rw [Try.sizeSort]
  rcases row_cases h with rfl | rfl | rfl | rfl | rfl <;> rfl
theorem srt_hold5 {k : Nat} (h : k < 5) : (srtV 0).size = (srtV k).size := by rcases row_cases h with rfl | rfl | rfl | rfl | rfl <;> rfl
theorem srt_one5 {k : Nat} (h : k < 5) : (srtV k).all (·.oneCell') = true := by rcases row_cases h with rfl | rfl | rfl | rfl | rfl <;> simp [srtV, srt, mkSrt, fnV, Value.oneCell']
theorem sorts_ix (k : Nat) (w : World) (h : k < 5) : (Instr.index 120 (.agg sortsC) (.int .i64 (k : Nat))).run Try.prog w = .ok (.agg (srtV k)) w := by
  rcases row_cases h with rfl | rfl | rfl | rfl | rfl <;> (simp [Instr.index, go_sem]; rfl)
theorem sOf_row {k : Nat} (h : k < 5) : sOf (kindR k) (cntR k) = k := by rcases row_cases h with rfl | rfl | rfl | rfl | rfl <;> rfl
theorem sOf_none {kd ct : Nat} (h : ∀ r, r < 5 → ¬ (kindR r = kd ∧ cntR r = ct)) : sOf kd ct = 0 := by
  have h1 := h 1 (by omega)
  have h2 := h 2 (by omega)
  have h3 := h 3 (by omega)
  have h4 := h 4 (by omega)
  simp only [kindR, cntR] at h1 h2 h3 h4
  unfold sOf
  rw [if_neg (by omega), if_neg (by omega), if_neg (by omega), if_neg (by omega)]
theorem res_pair2 {P : Program} {fn : Func} {p q : Tmp} {ty : TypeId} (h : fn.results = #[.tmp q, .cell p ty]) (tmps : Array Value) (w : World) (g : Nat) (t : TypeId) (cs : Array Value) (d : TypeDesc) (v : Value)
    (hp : tmps.getD p undef = .pointer (some ⟨g, 0, none⟩)) (hq : tmps.getD q undef = v) (hg : Is w g t cs)
    (hu : P.underlying ty = some d) (hd : (match d with | .struct _ | .array _ _ => true | _ => false) = true) (hi : (P.info? ty).map (·.size) = some cs.size) :
    (results fn tmps).run P w = .ok (.tuple #[v, .agg cs]) w := by
  have hp' : tmps[p]?.getD undef = .pointer (some ⟨g, 0, none⟩) := by simpa using hp
  have hq' : tmps[q]?.getD undef = v := by simpa using hq
  simp [results, h, hp', hq', asAddr, run_loadVar_row w g t ty cs (0, 0) d hg hu hd hi]
theorem sb_load {P : Program} {o : Oper} {ρ : Operand → Value} {w : World} (ty : TypeId) (x : Operand) (ho : o.op = .load ty x) (g : Nat) (hx : ρ x = .pointer (some ⟨g, 0, none⟩)) (t : TypeId) (cs : Array Value) (d : TypeDesc) (hg : Is w g t cs)
    (hu : P.underlying ty = some d) (hd : (match d with | .struct _ | .array _ _ => true | _ => false) = true) (hi : (P.info? ty).map (·.size) = some cs.size) : (execOp ρ o).run P w = .ok (.value (.agg cs)) w := by
  unfold execOp
  simp only [ho, hx, Instr.loadAt, Instr.sureAddr, Sem.run_bind, Sem.run_pure, Result.andThen_ok, run_loadVar_row w g t ty cs (0, 0) d hg hu hd hi]
def sb5_A : List (List Nat) := [[], [0], [], [1, 0], [2, 3, 0, 1]]
def sb5_kill : List (List Nat) := [[], [], [], [], []]
def sb5_uses : List (List Nat) := [[], [], [], [], []]
noncomputable def sb5_code : Code := ((Try.f55.body.bind (codeRegion 5)).getD .skip)
set_option maxRecDepth 100000 in
set_option maxHeartbeats 4000000 in
theorem sb5_in (cs : Array Value) (sb rb k : Nat) (hk : k < 5) (w0 : World) (hrb : w0.heap.size ≤ rb) (hsz : (Try.prog.info? 93).map (·.size) = some cs.size) (hho : (srtV 0).size = cs.size) (hon : cs.all (·.oneCell') = true) (u0 u1 u2 u3 u4 u8 u9 u10 u11 u12 u13 u14 u15 u16 u17 u18 u19 u20 u21 u22 u23 u24 u25 u26 u27 : Value) (w : World) (hS : Is w sb 93 cs) (hR : Is w rb 93 (srtV 0)) (hG : Only (fun _ => False) w0 w) :
    Code.wp Try.prog sb5_code (fun e a w' => ∃ y23 y24 y25 : Value, a = ⟨(List.toArray (u0 :: u1 :: u2 :: u3 :: .int .u8 (k : Nat) :: .pointer (some ⟨rb, 0, none⟩) :: .int .i64 (k : Nat) :: .pointer (some ⟨sb, 0, none⟩) :: u8 :: u9 :: u10 :: u11 :: u12 :: u13 :: u14 :: u15 :: u16 :: u17 :: u18 :: u19 :: u20 :: u21 :: u22 :: y23 :: y24 :: y25 :: u26 :: u27 :: [])), []⟩ ∧ e = .normal ∧ (Is w' rb 93 cs ∧ Only (fun _ => False) w0 w')) ⟨(List.toArray (u0 :: u1 :: u2 :: u3 :: u4 :: .pointer (some ⟨rb, 0, none⟩) :: .int .i64 (k : Nat) :: .pointer (some ⟨sb, 0, none⟩) :: u8 :: u9 :: u10 :: u11 :: u12 :: u13 :: u14 :: u15 :: u16 :: u17 :: u18 :: u19 :: u20 :: u21 :: u22 :: u23 :: u24 :: u25 :: u26 :: u27 :: [])), []⟩ w := by
  conv => arg 2; whnf
  have hw8 : IntKind.u8.wrap (k : Int) = (k : Int) := by rw [IntKind.wrap_u8]; omega
  refine wp_region_posts sb5_A [4] [4] sb5_kill sb5_uses [4] [4] [] []
      [some ?v0, some ?v1, some (.agg cs), some ?v3, none]
      ?T (fun wx => Is wx sb 93 cs ∧ Is wx rb 93 (srtV 0) ∧ Only (fun _ => False) w0 wx) ?W ?E (by kernel_rfl) (by kernel_rfl) (by kernel_rfl) (fun x => ?hT) ?hF ?hini (Reg.all_ops ?runs) ?pres ?fin
  case W => exact fun j x w' => match j with | 4 => Is w' rb 93 cs ∧ Only (fun _ => False) w0 w' | _ => True
  case E => exact fun _ _ _ => True
  case hT =>
    simp only [Reg.fillV, Act.put, List.setIfInBounds_toArray, List.set_cons_zero, List.set_cons_succ]
    rfl
  case runs =>
    refine And.intro ?_ ?_
    · refine Reg.ob_pure (fun _ => rfl) rfl rfl rfl rfl (fun x w1 hF => ?_)
      go_simp
      with_reducible rfl
    refine And.intro ?_ ?_
    · refine Reg.ob_pure (fun _ => rfl) rfl rfl rfl rfl (fun x w1 hF => ?_)
      go_simp
      with_reducible rfl
    refine And.intro ?_ ?_
    · refine Reg.ob_pure (fun _ => rfl) rfl rfl rfl rfl (fun x w1 hF => ?_)
      exact sb_load 93 _ (by rfl) sb (by rfl) 93 cs _ hF.1 Try.underlying93 rfl hsz
    refine And.intro ?_ ?_
    · refine Reg.ob_pure (fun _ => rfl) rfl rfl rfl rfl (fun x w1 hF => ?_)
      go_simp
      with_reducible rfl
    refine And.intro ?_ ?_
    · refine Reg.ob_some (fun _ => rfl) rfl (fun x w1 hF hU K hK => ?_)
      obtain ⟨I7, I5, hO⟩ := hF rfl
      refine wp_store_row 93 _ _ rfl rb cs rfl rfl 93 (srtV 0) I5 hsz hho hon ?_
      exact hK undef _ (fun _ h => by cases h) trivial ⟨I5.setRow cs, hO.trans (Only.setRow (S := fun k => k = rb) (Only.refl _ w1) (fun _ => rfl) cs) (fun i hi e => by omega)⟩
    exact trivial
  case hF =>
    exact ⟨hS.only ((Only.refl (fun _ => False) w).drewN 1) (by simp), hR.only ((Only.refl (fun _ => False) w).drewN 1) (by simp), hG.trans ((Only.refl _ _).drewN 1) (fun _ _ e => e)⟩
  case hini =>
    exact trivial
  case pres =>
    intro i hi j hj hc x wx wy hF hE hW
    simp only [List.mem_cons, List.mem_nil_iff, or_false] at hi hj
    subst hi
    subst hj
    exfalso
    revert hc
    decide
  case fin =>
    rintro x w9 hF hU
    obtain ⟨hQ, -⟩ := hU
    repeat apply Exists.intro
    exact ⟨rfl, rfl, hQ⟩

set_option maxRecDepth 100000 in
set_option maxHeartbeats 4000000 in
theorem sb5 (cs : Array Value) (sb rb k : Nat) (hk : k < 5) (w0 : World) (hrb : w0.heap.size ≤ rb) (hsz : (Try.prog.info? 93).map (·.size) = some cs.size) (hho : (srtV 0).size = cs.size) (hon : cs.all (·.oneCell') = true) (u0 u1 u2 u3 u4 u8 u9 u10 u11 u12 u13 u14 u15 u16 u17 u18 u19 u20 u21 u22 u23 u24 u25 u26 u27 : Value) (Q : Exit → Act → World → Prop) (w : World) (hS : Is w sb 93 cs) (hR : Is w rb 93 (srtV 0)) (hG : Only (fun _ => False) w0 w)
    (hend : ∀ (y23 y24 y25 : Value) (w' : World), (Is w' rb 93 cs ∧ Only (fun _ => False) w0 w') → Q .normal ⟨(List.toArray (u0 :: u1 :: u2 :: u3 :: .int .u8 (k : Nat) :: .pointer (some ⟨rb, 0, none⟩) :: .int .i64 (k : Nat) :: .pointer (some ⟨sb, 0, none⟩) :: u8 :: u9 :: u10 :: u11 :: u12 :: u13 :: u14 :: u15 :: u16 :: u17 :: u18 :: u19 :: u20 :: u21 :: u22 :: y23 :: y24 :: y25 :: u26 :: u27 :: [])), []⟩ w') :
    Code.wp Try.prog sb5_code Q ⟨(List.toArray (u0 :: u1 :: u2 :: u3 :: u4 :: .pointer (some ⟨rb, 0, none⟩) :: .int .i64 (k : Nat) :: .pointer (some ⟨sb, 0, none⟩) :: u8 :: u9 :: u10 :: u11 :: u12 :: u13 :: u14 :: u15 :: u16 :: u17 :: u18 :: u19 :: u20 :: u21 :: u22 :: u23 :: u24 :: u25 :: u26 :: u27 :: [])), []⟩ w := by
  refine wp_mono (sb5_in cs sb rb k hk w0 hrb hsz hho hon _ _ _ _ _ _ _ _ _ _ _ _ _ _ _ _ _ _ _ _ _ _ _ _ _ w hS hR hG) ?_
  rintro e a w' h
  obtain ⟨y23, h⟩ := h
  obtain ⟨y24, h⟩ := h
  obtain ⟨y25, h⟩ := h
  obtain ⟨h, rfl, hq⟩ := h
  subst h
  exact hend y23 y24 y25 w' hq

set_option maxRecDepth 100000 in
set_option maxHeartbeats 4000000 in
theorem sortby_is (kd ct : Nat) (w : World) : Calls Try.prog 55 #[.int .u8 (kd : Nat), .int .u8 (ct : Nat)] w fun e w' => e = .returned (.tuple #[.int .u8 (sOf kd ct : Nat), .agg (srtV (sOf kd ct))]) ∧ Only (fun _ => False) w w' := by
  obtain ⟨s, hs⟩ : ∃ s, sOf kd ct = s := ⟨_, rfl⟩
  rw [hs]
  have HS := Lib.hid hs
  clear hs
  go_enter Try.func55, Try.ntmps55
  go_wp2_with (go_at_call 63; refine (sorts_is _).mono ?_; rintro e w1 ⟨rfl, ho1⟩; have O1 := Lib.hid (((Only.refl (fun _ => False) w).alloc _).trans ho1 (fun _ _ e => e)); have I1 := Lib.hid ((Is.made w _ (srtV 0)).only ho1 (by simp)); clear ho1)
  go_loopw [9] (fun i wr => ∃ k : Nat, i = .int .i64 (k : Int) ∧ k ≤ 5 ∧ (∀ r, r < k → ¬ (kindR r = kd ∧ cntR r = ct)) ∧ Is wr w.heap.size 93 (srtV 0) ∧ Only (fun _ => False) w wr) (fun i _ => 5 - (intOf i).toNat)
  case atStart => exact ⟨0, rfl, by omega, fun r h => by omega, I1.out, O1.out⟩
  case round =>
    obtain ⟨k, rfl, hk, hno, hI, hO⟩ := hrel
    have IJ := Lib.hid hI
    have OJ := Lib.hid hO
    have NJ := Lib.hid hno
    clear hI hO hno I1 O1
    by_cases hk5 : k < 5
    · have hkI : (k : Int) < 5 := by omega
      have C0 := Lib.hid (srt_kind hk5)
      have C1 := Lib.hid (srt_cnt hk5)
      have NN := Lib.hid (fun (hne : ¬ (kindR k = kd ∧ cntR k = ct)) (r : Nat) (h : r < k + 1) => show ¬ (kindR r = kd ∧ cntR r = ct) from by
        by_cases e : r = k
        · subst e; exact hne
        · exact NJ.out r (by omega))
      have RR := Lib.hid (fun (h : kindR k = kd ∧ cntR k = ct) => show s = k from by rw [← HS.out, ← h.1, ← h.2]; exact sOf_row hk5)
      obtain ⟨ki, hki⟩ : ∃ x, kindR k = x := ⟨_, rfl⟩
      obtain ⟨ci, hci⟩ : ∃ x, cntR k = x := ⟨_, rfl⟩
      rw [hki] at C0 NN RR
      rw [hci] at C1 NN RR
      clear hki hci NJ
      go_wp2
      rw [sorts_ix k _ hk5]
      go_upto_region 4 with (refine wpList_store_is rfl 93 _ _ rfl wr.heap.size (srtV k) rfl rfl 93 (srtV 0) (Is.made wr _ (srtV 0)) (srt_size5 hk5) (srt_hold5 hk5) (srt_one5 hk5) ?_; intro w5 hi5 ho5; have O5 := Lib.hid (OJ.out.trans (fb_made ho5) (fun _ _ e => e)); have I5 := Lib.hid hi5; have B5 := Lib.hid (IJ.out.only (fb_made ho5) (by simp)); have c0 := (hi5.cell 0).trans C0.out; have c1 := (hi5.cell 1).trans C1.out; clear hi5 ho5)
      by_cases hm : ki = kd ∧ ci = ct
      · obtain rfl := RR.out hm
        have hb0 : ((ki : Int) == (kd : Int)) = true := by rw [beq_iff_eq]; omega
        have hb1 : ((ci : Int) == (ct : Int)) = true := by rw [beq_iff_eq]; omega
        clear RR NN hm
        go_upto_region 5 with (fail)
        refine sb5 (srtV s) wr.heap.size w.heap.size s hk5 w (Nat.le_refl _) (srt_size5 hk5) (srt_hold5 hk5) (srt_one5 hk5) _ _ _ _ _ _ _ _ _ _ _ _ _ _ _ _ _ _ _ _ _ _ _ _ _ _ w5 I5.out B5.out O5.out ?_
        rintro y23 y24 y25 w6 ⟨hi6, ho6⟩
        go_wp2
        exact bodyPost_ret (res_pair2 Try.results55 _ w6 w.heap.size 93 (srtV s) _ (.int .u8 (s : Nat)) rfl rfl hi6 Try.underlying93 rfl (srt_size5 hk5)) rfl ⟨rfl, ho6⟩
      · have N2 := Lib.hid (NN.out hm)
        clear RR NN
        by_cases hm0 : ki = kd
        · have hb0 : ((ki : Int) == (kd : Int)) = true := by rw [beq_iff_eq]; omega
          have hb1 : ((ci : Int) == (ct : Int)) = false := by rw [beq_eq_false_iff_ne]; omega
          clear hm hm0
          go_wp2
          exact ⟨⟨k + 1, int_congr (by omega), by omega, N2.out, B5.out, O5.out⟩, by simp [intOf]; omega⟩
        · have hb0 : ((ki : Int) == (kd : Int)) = false := by rw [beq_eq_false_iff_ne]; omega
          clear hm hm0
          go_wp2
          exact ⟨⟨k + 1, int_congr (by omega), by omega, N2.out, B5.out, O5.out⟩, by simp [intOf]; omega⟩
    · obtain rfl : k = 5 := by omega
      obtain rfl : s = 0 := by rw [← HS.out]; exact sOf_none NJ.out
      go_wp2_with (first
        | (refine wpList_build_is (o := ⟨some 27, _, _, _, _, _⟩) rfl _ _ rfl (srtV 0) (by kernel_rfl) ?_)
        | (refine wpList_store_is rfl 93 _ _ rfl w.heap.size (srtV 0) rfl rfl 93 (srtV 0) IJ.out (srt_size5 (by omega)) rfl (srt_one5 (by omega)) ?_; intro w5 hi5 ho5; have O5 := Lib.hid (OJ.out.trans ho5 (fun i hi e => by omega)); have I5 := Lib.hid hi5; clear hi5 ho5))
      exact bodyPost_ret (res_pair2 Try.results55 _ w5 w.heap.size 93 (srtV 0) _ (.int .u8 0) rfl rfl I5.out Try.underlying93 rfl (srt_size5 (by omega))) rfl ⟨rfl, O5.out⟩
end Go.Proofs.Ytefcimkopgcagaa
