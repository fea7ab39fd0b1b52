/- Merged of FcS FcV FcW FcT FcX FcY FcZ FdA. Conditions: as each says. -/
import Derived.Test.YtefcimkopgcagaaFbGr
import Derived.Test.YtefcimkopgcagaaRcE
import Derived.Test.YtefcimkopgcagaaBase
import Derived.Test.YtefcimkopgcagaaFcE
import Derived.Test.YtefcimkopgcagaaBtGr
/- easelref07.Sort, four. Conditions: as each says. -/
set_option linter.unusedVariables false
set_option linter.unusedSimpArgs false
namespace Go.Proofs.Ytefcimkopgcagaa
open Go.RowKit

/-- The sort of a kind and a count; 0: none. -/
def sOf (kd ct : Nat) : Nat := if kd = 205 ∧ ct = 1 then 1 else if kd = 206 ∧ ct = 1 then 2 else if kd = 206 ∧ ct = 4 then 3 else if kd = 206 ∧ ct = 15 then 4 else 0
set_option maxRecDepth 100000 in
set_option maxHeartbeats 2000000 in
theorem rsort_is (kd ct pad : Nat) (v : Value) (w : World) :
    Calls Try.prog 26 #[.agg #[.int .u8 (ct : Nat), .int .u8 (kd : Nat), v, .int .u8 (pad : Nat)]] w fun e w' => e = .returned (.int .u8 (sOf kd ct : Nat)) ∧ Only (fun _ => False) w w' := by
  obtain ⟨s, hs⟩ : ∃ s, sOf kd ct = s := ⟨_, rfl⟩
  rw [hs]
  unfold sOf at hs
  by_cases hk5 : kd = 205
  · subst hk5
    by_cases h1 : ct = 1
    · subst h1
      obtain rfl : 1 = s := by simpa using hs
      go_enter Try.func26, Try.ntmps26
      go_wp2
      go_ret
      exact ⟨rfl, (Only.refl _ w).alloc _⟩
    · obtain rfl : 0 = s := by simpa [h1] using hs
      have n1 : ((ct : Int) == 1) = false := by rw [beq_eq_false_iff_ne]; omega
      go_enter Try.func26, Try.ntmps26
      go_wp2
      go_ret
      exact ⟨rfl, (Only.refl _ w).alloc _⟩
  by_cases hk6 : kd = 206
  · subst hk6
    by_cases h1 : ct = 1
    · subst h1
      obtain rfl : 2 = s := by simpa using hs
      go_enter Try.func26, Try.ntmps26
      go_wp2
      go_ret
      exact ⟨rfl, (Only.refl _ w).alloc _⟩
    by_cases h4 : ct = 4
    · subst h4
      obtain rfl : 3 = s := by simpa using hs
      go_enter Try.func26, Try.ntmps26
      go_wp2
      go_ret
      exact ⟨rfl, (Only.refl _ w).alloc _⟩
    by_cases h15 : ct = 15
    · subst h15
      obtain rfl : 4 = s := by simpa using hs
      go_enter Try.func26, Try.ntmps26
      go_wp2
      go_ret
      exact ⟨rfl, (Only.refl _ w).alloc _⟩
    obtain rfl : 0 = s := by simpa [h1, h4, h15] using hs
    have n1 : ((ct : Int) == 1) = false := by rw [beq_eq_false_iff_ne]; omega
    have n4 : ((ct : Int) == 4) = false := by rw [beq_eq_false_iff_ne]; omega
    have n15 : ((ct : Int) == 15) = false := by rw [beq_eq_false_iff_ne]; omega
    go_enter Try.func26, Try.ntmps26
    go_wp2
    go_ret
    exact ⟨rfl, (Only.refl _ w).alloc _⟩
  obtain rfl : 0 = s := by simpa [hk5, hk6] using hs
  have n5 : ((kd : Int) == 205) = false := by rw [beq_eq_false_iff_ne]; omega
  have n6 : ((kd : Int) == 206) = false := by rw [beq_eq_false_iff_ne]; omega
  go_enter Try.func26, Try.ntmps26
  go_wp2
  go_ret
  exact ⟨rfl, (Only.refl _ w).alloc _⟩

/-- The number at a place. -/
def fourB (bs : List Nat) (k : Nat) : Nat := vu ((bs.drop k).take 4)
set_option maxRecDepth 100000 in
set_option maxHeartbeats 1000000 in
theorem four_is (v : Value) (bs : List Nat) (k : Nat) (w : World) (hs : Src w v bs) (hb : ∀ x ∈ bs, x < 256) (hk : k + 4 ≤ bs.length) (hl : bs.length ≤ 100000) :
    Calls Try.prog 54 #[v, .int .i64 (k : Nat)] w fun e w' => e = .returned (.int .u32 (fourB bs k : Nat)) ∧ w = w' := by
  have hlen : ((bs.drop k).take 4).length = 4 := by rw [List.length_take, List.length_drop]; omega
  have hbb : ∀ x ∈ (bs.drop k).take 4, x < 256 := fun x hx => hb x (List.mem_of_mem_drop (List.mem_of_mem_take hx))
  have hv := vu_lt 4 ((bs.drop k).take 4) (by omega) hbb
  obtain ⟨g, o, c, rfl, hc⟩ := hs.at_ (by omega)
  have HV := Lib.hid (fun (c' : Nat) (hcc : 4 ≤ c') => value_is (.slice (some ⟨g, o + k, none⟩) 4 c') ((bs.drop k).take 4) w (src_cut (c := 0) k 4 hc hk rfl hcc) hbb (by omega))
  unfold fourB
  have hvb : vu ((bs.drop k).take 4) < 4294967296 := by simpa using hv
  have hw : IntKind.u32.wrap ((vu ((bs.drop k).take 4) : Nat) : Int) = ((vu ((bs.drop k).take 4) : Nat) : Int) := by rw [IntKind.wrap_u32]; omega
  generalize vu ((bs.drop k).take 4) = r at *
  have hslc : bs.length ≤ c := by
    rcases hs with ⟨e, _⟩ | ⟨a, c', e, h1, _⟩
    · cases e
    · injection e with _ _ e3
      omega
  clear hs hb hbb hc hv hlen
  generalize bs.length = n at *
  have hk2 : ((k : Int) + 4) ≤ n := by omega
  go_enter Try.func54, Try.ntmps54
  go_wp2_with fail
  refine (HV.out (c - k) (by omega)).mono ?_
  rintro e w1 ⟨rfl, rfl⟩
  go_wp2
  go_ret
  exact ⟨rfl, rfl⟩
end Go.Proofs.Ytefcimkopgcagaa

/- feedback.sortBy. Conditions: as each says. -/
set_option linter.unusedVariables false
set_option linter.unusedSimpArgs false
namespace Go.Proofs.Ytefcimkopgcagaa
open Go.RowKit

def kindR : Nat → Nat | 1 => 205 | 2 => 206 | 3 => 206 | 4 => 206 | _ => 0
def cntR : Nat → Nat | 1 => 1 | 2 => 1 | 3 => 4 | 4 => 15 | _ => 0
theorem row_cases {k : Nat} (h : k < 5) : k = 0 ∨ k = 1 ∨ k = 2 ∨ k = 3 ∨ k = 4 := by omega
theorem srt_kind {k : Nat} (h : k < 5) : (srtV k)[0]? = some (.int .u8 (kindR k : Nat)) := by rcases row_cases h with rfl | rfl | rfl | rfl | rfl <;> rfl
theorem srt_cnt {k : Nat} (h : k < 5) : (srtV k)[1]? = some (.int .u8 (cntR k : Nat)) := by rcases row_cases h with rfl | rfl | rfl | rfl | rfl <;> rfl
theorem srt_size5 {k : Nat} (h : k < 5) : (Try.prog.info? 93).map (·.size) = some (srtV k).size := by
  rw [Try.sizeSort]
  rcases row_cases h with rfl | rfl | rfl | rfl | rfl <;> rfl
theorem srt_hold5 {k : Nat} (h : k < 5) : (srtV 0).size = (srtV k).size := by rcases row_cases h with rfl | rfl | rfl | rfl | rfl <;> rfl
theorem srt_one5 {k : Nat} (h : k < 5) : (srtV k).all (·.oneCell') = true := by rcases row_cases h with rfl | rfl | rfl | rfl | rfl <;> simp [srtV, srt, mkSrt, fnV, Value.oneCell']
theorem sorts_ix (k : Nat) (w : World) (h : k < 5) : (Instr.index 120 (.agg sortsC) (.int .i64 (k : Nat))).run Try.prog w = .ok (.agg (srtV k)) w := by
  rcases row_cases h with rfl | rfl | rfl | rfl | rfl <;> (simp [Instr.index, go_sem]; rfl)
theorem sOf_row {k : Nat} (h : k < 5) : sOf (kindR k) (cntR k) = k := by rcases row_cases h with rfl | rfl | rfl | rfl | rfl <;> rfl
theorem sOf_none {kd ct : Nat} (h : ∀ r, r < 5 → ¬ (kindR r = kd ∧ cntR r = ct)) : sOf kd ct = 0 := by
  have h1 := h 1 (by omega)
  have h2 := h 2 (by omega)
  have h3 := h 3 (by omega)
  have h4 := h 4 (by omega)
  simp only [kindR, cntR] at h1 h2 h3 h4
  unfold sOf
  rw [if_neg (by omega), if_neg (by omega), if_neg (by omega), if_neg (by omega)]
theorem res_pair2 {P : Program} {fn : Func} {p q : Tmp} {ty : TypeId} (h : fn.results = #[.tmp q, .cell p ty]) (tmps : Array Value) (w : World) (g : Nat) (t : TypeId) (cs : Array Value) (d : TypeDesc) (v : Value)
    (hp : tmps.getD p undef = .pointer (some ⟨g, 0, none⟩)) (hq : tmps.getD q undef = v) (hg : Is w g t cs)
    (hu : P.underlying ty = some d) (hd : (match d with | .struct _ | .array _ _ => true | _ => false) = true) (hi : (P.info? ty).map (·.size) = some cs.size) :
    (results fn tmps).run P w = .ok (.tuple #[v, .agg cs]) w := by
  have hp' : tmps[p]?.getD undef = .pointer (some ⟨g, 0, none⟩) := by simpa using hp
  have hq' : tmps[q]?.getD undef = v := by simpa using hq
  simp [results, h, hp', hq', asAddr, run_loadVar_row w g t ty cs (0, 0) d hg hu hd hi]
theorem sb_load {P : Program} {o : Oper} {ρ : Operand → Value} {w : World} (ty : TypeId) (x : Operand) (ho : o.op = .load ty x) (g : Nat) (hx : ρ x = .pointer (some ⟨g, 0, none⟩)) (t : TypeId) (cs : Array Value) (d : TypeDesc) (hg : Is w g t cs)
    (hu : P.underlying ty = some d) (hd : (match d with | .struct _ | .array _ _ => true | _ => false) = true) (hi : (P.info? ty).map (·.size) = some cs.size) : (execOp ρ o).run P w = .ok (.value (.agg cs)) w := by
  unfold execOp
  simp only [ho, hx, Instr.loadAt, Instr.sureAddr, Sem.run_bind, Sem.run_pure, Result.andThen_ok, run_loadVar_row w g t ty cs (0, 0) d hg hu hd hi]
def sb5_A : List (List Nat) := [[], [0], [], [1, 0], [2, 3, 0, 1]]
def sb5_kill : List (List Nat) := [[], [], [], [], []]
def sb5_uses : List (List Nat) := [[], [], [], [], []]
noncomputable def sb5_code : Code := ((Try.f55.body.bind (codeRegion 5)).getD .skip)
set_option maxRecDepth 100000 in
set_option maxHeartbeats 4000000 in
theorem sb5_in (cs : Array Value) (sb rb k : Nat) (hk : k < 5) (w0 : World) (hrb : w0.heap.size ≤ rb) (hsz : (Try.prog.info? 93).map (·.size) = some cs.size) (hho : (srtV 0).size = cs.size) (hon : cs.all (·.oneCell') = true) (u0 u1 u2 u3 u4 u8 u9 u10 u11 u12 u13 u14 u15 u16 u17 u18 u19 u20 u21 u22 u23 u24 u25 u26 u27 : Value) (w : World) (hS : Is w sb 93 cs) (hR : Is w rb 93 (srtV 0)) (hG : Only (fun _ => False) w0 w) :
    Code.wp Try.prog sb5_code (fun e a w' => ∃ y23 y24 y25 : Value, a = ⟨(List.toArray (u0 :: u1 :: u2 :: u3 :: .int .u8 (k : Nat) :: .pointer (some ⟨rb, 0, none⟩) :: .int .i64 (k : Nat) :: .pointer (some ⟨sb, 0, none⟩) :: u8 :: u9 :: u10 :: u11 :: u12 :: u13 :: u14 :: u15 :: u16 :: u17 :: u18 :: u19 :: u20 :: u21 :: u22 :: y23 :: y24 :: y25 :: u26 :: u27 :: [])), []⟩ ∧ e = .normal ∧ (Is w' rb 93 cs ∧ Only (fun _ => False) w0 w')) ⟨(List.toArray (u0 :: u1 :: u2 :: u3 :: u4 :: .pointer (some ⟨rb, 0, none⟩) :: .int .i64 (k : Nat) :: .pointer (some ⟨sb, 0, none⟩) :: u8 :: u9 :: u10 :: u11 :: u12 :: u13 :: u14 :: u15 :: u16 :: u17 :: u18 :: u19 :: u20 :: u21 :: u22 :: u23 :: u24 :: u25 :: u26 :: u27 :: [])), []⟩ w := by
  conv => arg 2; whnf
  have hw8 : IntKind.u8.wrap (k : Int) = (k : Int) := by rw [IntKind.wrap_u8]; omega
  refine wp_region_posts sb5_A [4] [4] sb5_kill sb5_uses [4] [4] [] []
      [some ?v0, some ?v1, some (.agg cs), some ?v3, none]
      ?T (fun wx => Is wx sb 93 cs ∧ Is wx rb 93 (srtV 0) ∧ Only (fun _ => False) w0 wx) ?W ?E (by kernel_rfl) (by kernel_rfl) (by kernel_rfl) (fun x => ?hT) ?hF ?hini (Reg.all_ops ?runs) ?pres ?fin
  case W => exact fun j x w' => match j with | 4 => Is w' rb 93 cs ∧ Only (fun _ => False) w0 w' | _ => True
  case E => exact fun _ _ _ => True
  case hT =>
    simp only [Reg.fillV, Act.put, List.setIfInBounds_toArray, List.set_cons_zero, List.set_cons_succ]
    rfl
  case runs =>
    refine And.intro ?_ ?_
    · refine Reg.ob_pure (fun _ => rfl) rfl rfl rfl rfl (fun x w1 hF => ?_)
      go_simp
      with_reducible rfl
    refine And.intro ?_ ?_
    · refine Reg.ob_pure (fun _ => rfl) rfl rfl rfl rfl (fun x w1 hF => ?_)
      go_simp
      with_reducible rfl
    refine And.intro ?_ ?_
    · refine Reg.ob_pure (fun _ => rfl) rfl rfl rfl rfl (fun x w1 hF => ?_)
      exact sb_load 93 _ (by rfl) sb (by rfl) 93 cs _ hF.1 Try.underlying93 rfl hsz
    refine And.intro ?_ ?_
    · refine Reg.ob_pure (fun _ => rfl) rfl rfl rfl rfl (fun x w1 hF => ?_)
      go_simp
      with_reducible rfl
    refine And.intro ?_ ?_
    · refine Reg.ob_some (fun _ => rfl) rfl (fun x w1 hF hU K hK => ?_)
      obtain ⟨I7, I5, hO⟩ := hF rfl
      refine wp_store_row 93 _ _ rfl rb cs rfl rfl 93 (srtV 0) I5 hsz hho hon ?_
      exact hK undef _ (fun _ h => by cases h) trivial ⟨I5.setRow cs, hO.trans (Only.setRow (S := fun k => k = rb) (Only.refl _ w1) (fun _ => rfl) cs) (fun i hi e => by omega)⟩
    exact trivial
  case hF =>
    exact ⟨hS.only ((Only.refl (fun _ => False) w).drewN 1) (by simp), hR.only ((Only.refl (fun _ => False) w).drewN 1) (by simp), hG.trans ((Only.refl _ _).drewN 1) (fun _ _ e => e)⟩
  case hini =>
    exact trivial
  case pres =>
    intro i hi j hj hc x wx wy hF hE hW
    simp only [List.mem_cons, List.mem_nil_iff, or_false] at hi hj
    subst hi
    subst hj
    exfalso
    revert hc
    decide
  case fin =>
    rintro x w9 hF hU
    obtain ⟨hQ, -⟩ := hU
    repeat apply Exists.intro
    exact ⟨rfl, rfl, hQ⟩

set_option maxRecDepth 100000 in
set_option maxHeartbeats 4000000 in
theorem sb5 (cs : Array Value) (sb rb k : Nat) (hk : k < 5) (w0 : World) (hrb : w0.heap.size ≤ rb) (hsz : (Try.prog.info? 93).map (·.size) = some cs.size) (hho : (srtV 0).size = cs.size) (hon : cs.all (·.oneCell') = true) (u0 u1 u2 u3 u4 u8 u9 u10 u11 u12 u13 u14 u15 u16 u17 u18 u19 u20 u21 u22 u23 u24 u25 u26 u27 : Value) (Q : Exit → Act → World → Prop) (w : World) (hS : Is w sb 93 cs) (hR : Is w rb 93 (srtV 0)) (hG : Only (fun _ => False) w0 w)
    (hend : ∀ (y23 y24 y25 : Value) (w' : World), (Is w' rb 93 cs ∧ Only (fun _ => False) w0 w') → Q .normal ⟨(List.toArray (u0 :: u1 :: u2 :: u3 :: .int .u8 (k : Nat) :: .pointer (some ⟨rb, 0, none⟩) :: .int .i64 (k : Nat) :: .pointer (some ⟨sb, 0, none⟩) :: u8 :: u9 :: u10 :: u11 :: u12 :: u13 :: u14 :: u15 :: u16 :: u17 :: u18 :: u19 :: u20 :: u21 :: u22 :: y23 :: y24 :: y25 :: u26 :: u27 :: [])), []⟩ w') :
    Code.wp Try.prog sb5_code Q ⟨(List.toArray (u0 :: u1 :: u2 :: u3 :: u4 :: .pointer (some ⟨rb, 0, none⟩) :: .int .i64 (k : Nat) :: .pointer (some ⟨sb, 0, none⟩) :: u8 :: u9 :: u10 :: u11 :: u12 :: u13 :: u14 :: u15 :: u16 :: u17 :: u18 :: u19 :: u20 :: u21 :: u22 :: u23 :: u24 :: u25 :: u26 :: u27 :: [])), []⟩ w := by
  refine wp_mono (sb5_in cs sb rb k hk w0 hrb hsz hho hon _ _ _ _ _ _ _ _ _ _ _ _ _ _ _ _ _ _ _ _ _ _ _ _ _ w hS hR hG) ?_
  rintro e a w' h
  obtain ⟨y23, h⟩ := h
  obtain ⟨y24, h⟩ := h
  obtain ⟨y25, h⟩ := h
  obtain ⟨h, rfl, hq⟩ := h
  subst h
  exact hend y23 y24 y25 w' hq

set_option maxRecDepth 100000 in
set_option maxHeartbeats 4000000 in
theorem sortby_is (kd ct : Nat) (w : World) : Calls Try.prog 55 #[.int .u8 (kd : Nat), .int .u8 (ct : Nat)] w fun e w' => e = .returned (.tuple #[.int .u8 (sOf kd ct : Nat), .agg (srtV (sOf kd ct))]) ∧ Only (fun _ => False) w w' := by
  obtain ⟨s, hs⟩ : ∃ s, sOf kd ct = s := ⟨_, rfl⟩
  rw [hs]
  have HS := Lib.hid hs
  clear hs
  go_enter Try.func55, Try.ntmps55
  go_wp2_with (go_at_call 63; refine (sorts_is _).mono ?_; rintro e w1 ⟨rfl, ho1⟩; have O1 := Lib.hid (((Only.refl (fun _ => False) w).alloc _).trans ho1 (fun _ _ e => e)); have I1 := Lib.hid ((Is.made w _ (srtV 0)).only ho1 (by simp)); clear ho1)
  go_loopw [9] (fun i wr => ∃ k : Nat, i = .int .i64 (k : Int) ∧ k ≤ 5 ∧ (∀ r, r < k → ¬ (kindR r = kd ∧ cntR r = ct)) ∧ Is wr w.heap.size 93 (srtV 0) ∧ Only (fun _ => False) w wr) (fun i _ => 5 - (intOf i).toNat)
  case atStart => exact ⟨0, rfl, by omega, fun r h => by omega, I1.out, O1.out⟩
  case round =>
    obtain ⟨k, rfl, hk, hno, hI, hO⟩ := hrel
    have IJ := Lib.hid hI
    have OJ := Lib.hid hO
    have NJ := Lib.hid hno
    clear hI hO hno I1 O1
    by_cases hk5 : k < 5
    · have hkI : (k : Int) < 5 := by omega
      have C0 := Lib.hid (srt_kind hk5)
      have C1 := Lib.hid (srt_cnt hk5)
      have NN := Lib.hid (fun (hne : ¬ (kindR k = kd ∧ cntR k = ct)) (r : Nat) (h : r < k + 1) => show ¬ (kindR r = kd ∧ cntR r = ct) from by
        by_cases e : r = k
        · subst e; exact hne
        · exact NJ.out r (by omega))
      have RR := Lib.hid (fun (h : kindR k = kd ∧ cntR k = ct) => show s = k from by rw [← HS.out, ← h.1, ← h.2]; exact sOf_row hk5)
      obtain ⟨ki, hki⟩ : ∃ x, kindR k = x := ⟨_, rfl⟩
      obtain ⟨ci, hci⟩ : ∃ x, cntR k = x := ⟨_, rfl⟩
      rw [hki] at C0 NN RR
      rw [hci] at C1 NN RR
      clear hki hci NJ
      go_wp2
      rw [sorts_ix k _ hk5]
      go_upto_region 4 with (refine wpList_store_is rfl 93 _ _ rfl wr.heap.size (srtV k) rfl rfl 93 (srtV 0) (Is.made wr _ (srtV 0)) (srt_size5 hk5) (srt_hold5 hk5) (srt_one5 hk5) ?_; intro w5 hi5 ho5; have O5 := Lib.hid (OJ.out.trans (fb_made ho5) (fun _ _ e => e)); have I5 := Lib.hid hi5; have B5 := Lib.hid (IJ.out.only (fb_made ho5) (by simp)); have c0 := (hi5.cell 0).trans C0.out; have c1 := (hi5.cell 1).trans C1.out; clear hi5 ho5)
      by_cases hm : ki = kd ∧ ci = ct
      · obtain rfl := RR.out hm
        have hb0 : ((ki : Int) == (kd : Int)) = true := by rw [beq_iff_eq]; omega
        have hb1 : ((ci : Int) == (ct : Int)) = true := by rw [beq_iff_eq]; omega
        clear RR NN hm
        go_upto_region 5 with (fail)
        refine sb5 (srtV s) wr.heap.size w.heap.size s hk5 w (Nat.le_refl _) (srt_size5 hk5) (srt_hold5 hk5) (srt_one5 hk5) _ _ _ _ _ _ _ _ _ _ _ _ _ _ _ _ _ _ _ _ _ _ _ _ _ _ w5 I5.out B5.out O5.out ?_
        rintro y23 y24 y25 w6 ⟨hi6, ho6⟩
        go_wp2
        exact bodyPost_ret (res_pair2 Try.results55 _ w6 w.heap.size 93 (srtV s) _ (.int .u8 (s : Nat)) rfl rfl hi6 Try.underlying93 rfl (srt_size5 hk5)) rfl ⟨rfl, ho6⟩
      · have N2 := Lib.hid (NN.out hm)
        clear RR NN
        by_cases hm0 : ki = kd
        · have hb0 : ((ki : Int) == (kd : Int)) = true := by rw [beq_iff_eq]; omega
          have hb1 : ((ci : Int) == (ct : Int)) = false := by rw [beq_eq_false_iff_ne]; omega
          clear hm hm0
          go_wp2
          exact ⟨⟨k + 1, int_congr (by omega), by omega, N2.out, B5.out, O5.out⟩, by simp [intOf]; omega⟩
        · have hb0 : ((ki : Int) == (kd : Int)) = false := by rw [beq_eq_false_iff_ne]; omega
          clear hm hm0
          go_wp2
          exact ⟨⟨k + 1, int_congr (by omega), by omega, N2.out, B5.out, O5.out⟩, by simp [intOf]; omega⟩
    · obtain rfl : k = 5 := by omega
      obtain rfl : s = 0 := by rw [← HS.out]; exact sOf_none NJ.out
      go_wp2_with (first
        | (refine wpList_build_is (o := ⟨some 27, _, _, _, _, _⟩) rfl _ _ rfl (srtV 0) (by kernel_rfl) ?_)
        | (refine wpList_store_is rfl 93 _ _ rfl w.heap.size (srtV 0) rfl rfl 93 (srtV 0) IJ.out (srt_size5 (by omega)) rfl (srt_one5 (by omega)) ?_; intro w5 hi5 ho5; have O5 := Lib.hid (OJ.out.trans ho5 (fun i hi e => by omega)); have I5 := Lib.hid hi5; clear hi5 ho5))
      exact bodyPost_ret (res_pair2 Try.results55 _ w5 w.heap.size 93 (srtV 0) _ (.int .u8 0) rfl rfl I5.out Try.underlying93 rfl (srt_size5 (by omega))) rfl ⟨rfl, O5.out⟩
end Go.Proofs.Ytefcimkopgcagaa

/- feedback.Is. Conditions: as each says. -/
set_option linter.unusedVariables false
set_option linter.unusedSimpArgs false
namespace Go.Proofs.Ytefcimkopgcagaa
open Go.RowKit

theorem srtV_size5 {k : Nat} (h : k < 5) : (srtV k).size = 15 := by rcases row_cases h with rfl | rfl | rfl | rfl | rfl <;> rfl
theorem sOf_lt (kd ct : Nat) : sOf kd ct < 5 := by
  unfold sOf
  split
  · omega
  · split
    · omega
    · split
      · omega
      · split <;> omega
set_option maxRecDepth 100000 in
set_option maxHeartbeats 2000000 in
theorem fis_is (kd ct pad : Nat) (vb : Value) (w : World) :
    Calls Try.prog 25 #[.agg #[.int .u8 (ct : Nat), .int .u8 (kd : Nat), vb, .int .u8 (pad : Nat)]] w fun e w' => e = .returned (.bool (decide (0 < sOf kd ct))) ∧ Only (fun _ => False) w w' := by
  have HSB := Lib.hid (fun wx => sortby_is kd ct wx)
  have hs5 := sOf_lt kd ct
  generalize sOf kd ct = s at *
  have hb : ((s : Int) != 0) = decide (0 < s) := by
    rcases Nat.eq_zero_or_pos s with h | h
    · subst h; rfl
    · have h1 : (s : Int) ≠ 0 := by omega
      have h2 : s ≠ 0 := by omega
      simp [h, h2]
  go_enter Try.func25, Try.ntmps25
  go_wp2_with (first
    | (go_at_call 55; refine (HSB.out _).mono ?_; rintro e w1 ⟨rfl, ho1⟩; have O1 := Lib.hid (((Only.refl (fun _ => False) w).alloc _).trans ho1 (fun _ _ e => e)); clear ho1)
    | (refine wpList_store_is rfl 93 _ _ rfl w1.heap.size (srtV s) rfl rfl 93 (srtV 0) (Is.made w1 _ (srtV 0)) (srt_size5 hs5) (srt_hold5 hs5) (srt_one5 hs5) ?_; intro w2 hi2 ho2; have O2 := Lib.hid (O1.out.trans (fb_made ho2) (fun _ _ e => e)); clear hi2 ho2))
  go_ret
  exact ⟨rfl, O2.out⟩
end Go.Proofs.Ytefcimkopgcagaa

/- easelref07.Parse's rounds: a pair, an order, a source more. Conditions: as each says. -/
set_option linter.unusedVariables false
set_option linter.unusedSimpArgs false
namespace Go.Proofs.Ytefcimkopgcagaa
open Go.RowKit

theorem sty_u32 : Sty 25 22 1 4 := by
  obtain ⟨i0, hi, hz0, hz1, hz2⟩ := info_parts Try.infoU32
  exact ⟨Try.underlying25, ⟨i0, _, hi, hz0, hz1, hz2, rfl⟩, by decide⟩
theorem own_base9 {w : World} {B n sz : Nat} {T : TypeId} {v : Value} {xs : List Value} (h : w.ownsRow B T sz v n xs) {k : Nat} (hk : v.ownBlock = some k) : B ≤ k := by
  rcases h.2 with ⟨rfl, _⟩ | ⟨g, cap, cur, rfl, hb, _⟩
  · simp [Value.ownBlock] at hk
  · simp only [Value.ownBlock, Option.some.injEq] at hk
    omega
structure Ro (cs : Array Value) (ob rb : Nat) (w0 wx : World) : Prop where
  io : Is wx ob 33 cs
  ir : Is wx rb 33 msZ
  pure : Only (fun _ => False) w0 wx
theorem Ro.go {cs : Array Value} {ob rb : Nat} {w0 wx wy : World} (h : Ro cs ob rb w0 wx) (ho : Only (fun _ => False) wx wy) : Ro cs ob rb w0 wy := ⟨h.io.only ho (by simp), h.ir.only ho (by simp), only_more h.pure ho⟩
theorem Ro.far {cs : Array Value} {ob rb n sz : Nat} {w0 wx wy : World} {T : TypeId} {v : Value} {xs : List Value} (h : Ro cs ob rb w0 wx) (hw : wx.ownsRow w0.heap.size T sz v n xs) (hT : T ≠ 33) (ho : Only (fun k => v.ownBlock = some k) wx wy) : Ro cs ob rb w0 wy :=
  ⟨h.io.only ho (owned_off hw h.io hT), h.ir.only ho (owned_off hw h.ir hT), h.pure.trans ho (fun i hi e => by have := own_base9 hw e; omega)⟩
theorem Ro.put {cs : Array Value} {ob rb : Nat} {w0 wx : World} (h : Ro cs ob rb w0 wx) (hne : rb ≠ ob) (hob : w0.heap.size ≤ ob) (f : Nat) (v : Value) : Ro (cs.setIfInBounds f v) ob rb w0 (wx.setCell ⟨ob, f, none⟩ v) := by
  have ho : Only (fun k => k = ob) wx (wx.setCell ⟨ob, f, none⟩ v) := Only.set (S := fun k => k = ob) (p := ⟨ob, f, none⟩) (Only.refl _ wx) (fun _ => rfl) v
  exact ⟨h.io.put f v, h.ir.only ho hne, h.pure.trans ho (fun i hi e => by omega)⟩
theorem OwnS.stored {B sz : Nat} {T : TypeId} {v : Value} {xss : List (List Value)} {w : World} {ob : Nat} {cs : Array Value} (h : OwnS w B T sz v xss) (hI : Is w ob 33 cs) (hT : T ≠ 33) (i : Nat) (u : Value) : OwnS (w.setCell ⟨ob, i, none⟩ u) B T sz v xss :=
  OwnS.only h (Only.set (S := fun k => k = ob) (p := ⟨ob, i, none⟩) (Only.refl _ w) (fun _ => rfl) u) (fun k hk e => owned_off h.1 hI hT (by rw [hk, e]))
def rp17_A : List (List Nat) := ([] :: [0] :: [] :: [] :: [2, 3] :: [4, 2, 3] :: [5, 4, 2, 3] :: [] :: [] :: [7, 8, 4, 2, 3] :: [9, 7, 8, 4, 2, 3] :: [10, 9, 7, 8, 4, 2, 3] :: (6 :: 11 :: 5 :: 4 :: 2 :: 3 :: 10 :: 9 :: 7 :: 8 :: []) :: (12 :: 6 :: 11 :: 5 :: 4 :: 2 :: 3 :: 10 :: 9 :: 7 :: 8 :: []) :: (1 :: 13 :: 9 :: 0 :: 12 :: 6 :: 11 :: 5 :: 4 :: 2 :: 3 :: 10 :: 7 :: 8 :: []) :: (0 :: 1 :: 2 :: 3 :: 4 :: 5 :: 6 :: 7 :: 8 :: 9 :: 10 :: 11 :: 12 :: 13 :: 14 :: []) :: (15 :: 14 :: 0 :: 1 :: 2 :: 3 :: 4 :: 5 :: 6 :: 7 :: 8 :: 9 :: 10 :: 11 :: 12 :: 13 :: []) :: [])
def rp17_kill : List (List Nat) := ([] :: [] :: [] :: [] :: [] :: [] :: [] :: [] :: [] :: [] :: [] :: [] :: [] :: [] :: [13, 17] :: [] :: [13, 14, 17] :: [])
def rp17_uses : List (List Nat) := ([] :: [] :: [] :: [] :: [] :: [] :: [] :: [] :: [] :: [] :: [] :: [] :: [] :: [] :: [13, 17] :: [] :: [14] :: [])
noncomputable def rp17_code : Code := ((Try.f22.body.bind (codeRegion 17)).getD .skip)
set_option maxRecDepth 100000 in
set_option maxHeartbeats 4000000 in
theorem rp17_in (cs : Array Value) (q o c0 L i k c x0 ob rb : Nat) (Ao : Option Addr) (xss : List (List Value)) (na nb : Nat) (w0 : World) (hcf : cs[3]? = some (.slice Ao k c)) (hl : xss.length = k) (hk : k ≤ 10000) (hob : w0.heap.size ≤ ob) (hrb : rb ≠ ob) (hx0 : x0 < 4294967296) (hf4 : ∀ wx, Only (fun _ => False) w0 wx → Calls Try.prog 54 #[.slice (some ⟨q, o, none⟩) L c0, .int .i64 (i : Nat)] wx fun e w' => e = .returned (.int .u32 (x0 : Nat)) ∧ wx = w') (hna : x0 / 65536 = na) (hnb : x0 % 65536 = nb) (u0 u1 u2 u3 u6 u7 u9 u10 u11 u12 u13 u14 u15 u16 u17 u18 u19 u20 u21 u22 u23 u24 u25 u26 u27 u28 u29 u30 u31 u32 u33 u34 u35 u36 u37 u38 u39 u40 u41 u42 u43 u44 u45 u46 u47 u48 u49 u50 u51 u52 u53 u54 u55 u56 u57 u58 u59 u60 u61 u62 u63 u64 u65 u66 u67 u68 u69 u70 u71 u72 u73 u74 u75 u76 u77 u78 u79 u80 u81 u82 u83 u84 u85 u86 u87 u88 u89 u90 u91 u92 u93 u94 u95 u96 u97 u98 u99 u100 u101 u102 u103 u104 u105 u106 u107 u108 u109 u110 u111 u112 u113 u114 u115 u116 u117 u118 u119 u120 u121 u122 u123 u124 u125 u126 u127 u128 u129 u130 u131 u132 u133 u134 u135 u136 u137 u138 u139 u140 u141 u142 u143 u144 u145 u146 u147 u148 u149 u150 u151 u152 u153 u154 u155 : Value) (w : World) (hG : Ro cs ob rb w0 w) (hown : OwnS w w0.heap.size 83 2 (.slice Ao k c) xss) :
    Code.wp Try.prog rp17_code (fun e a w' => ∃ y56 y57 y58 y59 y60 y61 y62 y63 y64 y65 y66 y67 y68 y69 y70 y71 : Value, a = ⟨(List.toArray (u0 :: u1 :: u2 :: u3 :: .slice (some ⟨q, o, none⟩) L c0 :: .pointer (some ⟨ob, 0, none⟩) :: u6 :: u7 :: .int .i64 (i : Nat) :: u9 :: u10 :: u11 :: u12 :: u13 :: u14 :: u15 :: u16 :: u17 :: u18 :: u19 :: u20 :: u21 :: u22 :: u23 :: u24 :: u25 :: u26 :: u27 :: u28 :: u29 :: u30 :: u31 :: u32 :: u33 :: u34 :: u35 :: u36 :: u37 :: u38 :: u39 :: u40 :: u41 :: u42 :: u43 :: u44 :: u45 :: u46 :: u47 :: u48 :: u49 :: u50 :: u51 :: u52 :: u53 :: u54 :: u55 :: y56 :: y57 :: y58 :: y59 :: y60 :: y61 :: y62 :: y63 :: y64 :: y65 :: y66 :: y67 :: y68 :: y69 :: y70 :: y71 :: u72 :: u73 :: u74 :: u75 :: u76 :: u77 :: u78 :: u79 :: u80 :: u81 :: u82 :: u83 :: u84 :: u85 :: u86 :: u87 :: u88 :: u89 :: u90 :: u91 :: u92 :: u93 :: u94 :: u95 :: u96 :: u97 :: u98 :: u99 :: u100 :: u101 :: u102 :: u103 :: u104 :: u105 :: u106 :: u107 :: u108 :: u109 :: u110 :: u111 :: u112 :: u113 :: u114 :: u115 :: u116 :: u117 :: u118 :: u119 :: u120 :: u121 :: u122 :: u123 :: u124 :: u125 :: u126 :: u127 :: u128 :: u129 :: u130 :: u131 :: u132 :: u133 :: u134 :: u135 :: u136 :: u137 :: u138 :: u139 :: u140 :: u141 :: u142 :: u143 :: u144 :: u145 :: u146 :: u147 :: u148 :: u149 :: u150 :: u151 :: u152 :: u153 :: u154 :: u155 :: [])), []⟩ ∧ e = .normal ∧ (∃ A' c', Ro (cs.setIfInBounds 3 (.slice A' (k + 1) c')) ob rb w0 w' ∧ OwnS w' w0.heap.size 83 2 (.slice A' (k + 1) c') (xss ++ [[Value.int .u16 (na : Nat), Value.int .u16 (nb : Nat)]]))) ⟨(List.toArray (u0 :: u1 :: u2 :: u3 :: .slice (some ⟨q, o, none⟩) L c0 :: .pointer (some ⟨ob, 0, none⟩) :: u6 :: u7 :: .int .i64 (i : Nat) :: u9 :: u10 :: u11 :: u12 :: u13 :: u14 :: u15 :: u16 :: u17 :: u18 :: u19 :: u20 :: u21 :: u22 :: u23 :: u24 :: u25 :: u26 :: u27 :: u28 :: u29 :: u30 :: u31 :: u32 :: u33 :: u34 :: u35 :: u36 :: u37 :: u38 :: u39 :: u40 :: u41 :: u42 :: u43 :: u44 :: u45 :: u46 :: u47 :: u48 :: u49 :: u50 :: u51 :: u52 :: u53 :: u54 :: u55 :: u56 :: u57 :: u58 :: u59 :: u60 :: u61 :: u62 :: u63 :: u64 :: u65 :: u66 :: u67 :: u68 :: u69 :: u70 :: u71 :: u72 :: u73 :: u74 :: u75 :: u76 :: u77 :: u78 :: u79 :: u80 :: u81 :: u82 :: u83 :: u84 :: u85 :: u86 :: u87 :: u88 :: u89 :: u90 :: u91 :: u92 :: u93 :: u94 :: u95 :: u96 :: u97 :: u98 :: u99 :: u100 :: u101 :: u102 :: u103 :: u104 :: u105 :: u106 :: u107 :: u108 :: u109 :: u110 :: u111 :: u112 :: u113 :: u114 :: u115 :: u116 :: u117 :: u118 :: u119 :: u120 :: u121 :: u122 :: u123 :: u124 :: u125 :: u126 :: u127 :: u128 :: u129 :: u130 :: u131 :: u132 :: u133 :: u134 :: u135 :: u136 :: u137 :: u138 :: u139 :: u140 :: u141 :: u142 :: u143 :: u144 :: u145 :: u146 :: u147 :: u148 :: u149 :: u150 :: u151 :: u152 :: u153 :: u154 :: u155 :: [])), []⟩ w := by
  conv => arg 2; whnf
  have HF4 := Lib.hid hf4
  have HCF := Lib.hid hcf
  clear hf4 hcf
  have e1 : (x0 : Int) / 65536 = (na : Int) := by omega
  have e2 : (x0 : Int) % 65536 = (nb : Int) := by omega
  have e1t : (x0 : Int).tdiv 65536 = (na : Int) := by rw [Int.tdiv_eq_ediv_of_nonneg (by omega)]; exact e1
  have e2t : (x0 : Int).tmod 65536 = (nb : Int) := by rw [Int.tmod_eq_emod_of_nonneg (by omega)]; exact e2
  have e5 : IntKind.u32.wrap (na : Int) = (na : Int) := by rw [IntKind.wrap_u32]; omega
  have e6 : IntKind.u32.wrap (nb : Int) = (nb : Int) := by rw [IntKind.wrap_u32]; omega
  have e3 : IntKind.u16.wrap (na : Int) = (na : Int) := by rw [IntKind.wrap_u16]; omega
  have e4 : IntKind.u16.wrap (nb : Int) = (nb : Int) := by rw [IntKind.wrap_u16]; omega
  clear hna hnb
  refine wp_region_posts rp17_A [13, 14, 16] [13, 14, 16, 17] rp17_kill rp17_uses [16] [16] [] [17]
      (some ?v0 :: some ?v1 :: some ?v2 :: some ?v3 :: some (.int .u32 (x0 : Nat)) :: some ?v5 :: some ?v6 :: some ?v7 :: some ?v8 :: some (.int .u32 (x0 : Nat)) :: some ?v10 :: some ?v11 :: some ?v12 :: none :: none :: some ?v15 :: none :: [])
      ?T (fun wx => Ro cs ob rb w0 wx) ?W ?E (by kernel_rfl) (by kernel_rfl) (by kernel_rfl) (fun x => ?hT) ?hF ?hini (Reg.all_ops ?runs) ?pres ?fin
  case W => exact fun j x w' => match j with | 13 => ∃ g, x 13 = .slice (some ⟨g, 0, none⟩) 1 1 ∧ Is w' g 83 [Value.int .u16 (na : Nat), Value.int .u16 (nb : Nat)].toArray | 14 => ∃ A' c', x 14 = .slice A' (k + 1) c' ∧ OwnS w' w0.heap.size 83 2 (.slice A' (k + 1) c') (xss ++ [[Value.int .u16 (na : Nat), Value.int .u16 (nb : Nat)]]) | 16 => ∃ A' c', Ro (cs.setIfInBounds 3 (.slice A' (k + 1) c')) ob rb w0 w' ∧ OwnS w' w0.heap.size 83 2 (.slice A' (k + 1) c') (xss ++ [[Value.int .u16 (na : Nat), Value.int .u16 (nb : Nat)]]) | 17 => OwnS w' w0.heap.size 83 2 (.slice Ao k c) xss | _ => True
  case E => exact fun i w' w'' => match i with | 13 => Only (fun _ => False) w' w'' | _ => True
  case hT =>
    simp only [Reg.fillV, Act.put, List.setIfInBounds_toArray, List.set_cons_zero, List.set_cons_succ]
    rfl
  case runs =>
    refine And.intro ?_ ?_
    · refine Reg.ob_pure (fun _ => rfl) rfl rfl rfl rfl (fun x w1 hF => ?_)
      have cf : w1.cell? ⟨ob, 3, none⟩ = some (.slice Ao k c) := (hF.io.cell 3).trans HCF.out
      go_simp
      with_reducible rfl
    refine And.intro ?_ ?_
    · refine Reg.ob_pure (fun _ => rfl) rfl rfl rfl rfl (fun x w1 hF => ?_)
      have cf : w1.cell? ⟨ob, 3, none⟩ = some (.slice Ao k c) := (hF.io.cell 3).trans HCF.out
      go_simp
      with_reducible rfl
    refine And.intro ?_ ?_
    · refine Reg.ob_pure (fun _ => rfl) rfl rfl rfl rfl (fun x w1 hF => ?_)
      have cf : w1.cell? ⟨ob, 3, none⟩ = some (.slice Ao k c) := (hF.io.cell 3).trans HCF.out
      go_simp
      with_reducible rfl
    refine And.intro ?_ ?_
    · refine Reg.ob_pure (fun _ => rfl) rfl rfl rfl rfl (fun x w1 hF => ?_)
      have cf : w1.cell? ⟨ob, 3, none⟩ = some (.slice Ao k c) := (hF.io.cell 3).trans HCF.out
      go_simp
      with_reducible rfl
    refine And.intro ?_ ?_
    · refine Reg.ob_known (fun _ => rfl) rfl rfl (fun x w1 hF hU K hK => ?_)
      replace hF := hF rfl
      go_simp
      refine (HF4.out w1 hF.pure).mono ?_
      rintro e w5 ⟨rfl, rfl⟩
      exact hK _ (fun _ _ _ => hF) rfl
    refine And.intro ?_ ?_
    · refine Reg.ob_pure (fun _ => rfl) rfl rfl rfl rfl (fun x w1 hF => ?_)
      have cf : w1.cell? ⟨ob, 3, none⟩ = some (.slice Ao k c) := (hF.io.cell 3).trans HCF.out
      go_simp
      with_reducible rfl
    refine And.intro ?_ ?_
    · refine Reg.ob_pure (fun _ => rfl) rfl rfl rfl rfl (fun x w1 hF => ?_)
      have cf : w1.cell? ⟨ob, 3, none⟩ = some (.slice Ao k c) := (hF.io.cell 3).trans HCF.out
      go_simp
      with_reducible rfl
    refine And.intro ?_ ?_
    · refine Reg.ob_pure (fun _ => rfl) rfl rfl rfl rfl (fun x w1 hF => ?_)
      have cf : w1.cell? ⟨ob, 3, none⟩ = some (.slice Ao k c) := (hF.io.cell 3).trans HCF.out
      go_simp
      with_reducible rfl
    refine And.intro ?_ ?_
    · refine Reg.ob_pure (fun _ => rfl) rfl rfl rfl rfl (fun x w1 hF => ?_)
      have cf : w1.cell? ⟨ob, 3, none⟩ = some (.slice Ao k c) := (hF.io.cell 3).trans HCF.out
      go_simp
      with_reducible rfl
    refine And.intro ?_ ?_
    · refine Reg.ob_known (fun _ => rfl) rfl rfl (fun x w1 hF hU K hK => ?_)
      replace hF := hF rfl
      go_simp
      refine (HF4.out w1 hF.pure).mono ?_
      rintro e w5 ⟨rfl, rfl⟩
      exact hK _ (fun _ _ _ => hF) rfl
    refine And.intro ?_ ?_
    · refine Reg.ob_pure (fun _ => rfl) rfl rfl rfl rfl (fun x w1 hF => ?_)
      have cf : w1.cell? ⟨ob, 3, none⟩ = some (.slice Ao k c) := (hF.io.cell 3).trans HCF.out
      go_simp
      with_reducible rfl
    refine And.intro ?_ ?_
    · refine Reg.ob_pure (fun _ => rfl) rfl rfl rfl rfl (fun x w1 hF => ?_)
      have cf : w1.cell? ⟨ob, 3, none⟩ = some (.slice Ao k c) := (hF.io.cell 3).trans HCF.out
      go_simp
      with_reducible rfl
    refine And.intro ?_ ?_
    · refine Reg.ob_pure (fun _ => rfl) rfl rfl rfl rfl (fun x w1 hF => ?_)
      have cf : w1.cell? ⟨ob, 3, none⟩ = some (.slice Ao k c) := (hF.io.cell 3).trans HCF.out
      go_simp
      with_reducible rfl
    refine And.intro ?_ ?_
    · refine Reg.ob_some (fun _ => rfl) rfl (fun x w1 hF hU K hK => ?_)
      replace hF := hF rfl
      go_simp
      exact hK _ _ (fun _ _ _ => hF.go ((Only.refl _ _).alloc _)) ((Only.refl _ _).alloc _) ⟨_, rfl, Is.made _ _ _⟩
    refine And.intro ?_ ?_
    · refine Reg.ob_some (fun _ => rfl) rfl (fun x w1 hF hU K hK => ?_)
      replace hF := hF rfl
      obtain ⟨⟨g, hx, hI⟩, hO, -⟩ := hU
      have hx : x 13 = .slice (some ⟨g, 0, none⟩) 1 1 := hx
      have hO : OwnS w1 w0.heap.size 83 2 (.slice Ao k c) xss := hO
      refine append_run w1 _ _ sty_rp rfl w0.heap.size (.slice Ao k c) xss rfl hO g [Value.int .u16 (na : Nat), Value.int .u16 (nb : Nat)] (by simpa [Act.eval] using hx) hI rfl (by simp [Value.oneCell']) (by omega) (by decide) hF.pure.size ?_
      intro v' w' hown ho
      obtain ⟨A', c', rfl, -⟩ := OwnS.slice hown
      have e : (xss ++ [[Value.int .u16 (na : Nat), Value.int .u16 (nb : Nat)]]).length = k + 1 := by rw [List.length_append, hl]; rfl
      rw [e] at hown
      rw [e]
      exact hK _ w' (fun _ _ _ => hF.far hO.1 (by decide) ho) trivial ⟨A', c', rfl, hown⟩
    refine And.intro ?_ ?_
    · refine Reg.ob_pure (fun _ => rfl) rfl rfl rfl rfl (fun x w1 hF => ?_)
      have cf : w1.cell? ⟨ob, 3, none⟩ = some (.slice Ao k c) := (hF.io.cell 3).trans HCF.out
      go_simp
      with_reducible rfl
    refine And.intro ?_ ?_
    · refine Reg.ob_some (fun _ => rfl) rfl (fun x w1 hF hU K hK => ?_)
      replace hF := hF rfl
      obtain ⟨⟨A', c', hx, hO⟩, -⟩ := hU
      have hx : x 14 = .slice A' (k + 1) c' := hx
      have ff := hF.io.free 3
      have cf : w1.cell? ⟨ob, 3, none⟩ = some (.slice Ao k c) := (hF.io.cell 3).trans HCF.out
      revert hK
      simp only [Nat.reduceAdd, hx]
      intro hK
      go_simp
      exact hK undef _ (fun _ h _ => by cases h) trivial ⟨A', c', hF.put hrb hob 3 _, hO.stored hF.io (by decide) 3 _⟩
    exact trivial
  case hF =>
    exact hG.go ((Only.refl _ _).drewN 1)
  case hini =>
    exact ⟨fun x => OwnS.only hown ((Only.refl (fun _ => False) w).drewN 1) (by simp), trivial⟩
  case pres =>
    intro i hi j hj hc x wx wy hF hE hW
    simp only [List.mem_cons, List.mem_nil_iff, or_false] at hi hj
    rcases hi with rfl | rfl | rfl <;> rcases hj with rfl | rfl | rfl | rfl
    all_goals first
      | (exfalso; revert hc; decide)
      | (obtain ⟨g, h1, h3⟩ := hW; exact ⟨g, h1, h3.only hE (by simp)⟩)
      | (obtain ⟨A', c', h1, h2⟩ := hW; exact ⟨A', c', h1, OwnS.only h2 hE (by simp)⟩)
      | exact OwnS.only hW hE (by simp)
  case fin =>
    rintro x w9 hF hU
    obtain ⟨hQ, -⟩ := hU
    repeat apply Exists.intro
    exact ⟨rfl, rfl, hQ⟩

set_option maxRecDepth 100000 in
set_option maxHeartbeats 4000000 in
theorem rp17 (cs : Array Value) (q o c0 L i k c x0 ob rb : Nat) (Ao : Option Addr) (xss : List (List Value)) (na nb : Nat) (w0 : World) (hcf : cs[3]? = some (.slice Ao k c)) (hl : xss.length = k) (hk : k ≤ 10000) (hob : w0.heap.size ≤ ob) (hrb : rb ≠ ob) (hx0 : x0 < 4294967296) (hf4 : ∀ wx, Only (fun _ => False) w0 wx → Calls Try.prog 54 #[.slice (some ⟨q, o, none⟩) L c0, .int .i64 (i : Nat)] wx fun e w' => e = .returned (.int .u32 (x0 : Nat)) ∧ wx = w') (hna : x0 / 65536 = na) (hnb : x0 % 65536 = nb) (u0 u1 u2 u3 u6 u7 u9 u10 u11 u12 u13 u14 u15 u16 u17 u18 u19 u20 u21 u22 u23 u24 u25 u26 u27 u28 u29 u30 u31 u32 u33 u34 u35 u36 u37 u38 u39 u40 u41 u42 u43 u44 u45 u46 u47 u48 u49 u50 u51 u52 u53 u54 u55 u56 u57 u58 u59 u60 u61 u62 u63 u64 u65 u66 u67 u68 u69 u70 u71 u72 u73 u74 u75 u76 u77 u78 u79 u80 u81 u82 u83 u84 u85 u86 u87 u88 u89 u90 u91 u92 u93 u94 u95 u96 u97 u98 u99 u100 u101 u102 u103 u104 u105 u106 u107 u108 u109 u110 u111 u112 u113 u114 u115 u116 u117 u118 u119 u120 u121 u122 u123 u124 u125 u126 u127 u128 u129 u130 u131 u132 u133 u134 u135 u136 u137 u138 u139 u140 u141 u142 u143 u144 u145 u146 u147 u148 u149 u150 u151 u152 u153 u154 u155 : Value) (Q : Exit → Act → World → Prop) (w : World) (hG : Ro cs ob rb w0 w) (hown : OwnS w w0.heap.size 83 2 (.slice Ao k c) xss)
    (hend : ∀ (y56 y57 y58 y59 y60 y61 y62 y63 y64 y65 y66 y67 y68 y69 y70 y71 : Value) (w' : World), (∃ A' c', Ro (cs.setIfInBounds 3 (.slice A' (k + 1) c')) ob rb w0 w' ∧ OwnS w' w0.heap.size 83 2 (.slice A' (k + 1) c') (xss ++ [[Value.int .u16 (na : Nat), Value.int .u16 (nb : Nat)]])) → Q .normal ⟨(List.toArray (u0 :: u1 :: u2 :: u3 :: .slice (some ⟨q, o, none⟩) L c0 :: .pointer (some ⟨ob, 0, none⟩) :: u6 :: u7 :: .int .i64 (i : Nat) :: u9 :: u10 :: u11 :: u12 :: u13 :: u14 :: u15 :: u16 :: u17 :: u18 :: u19 :: u20 :: u21 :: u22 :: u23 :: u24 :: u25 :: u26 :: u27 :: u28 :: u29 :: u30 :: u31 :: u32 :: u33 :: u34 :: u35 :: u36 :: u37 :: u38 :: u39 :: u40 :: u41 :: u42 :: u43 :: u44 :: u45 :: u46 :: u47 :: u48 :: u49 :: u50 :: u51 :: u52 :: u53 :: u54 :: u55 :: y56 :: y57 :: y58 :: y59 :: y60 :: y61 :: y62 :: y63 :: y64 :: y65 :: y66 :: y67 :: y68 :: y69 :: y70 :: y71 :: u72 :: u73 :: u74 :: u75 :: u76 :: u77 :: u78 :: u79 :: u80 :: u81 :: u82 :: u83 :: u84 :: u85 :: u86 :: u87 :: u88 :: u89 :: u90 :: u91 :: u92 :: u93 :: u94 :: u95 :: u96 :: u97 :: u98 :: u99 :: u100 :: u101 :: u102 :: u103 :: u104 :: u105 :: u106 :: u107 :: u108 :: u109 :: u110 :: u111 :: u112 :: u113 :: u114 :: u115 :: u116 :: u117 :: u118 :: u119 :: u120 :: u121 :: u122 :: u123 :: u124 :: u125 :: u126 :: u127 :: u128 :: u129 :: u130 :: u131 :: u132 :: u133 :: u134 :: u135 :: u136 :: u137 :: u138 :: u139 :: u140 :: u141 :: u142 :: u143 :: u144 :: u145 :: u146 :: u147 :: u148 :: u149 :: u150 :: u151 :: u152 :: u153 :: u154 :: u155 :: [])), []⟩ w') :
    Code.wp Try.prog rp17_code Q ⟨(List.toArray (u0 :: u1 :: u2 :: u3 :: .slice (some ⟨q, o, none⟩) L c0 :: .pointer (some ⟨ob, 0, none⟩) :: u6 :: u7 :: .int .i64 (i : Nat) :: u9 :: u10 :: u11 :: u12 :: u13 :: u14 :: u15 :: u16 :: u17 :: u18 :: u19 :: u20 :: u21 :: u22 :: u23 :: u24 :: u25 :: u26 :: u27 :: u28 :: u29 :: u30 :: u31 :: u32 :: u33 :: u34 :: u35 :: u36 :: u37 :: u38 :: u39 :: u40 :: u41 :: u42 :: u43 :: u44 :: u45 :: u46 :: u47 :: u48 :: u49 :: u50 :: u51 :: u52 :: u53 :: u54 :: u55 :: u56 :: u57 :: u58 :: u59 :: u60 :: u61 :: u62 :: u63 :: u64 :: u65 :: u66 :: u67 :: u68 :: u69 :: u70 :: u71 :: u72 :: u73 :: u74 :: u75 :: u76 :: u77 :: u78 :: u79 :: u80 :: u81 :: u82 :: u83 :: u84 :: u85 :: u86 :: u87 :: u88 :: u89 :: u90 :: u91 :: u92 :: u93 :: u94 :: u95 :: u96 :: u97 :: u98 :: u99 :: u100 :: u101 :: u102 :: u103 :: u104 :: u105 :: u106 :: u107 :: u108 :: u109 :: u110 :: u111 :: u112 :: u113 :: u114 :: u115 :: u116 :: u117 :: u118 :: u119 :: u120 :: u121 :: u122 :: u123 :: u124 :: u125 :: u126 :: u127 :: u128 :: u129 :: u130 :: u131 :: u132 :: u133 :: u134 :: u135 :: u136 :: u137 :: u138 :: u139 :: u140 :: u141 :: u142 :: u143 :: u144 :: u145 :: u146 :: u147 :: u148 :: u149 :: u150 :: u151 :: u152 :: u153 :: u154 :: u155 :: [])), []⟩ w := by
  refine wp_mono (rp17_in cs q o c0 L i k c x0 ob rb Ao xss na nb w0 hcf hl hk hob hrb hx0 hf4 hna hnb _ _ _ _ _ _ _ _ _ _ _ _ _ _ _ _ _ _ _ _ _ _ _ _ _ _ _ _ _ _ _ _ _ _ _ _ _ _ _ _ _ _ _ _ _ _ _ _ _ _ _ _ _ _ _ _ _ _ _ _ _ _ _ _ _ _ _ _ _ _ _ _ _ _ _ _ _ _ _ _ _ _ _ _ _ _ _ _ _ _ _ _ _ _ _ _ _ _ _ _ _ _ _ _ _ _ _ _ _ _ _ _ _ _ _ _ _ _ _ _ _ _ _ _ _ _ _ _ _ _ _ _ _ _ _ _ _ _ _ _ _ _ _ _ _ _ _ _ _ _ _ _ _ w hG hown) ?_
  rintro e a w' h
  obtain ⟨y56, h⟩ := h
  obtain ⟨y57, h⟩ := h
  obtain ⟨y58, h⟩ := h
  obtain ⟨y59, h⟩ := h
  obtain ⟨y60, h⟩ := h
  obtain ⟨y61, h⟩ := h
  obtain ⟨y62, h⟩ := h
  obtain ⟨y63, h⟩ := h
  obtain ⟨y64, h⟩ := h
  obtain ⟨y65, h⟩ := h
  obtain ⟨y66, h⟩ := h
  obtain ⟨y67, h⟩ := h
  obtain ⟨y68, h⟩ := h
  obtain ⟨y69, h⟩ := h
  obtain ⟨y70, h⟩ := h
  obtain ⟨y71, h⟩ := h
  obtain ⟨h, rfl, hq⟩ := h
  subst h
  exact hend y56 y57 y58 y59 y60 y61 y62 y63 y64 y65 y66 y67 y68 y69 y70 y71 w' hq
def rp23_A : List (List Nat) := ([] :: [0] :: [] :: [] :: [2, 3] :: [] :: [] :: [6] :: [5, 7, 6] :: [8, 5, 7, 6] :: (4 :: 9 :: 2 :: 3 :: 8 :: 5 :: 7 :: 6 :: []) :: (10 :: 4 :: 9 :: 2 :: 3 :: 8 :: 5 :: 7 :: 6 :: []) :: (1 :: 11 :: 4 :: 0 :: 10 :: 9 :: 2 :: 3 :: 8 :: 5 :: 7 :: 6 :: []) :: (0 :: 1 :: 2 :: 3 :: 4 :: 5 :: 6 :: 7 :: 8 :: 9 :: 10 :: 11 :: 12 :: []) :: (13 :: 12 :: 0 :: 1 :: 2 :: 3 :: 4 :: 5 :: 6 :: 7 :: 8 :: 9 :: 10 :: 11 :: []) :: [])
def rp23_kill : List (List Nat) := ([] :: [] :: [] :: [] :: [] :: [] :: [] :: [] :: [] :: [] :: [] :: [] :: [11, 15] :: [] :: [11, 12, 15] :: [])
def rp23_uses : List (List Nat) := ([] :: [] :: [] :: [] :: [] :: [] :: [] :: [] :: [] :: [] :: [] :: [] :: [11, 15] :: [] :: [12] :: [])
noncomputable def rp23_code : Code := ((Try.f22.body.bind (codeRegion 23)).getD .skip)
set_option maxRecDepth 100000 in
set_option maxHeartbeats 4000000 in
theorem rp23_in (cs : Array Value) (q o c0 L i k c x0 ob rb : Nat) (Ao : Option Addr) (xss : List (List Value)) (no : Nat) (w0 : World) (hcf : cs[4]? = some (.slice Ao k c)) (hl : xss.length = k) (hk : k ≤ 10000) (hob : w0.heap.size ≤ ob) (hrb : rb ≠ ob) (hx0 : x0 < 4294967296) (hf4 : ∀ wx, Only (fun _ => False) w0 wx → Calls Try.prog 54 #[.slice (some ⟨q, o, none⟩) L c0, .int .i64 (i : Nat)] wx fun e w' => e = .returned (.int .u32 (x0 : Nat)) ∧ wx = w') (hno : w0.cell? ⟨q, o + (i + 4), none⟩ = some (.int .u8 (no : Nat))) (hqw : q < w0.heap.size) (hiL : i + 4 < L) (hL : L ≤ 100000) (u0 u1 u2 u3 u6 u7 u8 u10 u11 u12 u13 u14 u15 u16 u17 u18 u19 u20 u21 u22 u23 u24 u25 u26 u27 u28 u29 u30 u31 u32 u33 u34 u35 u36 u37 u38 u39 u40 u41 u42 u43 u44 u45 u46 u47 u48 u49 u50 u51 u52 u53 u54 u55 u56 u57 u58 u59 u60 u61 u62 u63 u64 u65 u66 u67 u68 u69 u70 u71 u72 u73 u74 u75 u76 u77 u78 u79 u80 u81 u82 u83 u84 u85 u86 u87 u88 u89 u90 u91 u92 u93 u94 u95 u96 u97 u98 u99 u100 u101 u102 u103 u104 u105 u106 u107 u108 u109 u110 u111 u112 u113 u114 u115 u116 u117 u118 u119 u120 u121 u122 u123 u124 u125 u126 u127 u128 u129 u130 u131 u132 u133 u134 u135 u136 u137 u138 u139 u140 u141 u142 u143 u144 u145 u146 u147 u148 u149 u150 u151 u152 u153 u154 u155 : Value) (w : World) (hG : Ro cs ob rb w0 w) (hown : OwnS w w0.heap.size 86 2 (.slice Ao k c) xss) :
    Code.wp Try.prog rp23_code (fun e a w' => ∃ y90 y91 y92 y93 y94 y95 y96 y97 y98 y99 y100 y101 y102 y103 : Value, a = ⟨(List.toArray (u0 :: u1 :: u2 :: u3 :: .slice (some ⟨q, o, none⟩) L c0 :: .pointer (some ⟨ob, 0, none⟩) :: u6 :: u7 :: u8 :: .int .i64 (i : Nat) :: u10 :: u11 :: u12 :: u13 :: u14 :: u15 :: u16 :: u17 :: u18 :: u19 :: u20 :: u21 :: u22 :: u23 :: u24 :: u25 :: u26 :: u27 :: u28 :: u29 :: u30 :: u31 :: u32 :: u33 :: u34 :: u35 :: u36 :: u37 :: u38 :: u39 :: u40 :: u41 :: u42 :: u43 :: u44 :: u45 :: u46 :: u47 :: u48 :: u49 :: u50 :: u51 :: u52 :: u53 :: u54 :: u55 :: u56 :: u57 :: u58 :: u59 :: u60 :: u61 :: u62 :: u63 :: u64 :: u65 :: u66 :: u67 :: u68 :: u69 :: u70 :: u71 :: u72 :: u73 :: u74 :: u75 :: u76 :: u77 :: u78 :: u79 :: u80 :: u81 :: u82 :: u83 :: u84 :: u85 :: u86 :: u87 :: u88 :: u89 :: y90 :: y91 :: y92 :: y93 :: y94 :: y95 :: y96 :: y97 :: y98 :: y99 :: y100 :: y101 :: y102 :: y103 :: u104 :: u105 :: u106 :: u107 :: u108 :: u109 :: u110 :: u111 :: u112 :: u113 :: u114 :: u115 :: u116 :: u117 :: u118 :: u119 :: u120 :: u121 :: u122 :: u123 :: u124 :: u125 :: u126 :: u127 :: u128 :: u129 :: u130 :: u131 :: u132 :: u133 :: u134 :: u135 :: u136 :: u137 :: u138 :: u139 :: u140 :: u141 :: u142 :: u143 :: u144 :: u145 :: u146 :: u147 :: u148 :: u149 :: u150 :: u151 :: u152 :: u153 :: u154 :: u155 :: [])), []⟩ ∧ e = .normal ∧ (∃ A' c', Ro (cs.setIfInBounds 4 (.slice A' (k + 1) c')) ob rb w0 w' ∧ OwnS w' w0.heap.size 86 2 (.slice A' (k + 1) c') (xss ++ [[Value.int .u32 (x0 : Nat), Value.int .u8 (no : Nat)]]))) ⟨(List.toArray (u0 :: u1 :: u2 :: u3 :: .slice (some ⟨q, o, none⟩) L c0 :: .pointer (some ⟨ob, 0, none⟩) :: u6 :: u7 :: u8 :: .int .i64 (i : Nat) :: u10 :: u11 :: u12 :: u13 :: u14 :: u15 :: u16 :: u17 :: u18 :: u19 :: u20 :: u21 :: u22 :: u23 :: u24 :: u25 :: u26 :: u27 :: u28 :: u29 :: u30 :: u31 :: u32 :: u33 :: u34 :: u35 :: u36 :: u37 :: u38 :: u39 :: u40 :: u41 :: u42 :: u43 :: u44 :: u45 :: u46 :: u47 :: u48 :: u49 :: u50 :: u51 :: u52 :: u53 :: u54 :: u55 :: u56 :: u57 :: u58 :: u59 :: u60 :: u61 :: u62 :: u63 :: u64 :: u65 :: u66 :: u67 :: u68 :: u69 :: u70 :: u71 :: u72 :: u73 :: u74 :: u75 :: u76 :: u77 :: u78 :: u79 :: u80 :: u81 :: u82 :: u83 :: u84 :: u85 :: u86 :: u87 :: u88 :: u89 :: u90 :: u91 :: u92 :: u93 :: u94 :: u95 :: u96 :: u97 :: u98 :: u99 :: u100 :: u101 :: u102 :: u103 :: u104 :: u105 :: u106 :: u107 :: u108 :: u109 :: u110 :: u111 :: u112 :: u113 :: u114 :: u115 :: u116 :: u117 :: u118 :: u119 :: u120 :: u121 :: u122 :: u123 :: u124 :: u125 :: u126 :: u127 :: u128 :: u129 :: u130 :: u131 :: u132 :: u133 :: u134 :: u135 :: u136 :: u137 :: u138 :: u139 :: u140 :: u141 :: u142 :: u143 :: u144 :: u145 :: u146 :: u147 :: u148 :: u149 :: u150 :: u151 :: u152 :: u153 :: u154 :: u155 :: [])), []⟩ w := by
  conv => arg 2; whnf
  have HF4 := Lib.hid hf4
  have HCF := Lib.hid hcf
  clear hf4 hcf
  have HNO := Lib.hid hno
  have hiI : ((i : Int) + 4) < (L : Int) := by omega
  have hi0 : (0 : Int) ≤ (i : Int) + 4 := by omega
  have hit : ((i : Int) + 4).toNat = i + 4 := by omega
  have hi4 : IntKind.i64.wrap ((i : Int) + 4) = ((i + 4 : Nat) : Int) := by rw [IntKind.wrap_i64]; omega
  clear hno
  refine wp_region_posts rp23_A [11, 12, 14] [11, 12, 14, 15] rp23_kill rp23_uses [14] [14] [] [15]
      (some ?v0 :: some ?v1 :: some ?v2 :: some ?v3 :: some (.int .u32 (x0 : Nat)) :: some ?v5 :: some ?v6 :: some ?v7 :: some ?v8 :: some ?v9 :: some ?v10 :: none :: none :: some ?v13 :: none :: [])
      ?T (fun wx => Ro cs ob rb w0 wx) ?W ?E (by kernel_rfl) (by kernel_rfl) (by kernel_rfl) (fun x => ?hT) ?hF ?hini (Reg.all_ops ?runs) ?pres ?fin
  case W => exact fun j x w' => match j with | 11 => ∃ g, x 11 = .slice (some ⟨g, 0, none⟩) 1 1 ∧ Is w' g 86 [Value.int .u32 (x0 : Nat), Value.int .u8 (no : Nat)].toArray | 12 => ∃ A' c', x 12 = .slice A' (k + 1) c' ∧ OwnS w' w0.heap.size 86 2 (.slice A' (k + 1) c') (xss ++ [[Value.int .u32 (x0 : Nat), Value.int .u8 (no : Nat)]]) | 14 => ∃ A' c', Ro (cs.setIfInBounds 4 (.slice A' (k + 1) c')) ob rb w0 w' ∧ OwnS w' w0.heap.size 86 2 (.slice A' (k + 1) c') (xss ++ [[Value.int .u32 (x0 : Nat), Value.int .u8 (no : Nat)]]) | 15 => OwnS w' w0.heap.size 86 2 (.slice Ao k c) xss | _ => True
  case E => exact fun i w' w'' => match i with | 11 => Only (fun _ => False) w' w'' | _ => True
  case hT =>
    simp only [Reg.fillV, Act.put, List.setIfInBounds_toArray, List.set_cons_zero, List.set_cons_succ]
    rfl
  case runs =>
    refine And.intro ?_ ?_
    · refine Reg.ob_pure (fun _ => rfl) rfl rfl rfl rfl (fun x w1 hF => ?_)
      have cf : w1.cell? ⟨ob, 4, none⟩ = some (.slice Ao k c) := (hF.io.cell 4).trans HCF.out
      go_simp
      with_reducible rfl
    refine And.intro ?_ ?_
    · refine Reg.ob_pure (fun _ => rfl) rfl rfl rfl rfl (fun x w1 hF => ?_)
      have cf : w1.cell? ⟨ob, 4, none⟩ = some (.slice Ao k c) := (hF.io.cell 4).trans HCF.out
      go_simp
      with_reducible rfl
    refine And.intro ?_ ?_
    · refine Reg.ob_pure (fun _ => rfl) rfl rfl rfl rfl (fun x w1 hF => ?_)
      have cf : w1.cell? ⟨ob, 4, none⟩ = some (.slice Ao k c) := (hF.io.cell 4).trans HCF.out
      go_simp
      with_reducible rfl
    refine And.intro ?_ ?_
    · refine Reg.ob_pure (fun _ => rfl) rfl rfl rfl rfl (fun x w1 hF => ?_)
      have cf : w1.cell? ⟨ob, 4, none⟩ = some (.slice Ao k c) := (hF.io.cell 4).trans HCF.out
      go_simp
      with_reducible rfl
    refine And.intro ?_ ?_
    · refine Reg.ob_known (fun _ => rfl) rfl rfl (fun x w1 hF hU K hK => ?_)
      replace hF := hF rfl
      go_simp
      refine (HF4.out w1 hF.pure).mono ?_
      rintro e w5 ⟨rfl, rfl⟩
      exact hK _ (fun _ _ _ => hF) rfl
    refine And.intro ?_ ?_
    · refine Reg.ob_pure (fun _ => rfl) rfl rfl rfl rfl (fun x w1 hF => ?_)
      have cf : w1.cell? ⟨ob, 4, none⟩ = some (.slice Ao k c) := (hF.io.cell 4).trans HCF.out
      go_simp
      with_reducible rfl
    refine And.intro ?_ ?_
    · refine Reg.ob_pure (fun _ => rfl) rfl rfl rfl rfl (fun x w1 hF => ?_)
      have cf : w1.cell? ⟨ob, 4, none⟩ = some (.slice Ao k c) := (hF.io.cell 4).trans HCF.out
      go_simp
      with_reducible rfl
    refine And.intro ?_ ?_
    · refine Reg.ob_pure (fun _ => rfl) rfl rfl rfl rfl (fun x w1 hF => ?_)
      have cf : w1.cell? ⟨ob, 4, none⟩ = some (.slice Ao k c) := (hF.io.cell 4).trans HCF.out
      go_simp
      with_reducible rfl
    refine And.intro ?_ ?_
    · refine Reg.ob_pure (fun _ => rfl) rfl rfl rfl rfl (fun x w1 hF => ?_)
      have cf : w1.cell? ⟨ob, 4, none⟩ = some (.slice Ao k c) := (hF.io.cell 4).trans HCF.out
      go_simp
      with_reducible rfl
    refine And.intro ?_ ?_
    · refine Reg.ob_pure (fun _ => rfl) rfl rfl rfl rfl (fun x w1 hF => ?_)
      have cb := (hF.pure.cell (p := ⟨q, o + (i + 4), none⟩) hqw (by simp)).trans HNO.out
      go_simp
      with_reducible rfl
    refine And.intro ?_ ?_
    · refine Reg.ob_pure (fun _ => rfl) rfl rfl rfl rfl (fun x w1 hF => ?_)
      have cf : w1.cell? ⟨ob, 4, none⟩ = some (.slice Ao k c) := (hF.io.cell 4).trans HCF.out
      go_simp
      with_reducible rfl
    refine And.intro ?_ ?_
    · refine Reg.ob_some (fun _ => rfl) rfl (fun x w1 hF hU K hK => ?_)
      replace hF := hF rfl
      go_simp
      exact hK _ _ (fun _ _ _ => hF.go ((Only.refl _ _).alloc _)) ((Only.refl _ _).alloc _) ⟨_, rfl, Is.made _ _ _⟩
    refine And.intro ?_ ?_
    · refine Reg.ob_some (fun _ => rfl) rfl (fun x w1 hF hU K hK => ?_)
      replace hF := hF rfl
      obtain ⟨⟨g, hx, hI⟩, hO, -⟩ := hU
      have hx : x 11 = .slice (some ⟨g, 0, none⟩) 1 1 := hx
      have hO : OwnS w1 w0.heap.size 86 2 (.slice Ao k c) xss := hO
      refine append_run w1 _ _ sty_ro rfl w0.heap.size (.slice Ao k c) xss rfl hO g [Value.int .u32 (x0 : Nat), Value.int .u8 (no : Nat)] (by simpa [Act.eval] using hx) hI rfl (by simp [Value.oneCell']) (by omega) (by decide) hF.pure.size ?_
      intro v' w' hown ho
      obtain ⟨A', c', rfl, -⟩ := OwnS.slice hown
      have e : (xss ++ [[Value.int .u32 (x0 : Nat), Value.int .u8 (no : Nat)]]).length = k + 1 := by rw [List.length_append, hl]; rfl
      rw [e] at hown
      rw [e]
      exact hK _ w' (fun _ _ _ => hF.far hO.1 (by decide) ho) trivial ⟨A', c', rfl, hown⟩
    refine And.intro ?_ ?_
    · refine Reg.ob_pure (fun _ => rfl) rfl rfl rfl rfl (fun x w1 hF => ?_)
      have cf : w1.cell? ⟨ob, 4, none⟩ = some (.slice Ao k c) := (hF.io.cell 4).trans HCF.out
      go_simp
      with_reducible rfl
    refine And.intro ?_ ?_
    · refine Reg.ob_some (fun _ => rfl) rfl (fun x w1 hF hU K hK => ?_)
      replace hF := hF rfl
      obtain ⟨⟨A', c', hx, hO⟩, -⟩ := hU
      have hx : x 12 = .slice A' (k + 1) c' := hx
      have ff := hF.io.free 4
      have cf : w1.cell? ⟨ob, 4, none⟩ = some (.slice Ao k c) := (hF.io.cell 4).trans HCF.out
      revert hK
      simp only [Nat.reduceAdd, hx]
      intro hK
      go_simp
      exact hK undef _ (fun _ h _ => by cases h) trivial ⟨A', c', hF.put hrb hob 4 _, hO.stored hF.io (by decide) 4 _⟩
    exact trivial
  case hF =>
    exact hG.go ((Only.refl _ _).drewN 1)
  case hini =>
    exact ⟨fun x => OwnS.only hown ((Only.refl (fun _ => False) w).drewN 1) (by simp), trivial⟩
  case pres =>
    intro i hi j hj hc x wx wy hF hE hW
    simp only [List.mem_cons, List.mem_nil_iff, or_false] at hi hj
    rcases hi with rfl | rfl | rfl <;> rcases hj with rfl | rfl | rfl | rfl
    all_goals first
      | (exfalso; revert hc; decide)
      | (obtain ⟨g, h1, h3⟩ := hW; exact ⟨g, h1, h3.only hE (by simp)⟩)
      | (obtain ⟨A', c', h1, h2⟩ := hW; exact ⟨A', c', h1, OwnS.only h2 hE (by simp)⟩)
      | exact OwnS.only hW hE (by simp)
  case fin =>
    rintro x w9 hF hU
    obtain ⟨hQ, -⟩ := hU
    repeat apply Exists.intro
    exact ⟨rfl, rfl, hQ⟩

set_option maxRecDepth 100000 in
set_option maxHeartbeats 4000000 in
theorem rp23 (cs : Array Value) (q o c0 L i k c x0 ob rb : Nat) (Ao : Option Addr) (xss : List (List Value)) (no : Nat) (w0 : World) (hcf : cs[4]? = some (.slice Ao k c)) (hl : xss.length = k) (hk : k ≤ 10000) (hob : w0.heap.size ≤ ob) (hrb : rb ≠ ob) (hx0 : x0 < 4294967296) (hf4 : ∀ wx, Only (fun _ => False) w0 wx → Calls Try.prog 54 #[.slice (some ⟨q, o, none⟩) L c0, .int .i64 (i : Nat)] wx fun e w' => e = .returned (.int .u32 (x0 : Nat)) ∧ wx = w') (hno : w0.cell? ⟨q, o + (i + 4), none⟩ = some (.int .u8 (no : Nat))) (hqw : q < w0.heap.size) (hiL : i + 4 < L) (hL : L ≤ 100000) (u0 u1 u2 u3 u6 u7 u8 u10 u11 u12 u13 u14 u15 u16 u17 u18 u19 u20 u21 u22 u23 u24 u25 u26 u27 u28 u29 u30 u31 u32 u33 u34 u35 u36 u37 u38 u39 u40 u41 u42 u43 u44 u45 u46 u47 u48 u49 u50 u51 u52 u53 u54 u55 u56 u57 u58 u59 u60 u61 u62 u63 u64 u65 u66 u67 u68 u69 u70 u71 u72 u73 u74 u75 u76 u77 u78 u79 u80 u81 u82 u83 u84 u85 u86 u87 u88 u89 u90 u91 u92 u93 u94 u95 u96 u97 u98 u99 u100 u101 u102 u103 u104 u105 u106 u107 u108 u109 u110 u111 u112 u113 u114 u115 u116 u117 u118 u119 u120 u121 u122 u123 u124 u125 u126 u127 u128 u129 u130 u131 u132 u133 u134 u135 u136 u137 u138 u139 u140 u141 u142 u143 u144 u145 u146 u147 u148 u149 u150 u151 u152 u153 u154 u155 : Value) (Q : Exit → Act → World → Prop) (w : World) (hG : Ro cs ob rb w0 w) (hown : OwnS w w0.heap.size 86 2 (.slice Ao k c) xss)
    (hend : ∀ (y90 y91 y92 y93 y94 y95 y96 y97 y98 y99 y100 y101 y102 y103 : Value) (w' : World), (∃ A' c', Ro (cs.setIfInBounds 4 (.slice A' (k + 1) c')) ob rb w0 w' ∧ OwnS w' w0.heap.size 86 2 (.slice A' (k + 1) c') (xss ++ [[Value.int .u32 (x0 : Nat), Value.int .u8 (no : Nat)]])) → Q .normal ⟨(List.toArray (u0 :: u1 :: u2 :: u3 :: .slice (some ⟨q, o, none⟩) L c0 :: .pointer (some ⟨ob, 0, none⟩) :: u6 :: u7 :: u8 :: .int .i64 (i : Nat) :: u10 :: u11 :: u12 :: u13 :: u14 :: u15 :: u16 :: u17 :: u18 :: u19 :: u20 :: u21 :: u22 :: u23 :: u24 :: u25 :: u26 :: u27 :: u28 :: u29 :: u30 :: u31 :: u32 :: u33 :: u34 :: u35 :: u36 :: u37 :: u38 :: u39 :: u40 :: u41 :: u42 :: u43 :: u44 :: u45 :: u46 :: u47 :: u48 :: u49 :: u50 :: u51 :: u52 :: u53 :: u54 :: u55 :: u56 :: u57 :: u58 :: u59 :: u60 :: u61 :: u62 :: u63 :: u64 :: u65 :: u66 :: u67 :: u68 :: u69 :: u70 :: u71 :: u72 :: u73 :: u74 :: u75 :: u76 :: u77 :: u78 :: u79 :: u80 :: u81 :: u82 :: u83 :: u84 :: u85 :: u86 :: u87 :: u88 :: u89 :: y90 :: y91 :: y92 :: y93 :: y94 :: y95 :: y96 :: y97 :: y98 :: y99 :: y100 :: y101 :: y102 :: y103 :: u104 :: u105 :: u106 :: u107 :: u108 :: u109 :: u110 :: u111 :: u112 :: u113 :: u114 :: u115 :: u116 :: u117 :: u118 :: u119 :: u120 :: u121 :: u122 :: u123 :: u124 :: u125 :: u126 :: u127 :: u128 :: u129 :: u130 :: u131 :: u132 :: u133 :: u134 :: u135 :: u136 :: u137 :: u138 :: u139 :: u140 :: u141 :: u142 :: u143 :: u144 :: u145 :: u146 :: u147 :: u148 :: u149 :: u150 :: u151 :: u152 :: u153 :: u154 :: u155 :: [])), []⟩ w') :
    Code.wp Try.prog rp23_code Q ⟨(List.toArray (u0 :: u1 :: u2 :: u3 :: .slice (some ⟨q, o, none⟩) L c0 :: .pointer (some ⟨ob, 0, none⟩) :: u6 :: u7 :: u8 :: .int .i64 (i : Nat) :: u10 :: u11 :: u12 :: u13 :: u14 :: u15 :: u16 :: u17 :: u18 :: u19 :: u20 :: u21 :: u22 :: u23 :: u24 :: u25 :: u26 :: u27 :: u28 :: u29 :: u30 :: u31 :: u32 :: u33 :: u34 :: u35 :: u36 :: u37 :: u38 :: u39 :: u40 :: u41 :: u42 :: u43 :: u44 :: u45 :: u46 :: u47 :: u48 :: u49 :: u50 :: u51 :: u52 :: u53 :: u54 :: u55 :: u56 :: u57 :: u58 :: u59 :: u60 :: u61 :: u62 :: u63 :: u64 :: u65 :: u66 :: u67 :: u68 :: u69 :: u70 :: u71 :: u72 :: u73 :: u74 :: u75 :: u76 :: u77 :: u78 :: u79 :: u80 :: u81 :: u82 :: u83 :: u84 :: u85 :: u86 :: u87 :: u88 :: u89 :: u90 :: u91 :: u92 :: u93 :: u94 :: u95 :: u96 :: u97 :: u98 :: u99 :: u100 :: u101 :: u102 :: u103 :: u104 :: u105 :: u106 :: u107 :: u108 :: u109 :: u110 :: u111 :: u112 :: u113 :: u114 :: u115 :: u116 :: u117 :: u118 :: u119 :: u120 :: u121 :: u122 :: u123 :: u124 :: u125 :: u126 :: u127 :: u128 :: u129 :: u130 :: u131 :: u132 :: u133 :: u134 :: u135 :: u136 :: u137 :: u138 :: u139 :: u140 :: u141 :: u142 :: u143 :: u144 :: u145 :: u146 :: u147 :: u148 :: u149 :: u150 :: u151 :: u152 :: u153 :: u154 :: u155 :: [])), []⟩ w := by
  refine wp_mono (rp23_in cs q o c0 L i k c x0 ob rb Ao xss no w0 hcf hl hk hob hrb hx0 hf4 hno hqw hiL hL _ _ _ _ _ _ _ _ _ _ _ _ _ _ _ _ _ _ _ _ _ _ _ _ _ _ _ _ _ _ _ _ _ _ _ _ _ _ _ _ _ _ _ _ _ _ _ _ _ _ _ _ _ _ _ _ _ _ _ _ _ _ _ _ _ _ _ _ _ _ _ _ _ _ _ _ _ _ _ _ _ _ _ _ _ _ _ _ _ _ _ _ _ _ _ _ _ _ _ _ _ _ _ _ _ _ _ _ _ _ _ _ _ _ _ _ _ _ _ _ _ _ _ _ _ _ _ _ _ _ _ _ _ _ _ _ _ _ _ _ _ _ _ _ _ _ _ _ _ _ _ _ _ w hG hown) ?_
  rintro e a w' h
  obtain ⟨y90, h⟩ := h
  obtain ⟨y91, h⟩ := h
  obtain ⟨y92, h⟩ := h
  obtain ⟨y93, h⟩ := h
  obtain ⟨y94, h⟩ := h
  obtain ⟨y95, h⟩ := h
  obtain ⟨y96, h⟩ := h
  obtain ⟨y97, h⟩ := h
  obtain ⟨y98, h⟩ := h
  obtain ⟨y99, h⟩ := h
  obtain ⟨y100, h⟩ := h
  obtain ⟨y101, h⟩ := h
  obtain ⟨y102, h⟩ := h
  obtain ⟨y103, h⟩ := h
  obtain ⟨h, rfl, hq⟩ := h
  subst h
  exact hend y90 y91 y92 y93 y94 y95 y96 y97 y98 y99 y100 y101 y102 y103 w' hq
def rp33_A : List (List Nat) := ([] :: [0] :: [] :: [] :: [2, 3] :: [4, 2, 3] :: [1, 5, 4, 0, 2, 3] :: [0, 1, 2, 3, 4, 5, 6] :: (7 :: 6 :: 0 :: 1 :: 2 :: 3 :: 4 :: 5 :: []) :: [])
def rp33_kill : List (List Nat) := ([] :: [] :: [] :: [] :: [] :: [] :: [5, 9] :: [] :: [5, 6, 9] :: [])
def rp33_uses : List (List Nat) := ([] :: [] :: [] :: [] :: [] :: [] :: [5, 9] :: [] :: [6] :: [])
noncomputable def rp33_code : Code := ((Try.f22.body.bind (codeRegion 33)).getD .skip)
set_option maxRecDepth 100000 in
set_option maxHeartbeats 4000000 in
theorem rp33_in (cs : Array Value) (q o c0 L i k c x0 ob rb : Nat) (Ao : Option Addr) (xss : List (List Value)) (w0 : World) (hcf : cs[7]? = some (.slice Ao k c)) (hl : xss.length = k) (hk : k ≤ 10000) (hob : w0.heap.size ≤ ob) (hrb : rb ≠ ob) (hx0 : x0 < 4294967296) (hf4 : ∀ wx, Only (fun _ => False) w0 wx → Calls Try.prog 54 #[.slice (some ⟨q, o, none⟩) L c0, .int .i64 (i : Nat)] wx fun e w' => e = .returned (.int .u32 (x0 : Nat)) ∧ wx = w')  (u0 u1 u2 u3 u6 u7 u8 u9 u10 u12 u13 u14 u15 u16 u17 u18 u19 u20 u21 u22 u23 u24 u25 u26 u27 u28 u29 u30 u31 u32 u33 u34 u35 u36 u37 u38 u39 u40 u41 u42 u43 u44 u45 u46 u47 u48 u49 u50 u51 u52 u53 u54 u55 u56 u57 u58 u59 u60 u61 u62 u63 u64 u65 u66 u67 u68 u69 u70 u71 u72 u73 u74 u75 u76 u77 u78 u79 u80 u81 u82 u83 u84 u85 u86 u87 u88 u89 u90 u91 u92 u93 u94 u95 u96 u97 u98 u99 u100 u101 u102 u103 u104 u105 u106 u107 u108 u109 u110 u111 u112 u113 u114 u115 u116 u117 u118 u119 u120 u121 u122 u123 u124 u125 u126 u127 u128 u129 u130 u131 u132 u133 u134 u135 u136 u137 u138 u139 u140 u141 u142 u143 u144 u145 u146 u147 u148 u149 u150 u151 u152 u153 u154 u155 : Value) (w : World) (hG : Ro cs ob rb w0 w) (hown : OwnS w w0.heap.size 22 1 (.slice Ao k c) xss) :
    Code.wp Try.prog rp33_code (fun e a w' => ∃ y144 y145 y146 y147 y148 y149 y150 y151 : Value, a = ⟨(List.toArray (u0 :: u1 :: u2 :: u3 :: .slice (some ⟨q, o, none⟩) L c0 :: .pointer (some ⟨ob, 0, none⟩) :: u6 :: u7 :: u8 :: u9 :: u10 :: .int .i64 (i : Nat) :: u12 :: u13 :: u14 :: u15 :: u16 :: u17 :: u18 :: u19 :: u20 :: u21 :: u22 :: u23 :: u24 :: u25 :: u26 :: u27 :: u28 :: u29 :: u30 :: u31 :: u32 :: u33 :: u34 :: u35 :: u36 :: u37 :: u38 :: u39 :: u40 :: u41 :: u42 :: u43 :: u44 :: u45 :: u46 :: u47 :: u48 :: u49 :: u50 :: u51 :: u52 :: u53 :: u54 :: u55 :: u56 :: u57 :: u58 :: u59 :: u60 :: u61 :: u62 :: u63 :: u64 :: u65 :: u66 :: u67 :: u68 :: u69 :: u70 :: u71 :: u72 :: u73 :: u74 :: u75 :: u76 :: u77 :: u78 :: u79 :: u80 :: u81 :: u82 :: u83 :: u84 :: u85 :: u86 :: u87 :: u88 :: u89 :: u90 :: u91 :: u92 :: u93 :: u94 :: u95 :: u96 :: u97 :: u98 :: u99 :: u100 :: u101 :: u102 :: u103 :: u104 :: u105 :: u106 :: u107 :: u108 :: u109 :: u110 :: u111 :: u112 :: u113 :: u114 :: u115 :: u116 :: u117 :: u118 :: u119 :: u120 :: u121 :: u122 :: u123 :: u124 :: u125 :: u126 :: u127 :: u128 :: u129 :: u130 :: u131 :: u132 :: u133 :: u134 :: u135 :: u136 :: u137 :: u138 :: u139 :: u140 :: u141 :: u142 :: u143 :: y144 :: y145 :: y146 :: y147 :: y148 :: y149 :: y150 :: y151 :: u152 :: u153 :: u154 :: u155 :: [])), []⟩ ∧ e = .normal ∧ (∃ A' c', Ro (cs.setIfInBounds 7 (.slice A' (k + 1) c')) ob rb w0 w' ∧ OwnS w' w0.heap.size 22 1 (.slice A' (k + 1) c') (xss ++ [[Value.int .u32 (x0 : Nat)]]))) ⟨(List.toArray (u0 :: u1 :: u2 :: u3 :: .slice (some ⟨q, o, none⟩) L c0 :: .pointer (some ⟨ob, 0, none⟩) :: u6 :: u7 :: u8 :: u9 :: u10 :: .int .i64 (i : Nat) :: u12 :: u13 :: u14 :: u15 :: u16 :: u17 :: u18 :: u19 :: u20 :: u21 :: u22 :: u23 :: u24 :: u25 :: u26 :: u27 :: u28 :: u29 :: u30 :: u31 :: u32 :: u33 :: u34 :: u35 :: u36 :: u37 :: u38 :: u39 :: u40 :: u41 :: u42 :: u43 :: u44 :: u45 :: u46 :: u47 :: u48 :: u49 :: u50 :: u51 :: u52 :: u53 :: u54 :: u55 :: u56 :: u57 :: u58 :: u59 :: u60 :: u61 :: u62 :: u63 :: u64 :: u65 :: u66 :: u67 :: u68 :: u69 :: u70 :: u71 :: u72 :: u73 :: u74 :: u75 :: u76 :: u77 :: u78 :: u79 :: u80 :: u81 :: u82 :: u83 :: u84 :: u85 :: u86 :: u87 :: u88 :: u89 :: u90 :: u91 :: u92 :: u93 :: u94 :: u95 :: u96 :: u97 :: u98 :: u99 :: u100 :: u101 :: u102 :: u103 :: u104 :: u105 :: u106 :: u107 :: u108 :: u109 :: u110 :: u111 :: u112 :: u113 :: u114 :: u115 :: u116 :: u117 :: u118 :: u119 :: u120 :: u121 :: u122 :: u123 :: u124 :: u125 :: u126 :: u127 :: u128 :: u129 :: u130 :: u131 :: u132 :: u133 :: u134 :: u135 :: u136 :: u137 :: u138 :: u139 :: u140 :: u141 :: u142 :: u143 :: u144 :: u145 :: u146 :: u147 :: u148 :: u149 :: u150 :: u151 :: u152 :: u153 :: u154 :: u155 :: [])), []⟩ w := by
  conv => arg 2; whnf
  have HF4 := Lib.hid hf4
  have HCF := Lib.hid hcf
  clear hf4 hcf
  refine wp_region_posts rp33_A [5, 6, 8] [5, 6, 8, 9] rp33_kill rp33_uses [8] [8] [] [9]
      (some ?v0 :: some ?v1 :: some ?v2 :: some ?v3 :: some (.int .u32 (x0 : Nat)) :: none :: none :: some ?v7 :: none :: [])
      ?T (fun wx => Ro cs ob rb w0 wx) ?W ?E (by kernel_rfl) (by kernel_rfl) (by kernel_rfl) (fun x => ?hT) ?hF ?hini (Reg.all_ops ?runs) ?pres ?fin
  case W => exact fun j x w' => match j with | 5 => ∃ g, x 5 = .slice (some ⟨g, 0, none⟩) 1 1 ∧ Is w' g 22 [Value.int .u32 (x0 : Nat)].toArray | 6 => ∃ A' c', x 6 = .slice A' (k + 1) c' ∧ OwnS w' w0.heap.size 22 1 (.slice A' (k + 1) c') (xss ++ [[Value.int .u32 (x0 : Nat)]]) | 8 => ∃ A' c', Ro (cs.setIfInBounds 7 (.slice A' (k + 1) c')) ob rb w0 w' ∧ OwnS w' w0.heap.size 22 1 (.slice A' (k + 1) c') (xss ++ [[Value.int .u32 (x0 : Nat)]]) | 9 => OwnS w' w0.heap.size 22 1 (.slice Ao k c) xss | _ => True
  case E => exact fun i w' w'' => match i with | 5 => Only (fun _ => False) w' w'' | _ => True
  case hT =>
    simp only [Reg.fillV, Act.put, List.setIfInBounds_toArray, List.set_cons_zero, List.set_cons_succ]
    rfl
  case runs =>
    refine And.intro ?_ ?_
    · refine Reg.ob_pure (fun _ => rfl) rfl rfl rfl rfl (fun x w1 hF => ?_)
      have cf : w1.cell? ⟨ob, 7, none⟩ = some (.slice Ao k c) := (hF.io.cell 7).trans HCF.out
      go_simp
      with_reducible rfl
    refine And.intro ?_ ?_
    · refine Reg.ob_pure (fun _ => rfl) rfl rfl rfl rfl (fun x w1 hF => ?_)
      have cf : w1.cell? ⟨ob, 7, none⟩ = some (.slice Ao k c) := (hF.io.cell 7).trans HCF.out
      go_simp
      with_reducible rfl
    refine And.intro ?_ ?_
    · refine Reg.ob_pure (fun _ => rfl) rfl rfl rfl rfl (fun x w1 hF => ?_)
      have cf : w1.cell? ⟨ob, 7, none⟩ = some (.slice Ao k c) := (hF.io.cell 7).trans HCF.out
      go_simp
      with_reducible rfl
    refine And.intro ?_ ?_
    · refine Reg.ob_pure (fun _ => rfl) rfl rfl rfl rfl (fun x w1 hF => ?_)
      have cf : w1.cell? ⟨ob, 7, none⟩ = some (.slice Ao k c) := (hF.io.cell 7).trans HCF.out
      go_simp
      with_reducible rfl
    refine And.intro ?_ ?_
    · refine Reg.ob_known (fun _ => rfl) rfl rfl (fun x w1 hF hU K hK => ?_)
      replace hF := hF rfl
      go_simp
      refine (HF4.out w1 hF.pure).mono ?_
      rintro e w5 ⟨rfl, rfl⟩
      exact hK _ (fun _ _ _ => hF) rfl
    refine And.intro ?_ ?_
    · refine Reg.ob_some (fun _ => rfl) rfl (fun x w1 hF hU K hK => ?_)
      replace hF := hF rfl
      go_simp
      exact hK _ _ (fun _ _ _ => hF.go ((Only.refl _ _).alloc _)) ((Only.refl _ _).alloc _) ⟨_, rfl, Is.made _ _ _⟩
    refine And.intro ?_ ?_
    · refine Reg.ob_some (fun _ => rfl) rfl (fun x w1 hF hU K hK => ?_)
      replace hF := hF rfl
      obtain ⟨⟨g, hx, hI⟩, hO, -⟩ := hU
      have hx : x 5 = .slice (some ⟨g, 0, none⟩) 1 1 := hx
      have hO : OwnS w1 w0.heap.size 22 1 (.slice Ao k c) xss := hO
      refine append_run w1 _ _ sty_u32 rfl w0.heap.size (.slice Ao k c) xss rfl hO g [Value.int .u32 (x0 : Nat)] (by simpa [Act.eval] using hx) hI rfl (by simp [Value.oneCell']) (by omega) (by decide) hF.pure.size ?_
      intro v' w' hown ho
      obtain ⟨A', c', rfl, -⟩ := OwnS.slice hown
      have e : (xss ++ [[Value.int .u32 (x0 : Nat)]]).length = k + 1 := by rw [List.length_append, hl]; rfl
      rw [e] at hown
      rw [e]
      exact hK _ w' (fun _ _ _ => hF.far hO.1 (by decide) ho) trivial ⟨A', c', rfl, hown⟩
    refine And.intro ?_ ?_
    · refine Reg.ob_pure (fun _ => rfl) rfl rfl rfl rfl (fun x w1 hF => ?_)
      have cf : w1.cell? ⟨ob, 7, none⟩ = some (.slice Ao k c) := (hF.io.cell 7).trans HCF.out
      go_simp
      with_reducible rfl
    refine And.intro ?_ ?_
    · refine Reg.ob_some (fun _ => rfl) rfl (fun x w1 hF hU K hK => ?_)
      replace hF := hF rfl
      obtain ⟨⟨A', c', hx, hO⟩, -⟩ := hU
      have hx : x 6 = .slice A' (k + 1) c' := hx
      have ff := hF.io.free 7
      have cf : w1.cell? ⟨ob, 7, none⟩ = some (.slice Ao k c) := (hF.io.cell 7).trans HCF.out
      revert hK
      simp only [Nat.reduceAdd, hx]
      intro hK
      go_simp
      exact hK undef _ (fun _ h _ => by cases h) trivial ⟨A', c', hF.put hrb hob 7 _, hO.stored hF.io (by decide) 7 _⟩
    exact trivial
  case hF =>
    exact hG.go ((Only.refl _ _).drewN 1)
  case hini =>
    exact ⟨fun x => OwnS.only hown ((Only.refl (fun _ => False) w).drewN 1) (by simp), trivial⟩
  case pres =>
    intro i hi j hj hc x wx wy hF hE hW
    simp only [List.mem_cons, List.mem_nil_iff, or_false] at hi hj
    rcases hi with rfl | rfl | rfl <;> rcases hj with rfl | rfl | rfl | rfl
    all_goals first
      | (exfalso; revert hc; decide)
      | (obtain ⟨g, h1, h3⟩ := hW; exact ⟨g, h1, h3.only hE (by simp)⟩)
      | (obtain ⟨A', c', h1, h2⟩ := hW; exact ⟨A', c', h1, OwnS.only h2 hE (by simp)⟩)
      | exact OwnS.only hW hE (by simp)
  case fin =>
    rintro x w9 hF hU
    obtain ⟨hQ, -⟩ := hU
    repeat apply Exists.intro
    exact ⟨rfl, rfl, hQ⟩

set_option maxRecDepth 100000 in
set_option maxHeartbeats 4000000 in
theorem rp33 (cs : Array Value) (q o c0 L i k c x0 ob rb : Nat) (Ao : Option Addr) (xss : List (List Value)) (w0 : World) (hcf : cs[7]? = some (.slice Ao k c)) (hl : xss.length = k) (hk : k ≤ 10000) (hob : w0.heap.size ≤ ob) (hrb : rb ≠ ob) (hx0 : x0 < 4294967296) (hf4 : ∀ wx, Only (fun _ => False) w0 wx → Calls Try.prog 54 #[.slice (some ⟨q, o, none⟩) L c0, .int .i64 (i : Nat)] wx fun e w' => e = .returned (.int .u32 (x0 : Nat)) ∧ wx = w')  (u0 u1 u2 u3 u6 u7 u8 u9 u10 u12 u13 u14 u15 u16 u17 u18 u19 u20 u21 u22 u23 u24 u25 u26 u27 u28 u29 u30 u31 u32 u33 u34 u35 u36 u37 u38 u39 u40 u41 u42 u43 u44 u45 u46 u47 u48 u49 u50 u51 u52 u53 u54 u55 u56 u57 u58 u59 u60 u61 u62 u63 u64 u65 u66 u67 u68 u69 u70 u71 u72 u73 u74 u75 u76 u77 u78 u79 u80 u81 u82 u83 u84 u85 u86 u87 u88 u89 u90 u91 u92 u93 u94 u95 u96 u97 u98 u99 u100 u101 u102 u103 u104 u105 u106 u107 u108 u109 u110 u111 u112 u113 u114 u115 u116 u117 u118 u119 u120 u121 u122 u123 u124 u125 u126 u127 u128 u129 u130 u131 u132 u133 u134 u135 u136 u137 u138 u139 u140 u141 u142 u143 u144 u145 u146 u147 u148 u149 u150 u151 u152 u153 u154 u155 : Value) (Q : Exit → Act → World → Prop) (w : World) (hG : Ro cs ob rb w0 w) (hown : OwnS w w0.heap.size 22 1 (.slice Ao k c) xss)
    (hend : ∀ (y144 y145 y146 y147 y148 y149 y150 y151 : Value) (w' : World), (∃ A' c', Ro (cs.setIfInBounds 7 (.slice A' (k + 1) c')) ob rb w0 w' ∧ OwnS w' w0.heap.size 22 1 (.slice A' (k + 1) c') (xss ++ [[Value.int .u32 (x0 : Nat)]])) → Q .normal ⟨(List.toArray (u0 :: u1 :: u2 :: u3 :: .slice (some ⟨q, o, none⟩) L c0 :: .pointer (some ⟨ob, 0, none⟩) :: u6 :: u7 :: u8 :: u9 :: u10 :: .int .i64 (i : Nat) :: u12 :: u13 :: u14 :: u15 :: u16 :: u17 :: u18 :: u19 :: u20 :: u21 :: u22 :: u23 :: u24 :: u25 :: u26 :: u27 :: u28 :: u29 :: u30 :: u31 :: u32 :: u33 :: u34 :: u35 :: u36 :: u37 :: u38 :: u39 :: u40 :: u41 :: u42 :: u43 :: u44 :: u45 :: u46 :: u47 :: u48 :: u49 :: u50 :: u51 :: u52 :: u53 :: u54 :: u55 :: u56 :: u57 :: u58 :: u59 :: u60 :: u61 :: u62 :: u63 :: u64 :: u65 :: u66 :: u67 :: u68 :: u69 :: u70 :: u71 :: u72 :: u73 :: u74 :: u75 :: u76 :: u77 :: u78 :: u79 :: u80 :: u81 :: u82 :: u83 :: u84 :: u85 :: u86 :: u87 :: u88 :: u89 :: u90 :: u91 :: u92 :: u93 :: u94 :: u95 :: u96 :: u97 :: u98 :: u99 :: u100 :: u101 :: u102 :: u103 :: u104 :: u105 :: u106 :: u107 :: u108 :: u109 :: u110 :: u111 :: u112 :: u113 :: u114 :: u115 :: u116 :: u117 :: u118 :: u119 :: u120 :: u121 :: u122 :: u123 :: u124 :: u125 :: u126 :: u127 :: u128 :: u129 :: u130 :: u131 :: u132 :: u133 :: u134 :: u135 :: u136 :: u137 :: u138 :: u139 :: u140 :: u141 :: u142 :: u143 :: y144 :: y145 :: y146 :: y147 :: y148 :: y149 :: y150 :: y151 :: u152 :: u153 :: u154 :: u155 :: [])), []⟩ w') :
    Code.wp Try.prog rp33_code Q ⟨(List.toArray (u0 :: u1 :: u2 :: u3 :: .slice (some ⟨q, o, none⟩) L c0 :: .pointer (some ⟨ob, 0, none⟩) :: u6 :: u7 :: u8 :: u9 :: u10 :: .int .i64 (i : Nat) :: u12 :: u13 :: u14 :: u15 :: u16 :: u17 :: u18 :: u19 :: u20 :: u21 :: u22 :: u23 :: u24 :: u25 :: u26 :: u27 :: u28 :: u29 :: u30 :: u31 :: u32 :: u33 :: u34 :: u35 :: u36 :: u37 :: u38 :: u39 :: u40 :: u41 :: u42 :: u43 :: u44 :: u45 :: u46 :: u47 :: u48 :: u49 :: u50 :: u51 :: u52 :: u53 :: u54 :: u55 :: u56 :: u57 :: u58 :: u59 :: u60 :: u61 :: u62 :: u63 :: u64 :: u65 :: u66 :: u67 :: u68 :: u69 :: u70 :: u71 :: u72 :: u73 :: u74 :: u75 :: u76 :: u77 :: u78 :: u79 :: u80 :: u81 :: u82 :: u83 :: u84 :: u85 :: u86 :: u87 :: u88 :: u89 :: u90 :: u91 :: u92 :: u93 :: u94 :: u95 :: u96 :: u97 :: u98 :: u99 :: u100 :: u101 :: u102 :: u103 :: u104 :: u105 :: u106 :: u107 :: u108 :: u109 :: u110 :: u111 :: u112 :: u113 :: u114 :: u115 :: u116 :: u117 :: u118 :: u119 :: u120 :: u121 :: u122 :: u123 :: u124 :: u125 :: u126 :: u127 :: u128 :: u129 :: u130 :: u131 :: u132 :: u133 :: u134 :: u135 :: u136 :: u137 :: u138 :: u139 :: u140 :: u141 :: u142 :: u143 :: u144 :: u145 :: u146 :: u147 :: u148 :: u149 :: u150 :: u151 :: u152 :: u153 :: u154 :: u155 :: [])), []⟩ w := by
  refine wp_mono (rp33_in cs q o c0 L i k c x0 ob rb Ao xss w0 hcf hl hk hob hrb hx0 hf4 _ _ _ _ _ _ _ _ _ _ _ _ _ _ _ _ _ _ _ _ _ _ _ _ _ _ _ _ _ _ _ _ _ _ _ _ _ _ _ _ _ _ _ _ _ _ _ _ _ _ _ _ _ _ _ _ _ _ _ _ _ _ _ _ _ _ _ _ _ _ _ _ _ _ _ _ _ _ _ _ _ _ _ _ _ _ _ _ _ _ _ _ _ _ _ _ _ _ _ _ _ _ _ _ _ _ _ _ _ _ _ _ _ _ _ _ _ _ _ _ _ _ _ _ _ _ _ _ _ _ _ _ _ _ _ _ _ _ _ _ _ _ _ _ _ _ _ _ _ _ _ _ _ w hG hown) ?_
  rintro e a w' h
  obtain ⟨y144, h⟩ := h
  obtain ⟨y145, h⟩ := h
  obtain ⟨y146, h⟩ := h
  obtain ⟨y147, h⟩ := h
  obtain ⟨y148, h⟩ := h
  obtain ⟨y149, h⟩ := h
  obtain ⟨y150, h⟩ := h
  obtain ⟨y151, h⟩ := h
  obtain ⟨h, rfl, hq⟩ := h
  subst h
  exact hend y144 y145 y146 y147 y148 y149 y150 y151 w' hq
end Go.Proofs.Ytefcimkopgcagaa

/- Rounds that take parts from a reader. Conditions: as each says. -/
set_option linter.unusedVariables false
set_option linter.unusedSimpArgs false
namespace Go.Proofs.Ytefcimkopgcagaa
open Go.RowKit

theorem Try.infoOd : (Try.prog.info? 85).map (fun i => (i.zero, i.size, i.bytes)) = some (some (.agg #[.int .u32 0, .int .u8 0]), 2, 8) := by kernel_rfl
theorem sty_od : Sty 24 85 2 8 := by
  obtain ⟨i0, hi, hz0, hz1, hz2⟩ := info_parts Try.infoOd
  exact ⟨Try.underlying24, ⟨i0, _, hi, hz0, hz1, hz2, rfl⟩, by decide⟩
/-- Amid Parse: the message in the making. -/
structure Mp (cs : Array Value) (mb : Nat) (w0 wx : World) : Prop where
  io : Is wx mb 27 cs
  pure : Only (fun _ => False) w0 wx
theorem Mp.go {cs : Array Value} {mb : Nat} {w0 wx wy : World} (h : Mp cs mb w0 wx) (ho : Only (fun _ => False) wx wy) : Mp cs mb w0 wy := ⟨h.io.only ho (by simp), h.pure.trans ho (fun _ _ e => e)⟩
theorem Mp.took {cs : Array Value} {mb br p : Nat} {bs : List Nat} {f : Int} {v : Value} {w0 wx wy : World} (h : Mp cs mb w0 wx) (hb : w0.heap.size ≤ br) (hR : Rdr wx br bs p f v) (ho : Only (fun k => k = br) wx wy) : Mp cs mb w0 wy :=
  ⟨h.io.only ho (fun e => Is.apart h.io hR.is (by decide) e), h.pure.trans ho (fun i hi e => by omega)⟩
theorem fx_base {w : World} {B n sz : Nat} {T : TypeId} {v : Value} {xs : List Value} (h : w.ownsRow B T sz v n xs) {k : Nat} (hk : v.ownBlock = some k) : B ≤ k := by
  rcases h.2 with ⟨rfl, _⟩ | ⟨g, cap, cur, rfl, hb, _⟩
  · simp [Value.ownBlock] at hk
  · simp only [Value.ownBlock, Option.some.injEq] at hk
    omega
theorem Mp.far {cs : Array Value} {mb n sz : Nat} {w0 wx wy : World} {T : TypeId} {v : Value} {xs : List Value} (h : Mp cs mb w0 wx) (hw : wx.ownsRow w0.heap.size T sz v n xs) (hT : T ≠ 27) (ho : Only (fun k => v.ownBlock = some k) wx wy) : Mp cs mb w0 wy :=
  ⟨h.io.only ho (owned_off hw h.io hT), h.pure.trans ho (fun i hi e => by have := fx_base hw e; omega)⟩
theorem Mp.put {cs : Array Value} {mb : Nat} {w0 wx : World} (h : Mp cs mb w0 wx) (hob : w0.heap.size ≤ mb) (f : Nat) (v : Value) : Mp (cs.setIfInBounds f v) mb w0 (wx.setCell ⟨mb, f, none⟩ v) := by
  have ho : Only (fun k => k = mb) wx (wx.setCell ⟨mb, f, none⟩ v) := Only.set (S := fun k => k = mb) (p := ⟨mb, f, none⟩) (Only.refl _ wx) (fun _ => rfl) v
  exact ⟨h.io.put f v, h.pure.trans ho (fun i hi e => by omega)⟩
theorem fx_own {B sz : Nat} {T : TypeId} {v : Value} {xss : List (List Value)} {w : World} {ob : Nat} {cs : Array Value} (h : OwnS w B T sz v xss) (hI : Is w ob 27 cs) (hT : T ≠ 27) (i : Nat) (u : Value) : OwnS (w.setCell ⟨ob, i, none⟩ u) B T sz v xss :=
  OwnS.only h (Only.set (S := fun k => k = ob) (p := ⟨ob, i, none⟩) (Only.refl _ w) (fun _ => rfl) u) (fun k hk e => owned_off h.1 hI hT (by rw [hk, e]))
theorem fx_rdr {br p : Nat} {bs : List Nat} {f : Int} {v : Value} {w : World} {ob : Nat} {cs : Array Value} (h : Rdr w br bs p f v) (hI : Is w ob 27 cs) (i : Nat) (u : Value) : Rdr (w.setCell ⟨ob, i, none⟩ u) br bs p f v :=
  Rdr.only h (Only.set (S := fun k => k = ob) (p := ⟨ob, i, none⟩) (Only.refl _ w) (fun _ => rfl) u) (fun e => Is.apart h.is hI (by decide) e) (fun k hk e => owned_off h.row hI (by decide) (by rw [hk, e]))
def tp2_A : List (List Nat) := ([] :: [] :: [1] :: [2, 1] :: [3, 2, 1] :: [] :: [5] :: [6, 5] :: [] :: [8, 6, 5] :: [9, 8, 6, 5] :: [7, 10, 6, 5, 9, 8] :: [11, 7, 10, 6, 5, 9, 8] :: (4 :: 12 :: 9 :: 3 :: 2 :: 1 :: 11 :: 7 :: 10 :: 6 :: 5 :: 8 :: []) :: (0 :: 1 :: 2 :: 3 :: 4 :: 5 :: 6 :: 7 :: 8 :: 9 :: 10 :: 11 :: 12 :: 13 :: []) :: (14 :: 0 :: 1 :: 2 :: 3 :: 4 :: 5 :: 6 :: 7 :: 8 :: 9 :: 10 :: 11 :: 12 :: 13 :: []) :: (15 :: 13 :: 0 :: 1 :: 2 :: 3 :: 4 :: 5 :: 6 :: 7 :: 8 :: 9 :: 10 :: 11 :: 12 :: 14 :: []) :: [])
def tp2_kill : List (List Nat) := ([] :: [] :: [] :: [] :: [] :: [] :: [17] :: [] :: [] :: [17, 6] :: [] :: [] :: [] :: [12, 18] :: [] :: [] :: [6, 9, 12, 13, 17, 18] :: [])
def tp2_uses : List (List Nat) := ([] :: [] :: [] :: [] :: [] :: [] :: [17] :: [] :: [] :: [6] :: [] :: [] :: [] :: [12, 18, 9] :: [] :: [] :: [13, 9] :: [])
noncomputable def tp2_code : Code := ((Try.f70.body.bind (codeRegion 2)).getD .skip)
set_option maxRecDepth 100000 in
set_option maxHeartbeats 4000000 in
theorem tp2_in (cs : Array Value) (mb br p k c : Nat) (bs : List Nat) (v : Value) (Ao : Option Addr) (xss : List (List Value)) (na nb : Nat) (w0 : World) (hcf : cs[3]? = some (.slice Ao k c)) (hl : xss.length = k) (hk : k ≤ 70000) (hmb : w0.heap.size ≤ mb) (hbr : w0.heap.size ≤ br) (hp : p + 32 ≤ 8 * bs.length) (hna : num bs p 16 = na) (hnb : num bs (p + 16) 16 = nb) (ha : na < 65536) (hb : nb < 65536) (u2 u3 u4 u5 u6 u7 u8 u9 u10 u11 u12 u13 u14 u15 u16 u17 u18 u19 u20 u21 u22 u23 u24 u25 : Value) (w : World) (hG : Mp cs mb w0 w) (hR0 : Rdr w br bs p 0 v) (hown : OwnS w w0.heap.size 82 2 (.slice Ao k c) xss) :
    Code.wp Try.prog tp2_code (fun e a w' => ∃ y9 y10 y11 y12 y13 y14 y15 y16 y17 y18 y19 y20 y21 y22 y23 y24 : Value, a = ⟨(List.toArray (.pointer (some ⟨mb, 0, none⟩) :: .pointer (some ⟨br, 0, none⟩) :: u2 :: u3 :: u4 :: u5 :: u6 :: u7 :: u8 :: y9 :: y10 :: y11 :: y12 :: y13 :: y14 :: y15 :: y16 :: y17 :: y18 :: y19 :: y20 :: y21 :: y22 :: y23 :: y24 :: u25 :: [])), []⟩ ∧ e = .normal ∧ (∃ A' c', Mp (cs.setIfInBounds 3 (.slice A' (k + 1) c')) mb w0 w' ∧ OwnS w' w0.heap.size 82 2 (.slice A' (k + 1) c') (xss ++ [[Value.int .u16 (na : Nat), Value.int .u16 (nb : Nat)]]) ∧ Rdr w' br bs (p + 32) 0 v)) ⟨(List.toArray (.pointer (some ⟨mb, 0, none⟩) :: .pointer (some ⟨br, 0, none⟩) :: u2 :: u3 :: u4 :: u5 :: u6 :: u7 :: u8 :: u9 :: u10 :: u11 :: u12 :: u13 :: u14 :: u15 :: u16 :: u17 :: u18 :: u19 :: u20 :: u21 :: u22 :: u23 :: u24 :: u25 :: [])), []⟩ w := by
  conv => arg 2; whnf
  have HCF := Lib.hid hcf
  clear hcf
  have HV0 := Lib.hid hna
  have HV1 := Lib.hid hnb
  have e3 : IntKind.u16.wrap (na : Int) = (na : Int) := by rw [IntKind.wrap_u16]; omega
  have e4 : IntKind.u16.wrap (nb : Int) = (nb : Int) := by rw [IntKind.wrap_u16]; omega
  clear hna hnb
  refine wp_region_posts tp2_A [6, 9, 12, 13, 16] [6, 9, 12, 13, 16, 17, 18] tp2_kill tp2_uses [16] [16] [] [17, 18]
      (some ?v0 :: some ?v1 :: some ?v2 :: some ?v3 :: some ?v4 :: some ?v5 :: some (.int .u64 (na : Nat)) :: some ?v7 :: some ?v8 :: some (.int .u64 (nb : Nat)) :: some ?v10 :: some ?v11 :: none :: none :: some ?v14 :: some ?v15 :: none :: [])
      ?T (fun wx => Mp cs mb w0 wx) ?W ?E (by kernel_rfl) (by kernel_rfl) (by kernel_rfl) (fun x => ?hT) ?hF ?hini (Reg.all_ops ?runs) ?pres ?fin
  case W => exact fun j x w' => match j with | 6 => Rdr w' br bs (p + 16) 0 v | 9 => Rdr w' br bs (p + 32) 0 v | 12 => ∃ g, x 12 = .slice (some ⟨g, 0, none⟩) 1 1 ∧ Is w' g 82 [Value.int .u16 (na : Nat), Value.int .u16 (nb : Nat)].toArray | 13 => ∃ A' c', x 13 = .slice A' (k + 1) c' ∧ OwnS w' w0.heap.size 82 2 (.slice A' (k + 1) c') (xss ++ [[Value.int .u16 (na : Nat), Value.int .u16 (nb : Nat)]]) | 16 => ∃ A' c', Mp (cs.setIfInBounds 3 (.slice A' (k + 1) c')) mb w0 w' ∧ OwnS w' w0.heap.size 82 2 (.slice A' (k + 1) c') (xss ++ [[Value.int .u16 (na : Nat), Value.int .u16 (nb : Nat)]]) ∧ Rdr w' br bs (p + 32) 0 v | 17 => Rdr w' br bs p 0 v | 18 => OwnS w' w0.heap.size 82 2 (.slice Ao k c) xss | _ => True
  case E => exact fun i wx wy => match i with | 6 => Only (fun k => k = br) wx wy ∧ ∃ ds, Is wx br 127 ds | 9 => Only (fun k => k = br) wx wy ∧ ∃ ds, Is wx br 127 ds | 12 => Only (fun _ => False) wx wy | 13 => ∃ S, Only S wx wy ∧ ¬ S br ∧ ∀ k, v.ownBlock = some k → ¬ S k | _ => True
  case hT =>
    simp only [Reg.fillV, Act.put, List.setIfInBounds_toArray, List.set_cons_zero, List.set_cons_succ]
    rfl
  case runs =>
    refine And.intro ?_ ?_
    · refine Reg.ob_pure (fun _ => rfl) rfl rfl rfl rfl (fun x w1 hF => ?_)
      have cf : w1.cell? ⟨mb, 3, none⟩ = some (.slice Ao k c) := (hF.io.cell 3).trans HCF.out
      go_simp
      with_reducible rfl
    refine And.intro ?_ ?_
    · refine Reg.ob_pure (fun _ => rfl) rfl rfl rfl rfl (fun x w1 hF => ?_)
      have cf : w1.cell? ⟨mb, 3, none⟩ = some (.slice Ao k c) := (hF.io.cell 3).trans HCF.out
      go_simp
      with_reducible rfl
    refine And.intro ?_ ?_
    · refine Reg.ob_pure (fun _ => rfl) rfl rfl rfl rfl (fun x w1 hF => ?_)
      have cf : w1.cell? ⟨mb, 3, none⟩ = some (.slice Ao k c) := (hF.io.cell 3).trans HCF.out
      go_simp
      with_reducible rfl
    refine And.intro ?_ ?_
    · refine Reg.ob_pure (fun _ => rfl) rfl rfl rfl rfl (fun x w1 hF => ?_)
      have cf : w1.cell? ⟨mb, 3, none⟩ = some (.slice Ao k c) := (hF.io.cell 3).trans HCF.out
      go_simp
      with_reducible rfl
    refine And.intro ?_ ?_
    · refine Reg.ob_pure (fun _ => rfl) rfl rfl rfl rfl (fun x w1 hF => ?_)
      have cf : w1.cell? ⟨mb, 3, none⟩ = some (.slice Ao k c) := (hF.io.cell 3).trans HCF.out
      go_simp
      with_reducible rfl
    refine And.intro ?_ ?_
    · refine Reg.ob_pure (fun _ => rfl) rfl rfl rfl rfl (fun x w1 hF => ?_)
      have cf : w1.cell? ⟨mb, 3, none⟩ = some (.slice Ao k c) := (hF.io.cell 3).trans HCF.out
      go_simp
      with_reducible rfl
    refine And.intro ?_ ?_
    · refine Reg.ob_told (fun _ => rfl) rfl (fun x w1 hF hU K hK => ?_)
      replace hF := hF rfl
      obtain ⟨hR, -⟩ := hU
      have hR : Rdr w1 br bs p 0 v := hR
      have HT := take_ok br p 16 bs v w1 hR (by omega) (by omega)
      rw [HV0.out] at HT
      unfold ptr at HT
      go_simp
      refine HT.mono ?_
      rintro e w5 ⟨rfl, hR2, ho⟩
      exact hK w5 (fun _ _ _ => hF.took hbr hR ho) ⟨ho, _, hR.is⟩ hR2
    refine And.intro ?_ ?_
    · refine Reg.ob_pure (fun _ => rfl) rfl rfl rfl rfl (fun x w1 hF => ?_)
      have cf : w1.cell? ⟨mb, 3, none⟩ = some (.slice Ao k c) := (hF.io.cell 3).trans HCF.out
      go_simp
      with_reducible rfl
    refine And.intro ?_ ?_
    · refine Reg.ob_pure (fun _ => rfl) rfl rfl rfl rfl (fun x w1 hF => ?_)
      have cf : w1.cell? ⟨mb, 3, none⟩ = some (.slice Ao k c) := (hF.io.cell 3).trans HCF.out
      go_simp
      with_reducible rfl
    refine And.intro ?_ ?_
    · refine Reg.ob_told (fun _ => rfl) rfl (fun x w1 hF hU K hK => ?_)
      replace hF := hF rfl
      obtain ⟨hR, -⟩ := hU
      have hR : Rdr w1 br bs (p + 16) 0 v := hR
      have HT := take_ok br (p + 16) 16 bs v w1 hR (by omega) (by omega)
      rw [HV1.out] at HT
      unfold ptr at HT
      go_simp
      refine HT.mono ?_
      rintro e w5 ⟨rfl, hR2, ho⟩
      exact hK w5 (fun _ _ _ => hF.took hbr hR ho) ⟨ho, _, hR.is⟩ hR2
    refine And.intro ?_ ?_
    · refine Reg.ob_pure (fun _ => rfl) rfl rfl rfl rfl (fun x w1 hF => ?_)
      have cf : w1.cell? ⟨mb, 3, none⟩ = some (.slice Ao k c) := (hF.io.cell 3).trans HCF.out
      go_simp
      with_reducible rfl
    refine And.intro ?_ ?_
    · refine Reg.ob_pure (fun _ => rfl) rfl rfl rfl rfl (fun x w1 hF => ?_)
      have cf : w1.cell? ⟨mb, 3, none⟩ = some (.slice Ao k c) := (hF.io.cell 3).trans HCF.out
      go_simp
      with_reducible rfl
    refine And.intro ?_ ?_
    · refine Reg.ob_some (fun _ => rfl) rfl (fun x w1 hF hU K hK => ?_)
      replace hF := hF rfl
      go_simp
      exact hK _ _ (fun _ _ _ => hF.go ((Only.refl _ _).alloc _)) ((Only.refl _ _).alloc _) ⟨_, rfl, Is.made _ _ _⟩
    refine And.intro ?_ ?_
    · refine Reg.ob_some (fun _ => rfl) rfl (fun x w1 hF hU K hK => ?_)
      replace hF := hF rfl
      obtain ⟨⟨g, hx, hI⟩, hO, hR, -⟩ := hU
      have hx : x 12 = .slice (some ⟨g, 0, none⟩) 1 1 := hx
      have hO : OwnS w1 w0.heap.size 82 2 (.slice Ao k c) xss := hO
      have hR : Rdr w1 br bs (p + 32) 0 v := hR
      refine append_run w1 _ _ sty_pr rfl w0.heap.size (.slice Ao k c) xss rfl hO g [Value.int .u16 (na : Nat), Value.int .u16 (nb : Nat)] (by simpa [Act.eval] using hx) hI rfl (by simp [Value.oneCell']) (by omega) (by decide) hF.pure.size ?_
      intro v' w' hown ho
      obtain ⟨A', c', rfl, -⟩ := OwnS.slice hown
      have e : (xss ++ [[Value.int .u16 (na : Nat), Value.int .u16 (nb : Nat)]]).length = k + 1 := by rw [List.length_append, hl]; rfl
      rw [e] at hown
      rw [e]
      exact hK _ w' (fun _ _ _ => hF.far hO.1 (by decide) ho) ⟨_, ho, owned_off hO.1 hR.is (by decide), fun k' hk' e' => owned_apart hO.1 hR.row (by decide) k' e' hk'⟩ ⟨A', c', rfl, hown⟩
    refine And.intro ?_ ?_
    · refine Reg.ob_pure (fun _ => rfl) rfl rfl rfl rfl (fun x w1 hF => ?_)
      have cf : w1.cell? ⟨mb, 3, none⟩ = some (.slice Ao k c) := (hF.io.cell 3).trans HCF.out
      go_simp
      with_reducible rfl
    refine And.intro ?_ ?_
    · refine Reg.ob_pure (fun _ => rfl) rfl rfl rfl rfl (fun x w1 hF => ?_)
      have cf : w1.cell? ⟨mb, 3, none⟩ = some (.slice Ao k c) := (hF.io.cell 3).trans HCF.out
      go_simp
      with_reducible rfl
    refine And.intro ?_ ?_
    · refine Reg.ob_some (fun _ => rfl) rfl (fun x w1 hF hU K hK => ?_)
      replace hF := hF rfl
      obtain ⟨⟨A', c', hx, hO⟩, hR, -⟩ := hU
      have hx : x 13 = .slice A' (k + 1) c' := hx
      have hR : Rdr w1 br bs (p + 32) 0 v := hR
      have ff := hF.io.free 3
      have cf : w1.cell? ⟨mb, 3, none⟩ = some (.slice Ao k c) := (hF.io.cell 3).trans HCF.out
      revert hK
      simp only [Nat.reduceAdd, hx]
      intro hK
      go_simp
      exact hK undef _ (fun _ h _ => by cases h) trivial ⟨A', c', hF.put hmb 3 _, fx_own hO hF.io (by decide) 3 _, fx_rdr hR hF.io 3 _⟩
    exact trivial
  case hF =>
    exact hG.go ((Only.refl _ _).drewN 1)
  case hini =>
    exact ⟨fun x => hR0.drewN 1, fun x => OwnS.only hown ((Only.refl (fun _ => False) w).drewN 1) (by simp), trivial⟩
  case pres =>
    intro i hi j hj hc x wx wy hF hE hW
    simp only [List.mem_cons, List.mem_nil_iff, or_false] at hi hj
    rcases hi with rfl | rfl | rfl | rfl | rfl <;> rcases hj with rfl | rfl | rfl | rfl | rfl | rfl | rfl
    all_goals first
      | (exfalso; revert hc; decide)
      | (obtain ⟨h1, ds, h2⟩ := hE; exact OwnS.only hW h1 (fun k hk e => owned_off hW.1 h2 (by decide) (by rw [hk, e])))
      | exact OwnS.only hW hE (by simp)
      | exact Rdr.only hW hE (by simp) (by simp)
      | (obtain ⟨S, h1, h2, h3⟩ := hE; exact Rdr.only hW h1 h2 h3)
  case fin =>
    rintro x w9 hF hU
    obtain ⟨hQ, -⟩ := hU
    repeat apply Exists.intro
    exact ⟨rfl, rfl, hQ⟩

set_option maxRecDepth 100000 in
set_option maxHeartbeats 4000000 in
theorem tp2 (cs : Array Value) (mb br p k c : Nat) (bs : List Nat) (v : Value) (Ao : Option Addr) (xss : List (List Value)) (na nb : Nat) (w0 : World) (hcf : cs[3]? = some (.slice Ao k c)) (hl : xss.length = k) (hk : k ≤ 70000) (hmb : w0.heap.size ≤ mb) (hbr : w0.heap.size ≤ br) (hp : p + 32 ≤ 8 * bs.length) (hna : num bs p 16 = na) (hnb : num bs (p + 16) 16 = nb) (ha : na < 65536) (hb : nb < 65536) (u2 u3 u4 u5 u6 u7 u8 u9 u10 u11 u12 u13 u14 u15 u16 u17 u18 u19 u20 u21 u22 u23 u24 u25 : Value) (Q : Exit → Act → World → Prop) (w : World) (hG : Mp cs mb w0 w) (hR0 : Rdr w br bs p 0 v) (hown : OwnS w w0.heap.size 82 2 (.slice Ao k c) xss)
    (hend : ∀ (y9 y10 y11 y12 y13 y14 y15 y16 y17 y18 y19 y20 y21 y22 y23 y24 : Value) (w' : World), (∃ A' c', Mp (cs.setIfInBounds 3 (.slice A' (k + 1) c')) mb w0 w' ∧ OwnS w' w0.heap.size 82 2 (.slice A' (k + 1) c') (xss ++ [[Value.int .u16 (na : Nat), Value.int .u16 (nb : Nat)]]) ∧ Rdr w' br bs (p + 32) 0 v) → Q .normal ⟨(List.toArray (.pointer (some ⟨mb, 0, none⟩) :: .pointer (some ⟨br, 0, none⟩) :: u2 :: u3 :: u4 :: u5 :: u6 :: u7 :: u8 :: y9 :: y10 :: y11 :: y12 :: y13 :: y14 :: y15 :: y16 :: y17 :: y18 :: y19 :: y20 :: y21 :: y22 :: y23 :: y24 :: u25 :: [])), []⟩ w') :
    Code.wp Try.prog tp2_code Q ⟨(List.toArray (.pointer (some ⟨mb, 0, none⟩) :: .pointer (some ⟨br, 0, none⟩) :: u2 :: u3 :: u4 :: u5 :: u6 :: u7 :: u8 :: u9 :: u10 :: u11 :: u12 :: u13 :: u14 :: u15 :: u16 :: u17 :: u18 :: u19 :: u20 :: u21 :: u22 :: u23 :: u24 :: u25 :: [])), []⟩ w := by
  refine wp_mono (tp2_in cs mb br p k c bs v Ao xss na nb w0 hcf hl hk hmb hbr hp hna hnb ha hb _ _ _ _ _ _ _ _ _ _ _ _ _ _ _ _ _ _ _ _ _ _ _ _ w hG hR0 hown) ?_
  rintro e a w' h
  obtain ⟨y9, h⟩ := h
  obtain ⟨y10, h⟩ := h
  obtain ⟨y11, h⟩ := h
  obtain ⟨y12, h⟩ := h
  obtain ⟨y13, h⟩ := h
  obtain ⟨y14, h⟩ := h
  obtain ⟨y15, h⟩ := h
  obtain ⟨y16, h⟩ := h
  obtain ⟨y17, h⟩ := h
  obtain ⟨y18, h⟩ := h
  obtain ⟨y19, h⟩ := h
  obtain ⟨y20, h⟩ := h
  obtain ⟨y21, h⟩ := h
  obtain ⟨y22, h⟩ := h
  obtain ⟨y23, h⟩ := h
  obtain ⟨y24, h⟩ := h
  obtain ⟨h, rfl, hq⟩ := h
  subst h
  exact hend y9 y10 y11 y12 y13 y14 y15 y16 y17 y18 y19 y20 y21 y22 y23 y24 w' hq
def to2_A : List (List Nat) := ([] :: [] :: [1] :: [2, 1] :: [3, 2, 1] :: [] :: [5] :: [6, 5] :: [] :: [8, 6, 5] :: [9, 8, 6, 5] :: [7, 10, 6, 5, 9, 8] :: [11, 7, 10, 6, 5, 9, 8] :: (4 :: 12 :: 9 :: 3 :: 2 :: 1 :: 11 :: 7 :: 10 :: 6 :: 5 :: 8 :: []) :: (0 :: 1 :: 2 :: 3 :: 4 :: 5 :: 6 :: 7 :: 8 :: 9 :: 10 :: 11 :: 12 :: 13 :: []) :: (14 :: 0 :: 1 :: 2 :: 3 :: 4 :: 5 :: 6 :: 7 :: 8 :: 9 :: 10 :: 11 :: 12 :: 13 :: []) :: (15 :: 13 :: 0 :: 1 :: 2 :: 3 :: 4 :: 5 :: 6 :: 7 :: 8 :: 9 :: 10 :: 11 :: 12 :: 14 :: []) :: [])
def to2_kill : List (List Nat) := ([] :: [] :: [] :: [] :: [] :: [] :: [17] :: [] :: [] :: [17, 6] :: [] :: [] :: [] :: [12, 18] :: [] :: [] :: [6, 9, 12, 13, 17, 18] :: [])
def to2_uses : List (List Nat) := ([] :: [] :: [] :: [] :: [] :: [] :: [17] :: [] :: [] :: [6] :: [] :: [] :: [] :: [12, 18, 9] :: [] :: [] :: [13, 9] :: [])
noncomputable def to2_code : Code := ((Try.f74.body.bind (codeRegion 2)).getD .skip)
set_option maxRecDepth 100000 in
set_option maxHeartbeats 4000000 in
theorem to2_in (cs : Array Value) (mb br p k c : Nat) (bs : List Nat) (v : Value) (Ao : Option Addr) (xss : List (List Value)) (na nb : Nat) (w0 : World) (hcf : cs[4]? = some (.slice Ao k c)) (hl : xss.length = k) (hk : k ≤ 70000) (hmb : w0.heap.size ≤ mb) (hbr : w0.heap.size ≤ br) (hp : p + 40 ≤ 8 * bs.length) (hna : num bs p 32 = na) (hnb : num bs (p + 32) 8 = nb) (ha : na < 4294967296) (hb : nb < 256) (u2 u3 u4 u5 u6 u7 u8 u9 u10 u11 u12 u13 u14 u15 u16 u17 u18 u19 u20 u21 u22 u23 u24 u25 u26 u27 : Value) (w : World) (hG : Mp cs mb w0 w) (hR0 : Rdr w br bs p 0 v) (hown : OwnS w w0.heap.size 85 2 (.slice Ao k c) xss) :
    Code.wp Try.prog to2_code (fun e a w' => ∃ y9 y10 y11 y12 y13 y14 y15 y16 y17 y18 y19 y20 y21 y22 y23 y24 : Value, a = ⟨(List.toArray (.pointer (some ⟨mb, 0, none⟩) :: .pointer (some ⟨br, 0, none⟩) :: u2 :: u3 :: u4 :: u5 :: u6 :: u7 :: u8 :: y9 :: y10 :: y11 :: y12 :: y13 :: y14 :: y15 :: y16 :: y17 :: y18 :: y19 :: y20 :: y21 :: y22 :: y23 :: y24 :: u25 :: u26 :: u27 :: [])), []⟩ ∧ e = .normal ∧ (∃ A' c', Mp (cs.setIfInBounds 4 (.slice A' (k + 1) c')) mb w0 w' ∧ OwnS w' w0.heap.size 85 2 (.slice A' (k + 1) c') (xss ++ [[Value.int .u32 (na : Nat), Value.int .u8 (nb : Nat)]]) ∧ Rdr w' br bs (p + 40) 0 v)) ⟨(List.toArray (.pointer (some ⟨mb, 0, none⟩) :: .pointer (some ⟨br, 0, none⟩) :: u2 :: u3 :: u4 :: u5 :: u6 :: u7 :: u8 :: u9 :: u10 :: u11 :: u12 :: u13 :: u14 :: u15 :: u16 :: u17 :: u18 :: u19 :: u20 :: u21 :: u22 :: u23 :: u24 :: u25 :: u26 :: u27 :: [])), []⟩ w := by
  conv => arg 2; whnf
  have HCF := Lib.hid hcf
  clear hcf
  have HV0 := Lib.hid hna
  have HV1 := Lib.hid hnb
  have e3 : IntKind.u32.wrap (na : Int) = (na : Int) := by rw [IntKind.wrap_u32]; omega
  have e4 : IntKind.u8.wrap (nb : Int) = (nb : Int) := by rw [IntKind.wrap_u8]; omega
  clear hna hnb
  refine wp_region_posts to2_A [6, 9, 12, 13, 16] [6, 9, 12, 13, 16, 17, 18] to2_kill to2_uses [16] [16] [] [17, 18]
      (some ?v0 :: some ?v1 :: some ?v2 :: some ?v3 :: some ?v4 :: some ?v5 :: some (.int .u64 (na : Nat)) :: some ?v7 :: some ?v8 :: some (.int .u64 (nb : Nat)) :: some ?v10 :: some ?v11 :: none :: none :: some ?v14 :: some ?v15 :: none :: [])
      ?T (fun wx => Mp cs mb w0 wx) ?W ?E (by kernel_rfl) (by kernel_rfl) (by kernel_rfl) (fun x => ?hT) ?hF ?hini (Reg.all_ops ?runs) ?pres ?fin
  case W => exact fun j x w' => match j with | 6 => Rdr w' br bs (p + 32) 0 v | 9 => Rdr w' br bs (p + 40) 0 v | 12 => ∃ g, x 12 = .slice (some ⟨g, 0, none⟩) 1 1 ∧ Is w' g 85 [Value.int .u32 (na : Nat), Value.int .u8 (nb : Nat)].toArray | 13 => ∃ A' c', x 13 = .slice A' (k + 1) c' ∧ OwnS w' w0.heap.size 85 2 (.slice A' (k + 1) c') (xss ++ [[Value.int .u32 (na : Nat), Value.int .u8 (nb : Nat)]]) | 16 => ∃ A' c', Mp (cs.setIfInBounds 4 (.slice A' (k + 1) c')) mb w0 w' ∧ OwnS w' w0.heap.size 85 2 (.slice A' (k + 1) c') (xss ++ [[Value.int .u32 (na : Nat), Value.int .u8 (nb : Nat)]]) ∧ Rdr w' br bs (p + 40) 0 v | 17 => Rdr w' br bs p 0 v | 18 => OwnS w' w0.heap.size 85 2 (.slice Ao k c) xss | _ => True
  case E => exact fun i wx wy => match i with | 6 => Only (fun k => k = br) wx wy ∧ ∃ ds, Is wx br 127 ds | 9 => Only (fun k => k = br) wx wy ∧ ∃ ds, Is wx br 127 ds | 12 => Only (fun _ => False) wx wy | 13 => ∃ S, Only S wx wy ∧ ¬ S br ∧ ∀ k, v.ownBlock = some k → ¬ S k | _ => True
  case hT =>
    simp only [Reg.fillV, Act.put, List.setIfInBounds_toArray, List.set_cons_zero, List.set_cons_succ]
    rfl
  case runs =>
    refine And.intro ?_ ?_
    · refine Reg.ob_pure (fun _ => rfl) rfl rfl rfl rfl (fun x w1 hF => ?_)
      have cf : w1.cell? ⟨mb, 4, none⟩ = some (.slice Ao k c) := (hF.io.cell 4).trans HCF.out
      go_simp
      with_reducible rfl
    refine And.intro ?_ ?_
    · refine Reg.ob_pure (fun _ => rfl) rfl rfl rfl rfl (fun x w1 hF => ?_)
      have cf : w1.cell? ⟨mb, 4, none⟩ = some (.slice Ao k c) := (hF.io.cell 4).trans HCF.out
      go_simp
      with_reducible rfl
    refine And.intro ?_ ?_
    · refine Reg.ob_pure (fun _ => rfl) rfl rfl rfl rfl (fun x w1 hF => ?_)
      have cf : w1.cell? ⟨mb, 4, none⟩ = some (.slice Ao k c) := (hF.io.cell 4).trans HCF.out
      go_simp
      with_reducible rfl
    refine And.intro ?_ ?_
    · refine Reg.ob_pure (fun _ => rfl) rfl rfl rfl rfl (fun x w1 hF => ?_)
      have cf : w1.cell? ⟨mb, 4, none⟩ = some (.slice Ao k c) := (hF.io.cell 4).trans HCF.out
      go_simp
      with_reducible rfl
    refine And.intro ?_ ?_
    · refine Reg.ob_pure (fun _ => rfl) rfl rfl rfl rfl (fun x w1 hF => ?_)
      have cf : w1.cell? ⟨mb, 4, none⟩ = some (.slice Ao k c) := (hF.io.cell 4).trans HCF.out
      go_simp
      with_reducible rfl
    refine And.intro ?_ ?_
    · refine Reg.ob_pure (fun _ => rfl) rfl rfl rfl rfl (fun x w1 hF => ?_)
      have cf : w1.cell? ⟨mb, 4, none⟩ = some (.slice Ao k c) := (hF.io.cell 4).trans HCF.out
      go_simp
      with_reducible rfl
    refine And.intro ?_ ?_
    · refine Reg.ob_told (fun _ => rfl) rfl (fun x w1 hF hU K hK => ?_)
      replace hF := hF rfl
      obtain ⟨hR, -⟩ := hU
      have hR : Rdr w1 br bs p 0 v := hR
      have HT := take_ok br p 32 bs v w1 hR (by omega) (by omega)
      rw [HV0.out] at HT
      unfold ptr at HT
      go_simp
      refine HT.mono ?_
      rintro e w5 ⟨rfl, hR2, ho⟩
      exact hK w5 (fun _ _ _ => hF.took hbr hR ho) ⟨ho, _, hR.is⟩ hR2
    refine And.intro ?_ ?_
    · refine Reg.ob_pure (fun _ => rfl) rfl rfl rfl rfl (fun x w1 hF => ?_)
      have cf : w1.cell? ⟨mb, 4, none⟩ = some (.slice Ao k c) := (hF.io.cell 4).trans HCF.out
      go_simp
      with_reducible rfl
    refine And.intro ?_ ?_
    · refine Reg.ob_pure (fun _ => rfl) rfl rfl rfl rfl (fun x w1 hF => ?_)
      have cf : w1.cell? ⟨mb, 4, none⟩ = some (.slice Ao k c) := (hF.io.cell 4).trans HCF.out
      go_simp
      with_reducible rfl
    refine And.intro ?_ ?_
    · refine Reg.ob_told (fun _ => rfl) rfl (fun x w1 hF hU K hK => ?_)
      replace hF := hF rfl
      obtain ⟨hR, -⟩ := hU
      have hR : Rdr w1 br bs (p + 32) 0 v := hR
      have HT := take_ok br (p + 32) 8 bs v w1 hR (by omega) (by omega)
      rw [HV1.out] at HT
      unfold ptr at HT
      go_simp
      refine HT.mono ?_
      rintro e w5 ⟨rfl, hR2, ho⟩
      exact hK w5 (fun _ _ _ => hF.took hbr hR ho) ⟨ho, _, hR.is⟩ hR2
    refine And.intro ?_ ?_
    · refine Reg.ob_pure (fun _ => rfl) rfl rfl rfl rfl (fun x w1 hF => ?_)
      have cf : w1.cell? ⟨mb, 4, none⟩ = some (.slice Ao k c) := (hF.io.cell 4).trans HCF.out
      go_simp
      with_reducible rfl
    refine And.intro ?_ ?_
    · refine Reg.ob_pure (fun _ => rfl) rfl rfl rfl rfl (fun x w1 hF => ?_)
      have cf : w1.cell? ⟨mb, 4, none⟩ = some (.slice Ao k c) := (hF.io.cell 4).trans HCF.out
      go_simp
      with_reducible rfl
    refine And.intro ?_ ?_
    · refine Reg.ob_some (fun _ => rfl) rfl (fun x w1 hF hU K hK => ?_)
      replace hF := hF rfl
      go_simp
      exact hK _ _ (fun _ _ _ => hF.go ((Only.refl _ _).alloc _)) ((Only.refl _ _).alloc _) ⟨_, rfl, Is.made _ _ _⟩
    refine And.intro ?_ ?_
    · refine Reg.ob_some (fun _ => rfl) rfl (fun x w1 hF hU K hK => ?_)
      replace hF := hF rfl
      obtain ⟨⟨g, hx, hI⟩, hO, hR, -⟩ := hU
      have hx : x 12 = .slice (some ⟨g, 0, none⟩) 1 1 := hx
      have hO : OwnS w1 w0.heap.size 85 2 (.slice Ao k c) xss := hO
      have hR : Rdr w1 br bs (p + 40) 0 v := hR
      refine append_run w1 _ _ sty_od rfl w0.heap.size (.slice Ao k c) xss rfl hO g [Value.int .u32 (na : Nat), Value.int .u8 (nb : Nat)] (by simpa [Act.eval] using hx) hI rfl (by simp [Value.oneCell']) (by omega) (by decide) hF.pure.size ?_
      intro v' w' hown ho
      obtain ⟨A', c', rfl, -⟩ := OwnS.slice hown
      have e : (xss ++ [[Value.int .u32 (na : Nat), Value.int .u8 (nb : Nat)]]).length = k + 1 := by rw [List.length_append, hl]; rfl
      rw [e] at hown
      rw [e]
      exact hK _ w' (fun _ _ _ => hF.far hO.1 (by decide) ho) ⟨_, ho, owned_off hO.1 hR.is (by decide), fun k' hk' e' => owned_apart hO.1 hR.row (by decide) k' e' hk'⟩ ⟨A', c', rfl, hown⟩
    refine And.intro ?_ ?_
    · refine Reg.ob_pure (fun _ => rfl) rfl rfl rfl rfl (fun x w1 hF => ?_)
      have cf : w1.cell? ⟨mb, 4, none⟩ = some (.slice Ao k c) := (hF.io.cell 4).trans HCF.out
      go_simp
      with_reducible rfl
    refine And.intro ?_ ?_
    · refine Reg.ob_pure (fun _ => rfl) rfl rfl rfl rfl (fun x w1 hF => ?_)
      have cf : w1.cell? ⟨mb, 4, none⟩ = some (.slice Ao k c) := (hF.io.cell 4).trans HCF.out
      go_simp
      with_reducible rfl
    refine And.intro ?_ ?_
    · refine Reg.ob_some (fun _ => rfl) rfl (fun x w1 hF hU K hK => ?_)
      replace hF := hF rfl
      obtain ⟨⟨A', c', hx, hO⟩, hR, -⟩ := hU
      have hx : x 13 = .slice A' (k + 1) c' := hx
      have hR : Rdr w1 br bs (p + 40) 0 v := hR
      have ff := hF.io.free 4
      have cf : w1.cell? ⟨mb, 4, none⟩ = some (.slice Ao k c) := (hF.io.cell 4).trans HCF.out
      revert hK
      simp only [Nat.reduceAdd, hx]
      intro hK
      go_simp
      exact hK undef _ (fun _ h _ => by cases h) trivial ⟨A', c', hF.put hmb 4 _, fx_own hO hF.io (by decide) 4 _, fx_rdr hR hF.io 4 _⟩
    exact trivial
  case hF =>
    exact hG.go ((Only.refl _ _).drewN 1)
  case hini =>
    exact ⟨fun x => hR0.drewN 1, fun x => OwnS.only hown ((Only.refl (fun _ => False) w).drewN 1) (by simp), trivial⟩
  case pres =>
    intro i hi j hj hc x wx wy hF hE hW
    simp only [List.mem_cons, List.mem_nil_iff, or_false] at hi hj
    rcases hi with rfl | rfl | rfl | rfl | rfl <;> rcases hj with rfl | rfl | rfl | rfl | rfl | rfl | rfl
    all_goals first
      | (exfalso; revert hc; decide)
      | (obtain ⟨h1, ds, h2⟩ := hE; exact OwnS.only hW h1 (fun k hk e => owned_off hW.1 h2 (by decide) (by rw [hk, e])))
      | exact OwnS.only hW hE (by simp)
      | exact Rdr.only hW hE (by simp) (by simp)
      | (obtain ⟨S, h1, h2, h3⟩ := hE; exact Rdr.only hW h1 h2 h3)
  case fin =>
    rintro x w9 hF hU
    obtain ⟨hQ, -⟩ := hU
    repeat apply Exists.intro
    exact ⟨rfl, rfl, hQ⟩

set_option maxRecDepth 100000 in
set_option maxHeartbeats 4000000 in
theorem to2 (cs : Array Value) (mb br p k c : Nat) (bs : List Nat) (v : Value) (Ao : Option Addr) (xss : List (List Value)) (na nb : Nat) (w0 : World) (hcf : cs[4]? = some (.slice Ao k c)) (hl : xss.length = k) (hk : k ≤ 70000) (hmb : w0.heap.size ≤ mb) (hbr : w0.heap.size ≤ br) (hp : p + 40 ≤ 8 * bs.length) (hna : num bs p 32 = na) (hnb : num bs (p + 32) 8 = nb) (ha : na < 4294967296) (hb : nb < 256) (u2 u3 u4 u5 u6 u7 u8 u9 u10 u11 u12 u13 u14 u15 u16 u17 u18 u19 u20 u21 u22 u23 u24 u25 u26 u27 : Value) (Q : Exit → Act → World → Prop) (w : World) (hG : Mp cs mb w0 w) (hR0 : Rdr w br bs p 0 v) (hown : OwnS w w0.heap.size 85 2 (.slice Ao k c) xss)
    (hend : ∀ (y9 y10 y11 y12 y13 y14 y15 y16 y17 y18 y19 y20 y21 y22 y23 y24 : Value) (w' : World), (∃ A' c', Mp (cs.setIfInBounds 4 (.slice A' (k + 1) c')) mb w0 w' ∧ OwnS w' w0.heap.size 85 2 (.slice A' (k + 1) c') (xss ++ [[Value.int .u32 (na : Nat), Value.int .u8 (nb : Nat)]]) ∧ Rdr w' br bs (p + 40) 0 v) → Q .normal ⟨(List.toArray (.pointer (some ⟨mb, 0, none⟩) :: .pointer (some ⟨br, 0, none⟩) :: u2 :: u3 :: u4 :: u5 :: u6 :: u7 :: u8 :: y9 :: y10 :: y11 :: y12 :: y13 :: y14 :: y15 :: y16 :: y17 :: y18 :: y19 :: y20 :: y21 :: y22 :: y23 :: y24 :: u25 :: u26 :: u27 :: [])), []⟩ w') :
    Code.wp Try.prog to2_code Q ⟨(List.toArray (.pointer (some ⟨mb, 0, none⟩) :: .pointer (some ⟨br, 0, none⟩) :: u2 :: u3 :: u4 :: u5 :: u6 :: u7 :: u8 :: u9 :: u10 :: u11 :: u12 :: u13 :: u14 :: u15 :: u16 :: u17 :: u18 :: u19 :: u20 :: u21 :: u22 :: u23 :: u24 :: u25 :: u26 :: u27 :: [])), []⟩ w := by
  refine wp_mono (to2_in cs mb br p k c bs v Ao xss na nb w0 hcf hl hk hmb hbr hp hna hnb ha hb _ _ _ _ _ _ _ _ _ _ _ _ _ _ _ _ _ _ _ _ _ _ _ _ _ _ w hG hR0 hown) ?_
  rintro e a w' h
  obtain ⟨y9, h⟩ := h
  obtain ⟨y10, h⟩ := h
  obtain ⟨y11, h⟩ := h
  obtain ⟨y12, h⟩ := h
  obtain ⟨y13, h⟩ := h
  obtain ⟨y14, h⟩ := h
  obtain ⟨y15, h⟩ := h
  obtain ⟨y16, h⟩ := h
  obtain ⟨y17, h⟩ := h
  obtain ⟨y18, h⟩ := h
  obtain ⟨y19, h⟩ := h
  obtain ⟨y20, h⟩ := h
  obtain ⟨y21, h⟩ := h
  obtain ⟨y22, h⟩ := h
  obtain ⟨y23, h⟩ := h
  obtain ⟨y24, h⟩ := h
  obtain ⟨h, rfl, hq⟩ := h
  subst h
  exact hend y9 y10 y11 y12 y13 y14 y15 y16 y17 y18 y19 y20 y21 y22 y23 y24 w' hq
def tr4_A : List (List Nat) := ([] :: [] :: [1] :: [2, 1] :: [3, 2, 1] :: [] :: [5] :: [6, 5] :: [7, 6, 5] :: (4 :: 8 :: 6 :: 3 :: 2 :: 1 :: 7 :: 5 :: []) :: (0 :: 1 :: 2 :: 3 :: 4 :: 5 :: 6 :: 7 :: 8 :: 9 :: []) :: (10 :: 0 :: 1 :: 2 :: 3 :: 4 :: 5 :: 6 :: 7 :: 8 :: 9 :: []) :: (11 :: 9 :: 0 :: 1 :: 2 :: 3 :: 4 :: 5 :: 6 :: 7 :: 8 :: 10 :: []) :: [])
def tr4_kill : List (List Nat) := ([] :: [] :: [] :: [] :: [] :: [] :: [13] :: [] :: [] :: [8, 14] :: [] :: [] :: [6, 8, 9, 13, 14] :: [])
def tr4_uses : List (List Nat) := ([] :: [] :: [] :: [] :: [] :: [] :: [13] :: [] :: [] :: [8, 14, 6] :: [] :: [] :: [9, 6] :: [])
noncomputable def tr4_code : Code := ((Try.f76.body.bind (codeRegion 4)).getD .skip)
set_option maxRecDepth 100000 in
set_option maxHeartbeats 4000000 in
theorem tr4_in (cs : Array Value) (mb br p k c : Nat) (bs : List Nat) (v : Value) (Ao : Option Addr) (xss : List (List Value)) (na q : Nat) (f f1 : Int) (w0 : World) (hcf : cs[7]? = some (.slice Ao k c)) (hl : xss.length = k) (hk : k ≤ 70000) (hmb : w0.heap.size ≤ mb) (hbr : w0.heap.size ≤ br) (ht : ∀ wx, Rdr wx br bs p f v → Calls Try.prog 57 #[.pointer (some ⟨br, 0, none⟩), .int .i64 32] wx (Took wx br bs q f1 v (na : Nat))) (ha : na < 4294967296) (u2 u3 u4 u5 u6 u7 u8 u9 u10 u11 u12 u13 u14 u15 u16 u17 u18 u19 u20 u21 u22 u23 u24 u25 u26 u27 u28 u29 u30 u31 u32 u33 u34 : Value) (w : World) (hG : Mp cs mb w0 w) (hR0 : Rdr w br bs p f v) (hown : OwnS w w0.heap.size 22 1 (.slice Ao k c) xss) :
    Code.wp Try.prog tr4_code (fun e a w' => ∃ y22 y23 y24 y25 y26 y27 y28 y29 y30 y31 y32 y33 : Value, a = ⟨(List.toArray (.pointer (some ⟨mb, 0, none⟩) :: .pointer (some ⟨br, 0, none⟩) :: u2 :: u3 :: u4 :: u5 :: u6 :: u7 :: u8 :: u9 :: u10 :: u11 :: u12 :: u13 :: u14 :: u15 :: u16 :: u17 :: u18 :: u19 :: u20 :: u21 :: y22 :: y23 :: y24 :: y25 :: y26 :: y27 :: y28 :: y29 :: y30 :: y31 :: y32 :: y33 :: u34 :: [])), []⟩ ∧ e = .normal ∧ (∃ A' c', Mp (cs.setIfInBounds 7 (.slice A' (k + 1) c')) mb w0 w' ∧ OwnS w' w0.heap.size 22 1 (.slice A' (k + 1) c') (xss ++ [[Value.int .u32 (na : Nat)]]) ∧ Rdr w' br bs q f1 v)) ⟨(List.toArray (.pointer (some ⟨mb, 0, none⟩) :: .pointer (some ⟨br, 0, none⟩) :: u2 :: u3 :: u4 :: u5 :: u6 :: u7 :: u8 :: u9 :: u10 :: u11 :: u12 :: u13 :: u14 :: u15 :: u16 :: u17 :: u18 :: u19 :: u20 :: u21 :: u22 :: u23 :: u24 :: u25 :: u26 :: u27 :: u28 :: u29 :: u30 :: u31 :: u32 :: u33 :: u34 :: [])), []⟩ w := by
  conv => arg 2; whnf
  have HCF := Lib.hid hcf
  clear hcf
  have HTK := Lib.hid ht
  have e3 : IntKind.u32.wrap (na : Int) = (na : Int) := by rw [IntKind.wrap_u32]; omega
  clear ht
  refine wp_region_posts tr4_A [6, 8, 9, 12] [6, 8, 9, 12, 13, 14] tr4_kill tr4_uses [12] [12] [] [13, 14]
      (some ?v0 :: some ?v1 :: some ?v2 :: some ?v3 :: some ?v4 :: some ?v5 :: some (.int .u64 (na : Nat)) :: some ?v7 :: none :: none :: some ?v10 :: some ?v11 :: none :: [])
      ?T (fun wx => Mp cs mb w0 wx) ?W ?E (by kernel_rfl) (by kernel_rfl) (by kernel_rfl) (fun x => ?hT) ?hF ?hini (Reg.all_ops ?runs) ?pres ?fin
  case W => exact fun j x w' => match j with | 6 => Rdr w' br bs q f1 v | 8 => ∃ g, x 8 = .slice (some ⟨g, 0, none⟩) 1 1 ∧ Is w' g 22 [Value.int .u32 (na : Nat)].toArray | 9 => ∃ A' c', x 9 = .slice A' (k + 1) c' ∧ OwnS w' w0.heap.size 22 1 (.slice A' (k + 1) c') (xss ++ [[Value.int .u32 (na : Nat)]]) | 12 => ∃ A' c', Mp (cs.setIfInBounds 7 (.slice A' (k + 1) c')) mb w0 w' ∧ OwnS w' w0.heap.size 22 1 (.slice A' (k + 1) c') (xss ++ [[Value.int .u32 (na : Nat)]]) ∧ Rdr w' br bs q f1 v | 13 => Rdr w' br bs p f v | 14 => OwnS w' w0.heap.size 22 1 (.slice Ao k c) xss | _ => True
  case E => exact fun i wx wy => match i with | 6 => Only (fun k => k = br) wx wy ∧ ∃ ds, Is wx br 127 ds | 8 => Only (fun _ => False) wx wy | 9 => ∃ S, Only S wx wy ∧ ¬ S br ∧ ∀ k, v.ownBlock = some k → ¬ S k | _ => True
  case hT =>
    simp only [Reg.fillV, Act.put, List.setIfInBounds_toArray, List.set_cons_zero, List.set_cons_succ]
    rfl
  case runs =>
    refine And.intro ?_ ?_
    · refine Reg.ob_pure (fun _ => rfl) rfl rfl rfl rfl (fun x w1 hF => ?_)
      have cf : w1.cell? ⟨mb, 7, none⟩ = some (.slice Ao k c) := (hF.io.cell 7).trans HCF.out
      go_simp
      with_reducible rfl
    refine And.intro ?_ ?_
    · refine Reg.ob_pure (fun _ => rfl) rfl rfl rfl rfl (fun x w1 hF => ?_)
      have cf : w1.cell? ⟨mb, 7, none⟩ = some (.slice Ao k c) := (hF.io.cell 7).trans HCF.out
      go_simp
      with_reducible rfl
    refine And.intro ?_ ?_
    · refine Reg.ob_pure (fun _ => rfl) rfl rfl rfl rfl (fun x w1 hF => ?_)
      have cf : w1.cell? ⟨mb, 7, none⟩ = some (.slice Ao k c) := (hF.io.cell 7).trans HCF.out
      go_simp
      with_reducible rfl
    refine And.intro ?_ ?_
    · refine Reg.ob_pure (fun _ => rfl) rfl rfl rfl rfl (fun x w1 hF => ?_)
      have cf : w1.cell? ⟨mb, 7, none⟩ = some (.slice Ao k c) := (hF.io.cell 7).trans HCF.out
      go_simp
      with_reducible rfl
    refine And.intro ?_ ?_
    · refine Reg.ob_pure (fun _ => rfl) rfl rfl rfl rfl (fun x w1 hF => ?_)
      have cf : w1.cell? ⟨mb, 7, none⟩ = some (.slice Ao k c) := (hF.io.cell 7).trans HCF.out
      go_simp
      with_reducible rfl
    refine And.intro ?_ ?_
    · refine Reg.ob_pure (fun _ => rfl) rfl rfl rfl rfl (fun x w1 hF => ?_)
      have cf : w1.cell? ⟨mb, 7, none⟩ = some (.slice Ao k c) := (hF.io.cell 7).trans HCF.out
      go_simp
      with_reducible rfl
    refine And.intro ?_ ?_
    · refine Reg.ob_told (fun _ => rfl) rfl (fun x w1 hF hU K hK => ?_)
      replace hF := hF rfl
      obtain ⟨hR, -⟩ := hU
      have hR : Rdr w1 br bs p f v := hR
      have HT := HTK.out w1 hR
      go_simp
      refine HT.mono ?_
      rintro e w5 ⟨rfl, hR2, ho⟩
      exact hK w5 (fun _ _ _ => hF.took hbr hR ho) ⟨ho, _, hR.is⟩ hR2
    refine And.intro ?_ ?_
    · refine Reg.ob_pure (fun _ => rfl) rfl rfl rfl rfl (fun x w1 hF => ?_)
      have cf : w1.cell? ⟨mb, 7, none⟩ = some (.slice Ao k c) := (hF.io.cell 7).trans HCF.out
      go_simp
      with_reducible rfl
    refine And.intro ?_ ?_
    · refine Reg.ob_some (fun _ => rfl) rfl (fun x w1 hF hU K hK => ?_)
      replace hF := hF rfl
      go_simp
      exact hK _ _ (fun _ _ _ => hF.go ((Only.refl _ _).alloc _)) ((Only.refl _ _).alloc _) ⟨_, rfl, Is.made _ _ _⟩
    refine And.intro ?_ ?_
    · refine Reg.ob_some (fun _ => rfl) rfl (fun x w1 hF hU K hK => ?_)
      replace hF := hF rfl
      obtain ⟨⟨g, hx, hI⟩, hO, hR, -⟩ := hU
      have hx : x 8 = .slice (some ⟨g, 0, none⟩) 1 1 := hx
      have hO : OwnS w1 w0.heap.size 22 1 (.slice Ao k c) xss := hO
      have hR : Rdr w1 br bs q f1 v := hR
      refine append_run w1 _ _ sty_u32 rfl w0.heap.size (.slice Ao k c) xss rfl hO g [Value.int .u32 (na : Nat)] (by simpa [Act.eval] using hx) hI rfl (by simp [Value.oneCell']) (by omega) (by decide) hF.pure.size ?_
      intro v' w' hown ho
      obtain ⟨A', c', rfl, -⟩ := OwnS.slice hown
      have e : (xss ++ [[Value.int .u32 (na : Nat)]]).length = k + 1 := by rw [List.length_append, hl]; rfl
      rw [e] at hown
      rw [e]
      exact hK _ w' (fun _ _ _ => hF.far hO.1 (by decide) ho) ⟨_, ho, owned_off hO.1 hR.is (by decide), fun k' hk' e' => owned_apart hO.1 hR.row (by decide) k' e' hk'⟩ ⟨A', c', rfl, hown⟩
    refine And.intro ?_ ?_
    · refine Reg.ob_pure (fun _ => rfl) rfl rfl rfl rfl (fun x w1 hF => ?_)
      have cf : w1.cell? ⟨mb, 7, none⟩ = some (.slice Ao k c) := (hF.io.cell 7).trans HCF.out
      go_simp
      with_reducible rfl
    refine And.intro ?_ ?_
    · refine Reg.ob_pure (fun _ => rfl) rfl rfl rfl rfl (fun x w1 hF => ?_)
      have cf : w1.cell? ⟨mb, 7, none⟩ = some (.slice Ao k c) := (hF.io.cell 7).trans HCF.out
      go_simp
      with_reducible rfl
    refine And.intro ?_ ?_
    · refine Reg.ob_some (fun _ => rfl) rfl (fun x w1 hF hU K hK => ?_)
      replace hF := hF rfl
      obtain ⟨⟨A', c', hx, hO⟩, hR, -⟩ := hU
      have hx : x 9 = .slice A' (k + 1) c' := hx
      have hR : Rdr w1 br bs q f1 v := hR
      have ff := hF.io.free 7
      have cf : w1.cell? ⟨mb, 7, none⟩ = some (.slice Ao k c) := (hF.io.cell 7).trans HCF.out
      revert hK
      simp only [Nat.reduceAdd, hx]
      intro hK
      go_simp
      exact hK undef _ (fun _ h _ => by cases h) trivial ⟨A', c', hF.put hmb 7 _, fx_own hO hF.io (by decide) 7 _, fx_rdr hR hF.io 7 _⟩
    exact trivial
  case hF =>
    exact hG.go ((Only.refl _ _).drewN 1)
  case hini =>
    exact ⟨fun x => hR0.drewN 1, fun x => OwnS.only hown ((Only.refl (fun _ => False) w).drewN 1) (by simp), trivial⟩
  case pres =>
    intro i hi j hj hc x wx wy hF hE hW
    simp only [List.mem_cons, List.mem_nil_iff, or_false] at hi hj
    rcases hi with rfl | rfl | rfl | rfl <;> rcases hj with rfl | rfl | rfl | rfl | rfl | rfl
    all_goals first
      | (exfalso; revert hc; decide)
      | (obtain ⟨h1, ds, h2⟩ := hE; exact OwnS.only hW h1 (fun k hk e => owned_off hW.1 h2 (by decide) (by rw [hk, e])))
      | exact OwnS.only hW hE (by simp)
      | exact Rdr.only hW hE (by simp) (by simp)
      | (obtain ⟨S, h1, h2, h3⟩ := hE; exact Rdr.only hW h1 h2 h3)
  case fin =>
    rintro x w9 hF hU
    obtain ⟨hQ, -⟩ := hU
    repeat apply Exists.intro
    exact ⟨rfl, rfl, hQ⟩

set_option maxRecDepth 100000 in
set_option maxHeartbeats 4000000 in
theorem tr4 (cs : Array Value) (mb br p k c : Nat) (bs : List Nat) (v : Value) (Ao : Option Addr) (xss : List (List Value)) (na q : Nat) (f f1 : Int) (w0 : World) (hcf : cs[7]? = some (.slice Ao k c)) (hl : xss.length = k) (hk : k ≤ 70000) (hmb : w0.heap.size ≤ mb) (hbr : w0.heap.size ≤ br) (ht : ∀ wx, Rdr wx br bs p f v → Calls Try.prog 57 #[.pointer (some ⟨br, 0, none⟩), .int .i64 32] wx (Took wx br bs q f1 v (na : Nat))) (ha : na < 4294967296) (u2 u3 u4 u5 u6 u7 u8 u9 u10 u11 u12 u13 u14 u15 u16 u17 u18 u19 u20 u21 u22 u23 u24 u25 u26 u27 u28 u29 u30 u31 u32 u33 u34 : Value) (Q : Exit → Act → World → Prop) (w : World) (hG : Mp cs mb w0 w) (hR0 : Rdr w br bs p f v) (hown : OwnS w w0.heap.size 22 1 (.slice Ao k c) xss)
    (hend : ∀ (y22 y23 y24 y25 y26 y27 y28 y29 y30 y31 y32 y33 : Value) (w' : World), (∃ A' c', Mp (cs.setIfInBounds 7 (.slice A' (k + 1) c')) mb w0 w' ∧ OwnS w' w0.heap.size 22 1 (.slice A' (k + 1) c') (xss ++ [[Value.int .u32 (na : Nat)]]) ∧ Rdr w' br bs q f1 v) → Q .normal ⟨(List.toArray (.pointer (some ⟨mb, 0, none⟩) :: .pointer (some ⟨br, 0, none⟩) :: u2 :: u3 :: u4 :: u5 :: u6 :: u7 :: u8 :: u9 :: u10 :: u11 :: u12 :: u13 :: u14 :: u15 :: u16 :: u17 :: u18 :: u19 :: u20 :: u21 :: y22 :: y23 :: y24 :: y25 :: y26 :: y27 :: y28 :: y29 :: y30 :: y31 :: y32 :: y33 :: u34 :: [])), []⟩ w') :
    Code.wp Try.prog tr4_code Q ⟨(List.toArray (.pointer (some ⟨mb, 0, none⟩) :: .pointer (some ⟨br, 0, none⟩) :: u2 :: u3 :: u4 :: u5 :: u6 :: u7 :: u8 :: u9 :: u10 :: u11 :: u12 :: u13 :: u14 :: u15 :: u16 :: u17 :: u18 :: u19 :: u20 :: u21 :: u22 :: u23 :: u24 :: u25 :: u26 :: u27 :: u28 :: u29 :: u30 :: u31 :: u32 :: u33 :: u34 :: [])), []⟩ w := by
  refine wp_mono (tr4_in cs mb br p k c bs v Ao xss na q f f1 w0 hcf hl hk hmb hbr ht ha _ _ _ _ _ _ _ _ _ _ _ _ _ _ _ _ _ _ _ _ _ _ _ _ _ _ _ _ _ _ _ _ _ w hG hR0 hown) ?_
  rintro e a w' h
  obtain ⟨y22, h⟩ := h
  obtain ⟨y23, h⟩ := h
  obtain ⟨y24, h⟩ := h
  obtain ⟨y25, h⟩ := h
  obtain ⟨y26, h⟩ := h
  obtain ⟨y27, h⟩ := h
  obtain ⟨y28, h⟩ := h
  obtain ⟨y29, h⟩ := h
  obtain ⟨y30, h⟩ := h
  obtain ⟨y31, h⟩ := h
  obtain ⟨y32, h⟩ := h
  obtain ⟨y33, h⟩ := h
  obtain ⟨h, rfl, hq⟩ := h
  subst h
  exact hend y22 y23 y24 y25 y26 y27 y28 y29 y30 y31 y32 y33 w' hq
end Go.Proofs.Ytefcimkopgcagaa

/- takePairs. Conditions: as each says. -/
set_option linter.unusedVariables false
set_option linter.unusedSimpArgs false
namespace Go.Proofs.Ytefcimkopgcagaa
open Go.RowKit

theorem set_self {cs : Array Value} {f : Nat} {u : Value} (h : cs[f]? = some u) : cs.setIfInBounds f u = cs := by
  apply Array.ext
  · simp
  · intro i h1 h2
    rw [Array.getElem_setIfInBounds]
    split
    · subst_vars
      have := Array.getElem?_eq_some_iff.mp h
      exact this.2.symm
    · rfl
theorem set_twice (cs : Array Value) (f : Nat) (u x : Value) : (cs.setIfInBounds f u).setIfInBounds f x = cs.setIfInBounds f x := by
  simp
theorem set_at {cs : Array Value} {f : Nat} (u : Value) (h : f < cs.size) : (cs.setIfInBounds f u)[f]? = some u := by
  simp [Array.getElem?_setIfInBounds, h]
def prAt (bs : List Nat) (p j : Nat) : Pr := ⟨num bs (p + 32 * j) 16, num bs (p + 32 * j + 16) 16⟩
theorem fy_wrap (j : Nat) (h : j < 3000) : wrap64 ((j : Int) + 1) = (j : Int) + 1 := IntWalk.wrap64_in _ (by omega)
theorem fy_end (cs : Array Value) (mb br p n j L : Nat) (bs : List Nat) (v : Value) (w0 w5 : World) (A' : Option Addr) (c' : Nat) (hjn : j < n) (hl : bs.length ≤ 10000) (hL : 8 * bs.length - p = L) (hn : L / 32 = n)
    (hG : Mp (cs.setIfInBounds 3 (.slice A' (j + 1) c')) mb w0 w5) (hO : OwnS w5 w0.heap.size 82 2 (.slice A' (j + 1) c') (((List.range (j + 1)).map (prAt bs p)).map Pr.lst)) (hR : Rdr w5 br bs (p + 32 * (j + 1)) 0 v) :
    (∃ (i : Nat) (A : Option Addr) (c : Nat), Value.int .i64 (wrap64 ((j : Int) + 1)) = .int .i64 (i : Int) ∧ i ≤ n ∧ Mp (cs.setIfInBounds 3 (.slice A i c)) mb w0 w5 ∧ OwnS w5 w0.heap.size 82 2 (.slice A i c) (((List.range i).map (prAt bs p)).map Pr.lst) ∧ Rdr w5 br bs (p + 32 * i) 0 v) ∧
      n - (intOf (Value.int .i64 (wrap64 ((j : Int) + 1)))).toNat < n - (intOf (Value.int .i64 (j : Int))).toNat := by
  have h3 : j < 3000 := by omega
  rw [fy_wrap j h3]
  exact ⟨⟨j + 1, A', c', rfl, by omega, hG, hO, hR⟩, by simp [intOf]; omega⟩
set_option maxRecDepth 100000 in
set_option maxHeartbeats 4000000 in
theorem takepairs_is (cs : Array Value) (mb br p n : Nat) (bs : List Nat) (f : Int) (v : Value) (w0 w : World) (hcf : cs[3]? = some (.slice none 0 0)) (hl : bs.length ≤ 10000) (hmb : w0.heap.size ≤ mb) (hbr : w0.heap.size ≤ br)
    (hG : Mp cs mb w0 w) (hR : Rdr w br bs p f v) (hn : (8 * bs.length - p) / 32 = n) (hf : f = 0 ∨ n = 0) :
    Calls Try.prog 70 #[.pointer (some ⟨mb, 0, none⟩), .pointer (some ⟨br, 0, none⟩)] w fun e w' => e = .returned (.tuple #[]) ∧ ∃ A c, Mp (cs.setIfInBounds 3 (.slice A n c)) mb w0 w' ∧ OwnS w' w0.heap.size 82 2 (.slice A n c) (((List.range n).map (prAt bs p)).map Pr.lst) ∧ Rdr w' br bs (p + 32 * n) f v := by
  have HLF := Lib.hid (show ∀ wx, Rdr wx br bs p f v → Calls Try.prog 60 #[.pointer (some ⟨br, 0, none⟩)] wx fun e w' => e = .returned (.int .i64 ((8 * bs.length - p : Nat) : Int)) ∧ ∃ n, w' = wx.drewN n from fun wx h => left_rdr br p bs f v wx h)
  have HP := Lib.hid hR.place
  have HL := Lib.hid hl
  obtain ⟨L, hL⟩ : ∃ L, 8 * bs.length - p = L := ⟨_, rfl⟩
  rw [hL] at HLF hn
  have HLL := Lib.hid hL
  have HN := Lib.hid hn
  have HC := Lib.hid hcf
  have e1 : (L : Int) / 32 = (n : Int) := by omega
  have e1t : (L : Int).tdiv 32 = (n : Int) := by rw [Int.tdiv_eq_ediv_of_nonneg (by omega)]; exact e1
  have hw : wrap64 (n : Int) = (n : Int) := IntWalk.wrap64_in _ (by omega)
  have HF := Lib.hid hf
  have HG := Lib.hid hG
  have HR := Lib.hid hR
  clear hR hG hf hcf hn hL hl
  go_enter Try.func70, Try.ntmps70
  go_wp2_with (go_at_call 60; refine (HLF.out w HR.out).mono ?_; rintro e w1 ⟨rfl, d1, rfl⟩)
  go_loopw [7] (fun i wr => ∃ (j : Nat) (A : Option Addr) (c : Nat), i = .int .i64 (j : Int) ∧ j ≤ n ∧ Mp (cs.setIfInBounds 3 (.slice A j c)) mb w0 wr ∧ OwnS wr w0.heap.size 82 2 (.slice A j c) (((List.range j).map (prAt bs p)).map Pr.lst) ∧ Rdr wr br bs (p + 32 * j) f v) (fun i _ => n - (intOf i).toNat)
  case atStart => exact ⟨0, none, 0, rfl, by omega, by rw [set_self HC.out]; exact HG.out.go ((Only.refl (fun _ => False) w).drewN d1), OwnS.nil _ _ _ _, HR.out.drewN d1⟩
  case round =>
    obtain ⟨j, A, c, rfl, hj, hG, hown, hR⟩ := hrel
    have GJ := Lib.hid hG
    have OJ := Lib.hid hown
    have RJ := Lib.hid hR
    clear hG hown hR
    by_cases hjn : j < n
    · have hjI : (j : Int) < (n : Int) := by omega
      obtain rfl : f = 0 := by have := HF.out; omega
      have hsz : 3 < cs.size := by
        have := Array.getElem?_eq_some_iff.mp HC.out
        exact this.1
      have HPA := Lib.hid (show prAt bs p j = ⟨num bs (p + 32 * j) 16, num bs (p + 32 * j + 16) 16⟩ from rfl)
      have hna := num_lt bs (p + 32 * j) 16
      have hnb := num_lt bs (p + 32 * j + 16) 16
      obtain ⟨na, h1⟩ : ∃ x, num bs (p + 32 * j) 16 = x := ⟨_, rfl⟩
      obtain ⟨nb, h2⟩ : ∃ x, num bs (p + 32 * j + 16) 16 = x := ⟨_, rfl⟩
      rw [h1] at HPA hna
      rw [h2] at HPA hnb
      have H1 := Lib.hid h1
      have H2 := Lib.hid h2
      clear h1 h2
      go_upto_region 2 with (fail)
      refine tp2 (cs.setIfInBounds 3 (.slice A j c)) mb br (p + 32 * j) j c bs v A (((List.range j).map (prAt bs p)).map Pr.lst) na nb w0 (set_at _ hsz) (by simp) (by have := HL.out; have := HN.out; have := HLL.out; omega) hmb hbr (by have := HN.out; have := HLL.out; omega) H1.out H2.out (by simpa using hna) (by simpa using hnb) _ _ _ _ _ _ _ _ _ _ _ _ _ _ _ _ _ _ _ _ _ _ _ _ _ wr GJ.out RJ.out OJ.out ?_
      rintro y9 y10 y11 y12 y13 y14 y15 y16 y17 y18 y19 y20 y21 y22 y23 y24 w5 ⟨A', c', hG, hown, hR⟩
      rw [set_twice] at hG
      have G2 := Lib.hid hG
      have O2 := Lib.hid (show OwnS w5 w0.heap.size 82 2 (.slice A' (j + 1) c') (((List.range (j + 1)).map (prAt bs p)).map Pr.lst) from by
        rw [List.range_succ, List.map_append, List.map_append, List.map_singleton, List.map_singleton, HPA.out]
        exact hown)
      have R2 := Lib.hid (show Rdr w5 br bs (p + 32 * (j + 1)) 0 v from hR)
      clear hG hown hR GJ OJ RJ
      go_wp2
      exact fy_end cs mb br p n j L bs v w0 w5 A' c' hjn HL.out HLL.out HN.out G2.out O2.out R2.out
    · obtain rfl : j = n := by omega
      go_wp2
      exact bodyPost_end (v := .tuple #[]) (by simp [results, Try.results70]) rfl ⟨rfl, A, c, GJ.out, OJ.out, RJ.out⟩
end Go.Proofs.Ytefcimkopgcagaa

/- takeOrders. Conditions: as each says. -/
set_option linter.unusedVariables false
set_option linter.unusedSimpArgs false
namespace Go.Proofs.Ytefcimkopgcagaa
open Go.RowKit

def odAt (bs : List Nat) (p j : Nat) : Od := ⟨num bs (p + 64 * j) 32, num bs (p + 64 * j + 32) 8⟩
theorem fz_end (cs : Array Value) (mb br p n j L : Nat) (bs : List Nat) (v : Value) (w0 w5 : World) (A' : Option Addr) (c' : Nat) (hjn : j < n) (hl : bs.length ≤ 10000) (hL : 8 * bs.length - p = L) (hn : L / 64 = n)
    (hG : Mp (cs.setIfInBounds 4 (.slice A' (j + 1) c')) mb w0 w5) (hO : OwnS w5 w0.heap.size 85 2 (.slice A' (j + 1) c') (((List.range (j + 1)).map (odAt bs p)).map Od.lst)) (hR : Rdr w5 br bs (p + 64 * (j + 1)) 0 v) :
    (∃ (i : Nat) (A : Option Addr) (c : Nat), Value.int .i64 (wrap64 ((j : Int) + 1)) = .int .i64 (i : Int) ∧ i ≤ n ∧ Mp (cs.setIfInBounds 4 (.slice A i c)) mb w0 w5 ∧ OwnS w5 w0.heap.size 85 2 (.slice A i c) (((List.range i).map (odAt bs p)).map Od.lst) ∧ Rdr w5 br bs (p + 64 * i) 0 v) ∧
      n - (intOf (Value.int .i64 (wrap64 ((j : Int) + 1)))).toNat < n - (intOf (Value.int .i64 (j : Int))).toNat := by
  have h3 : j < 3000 := by omega
  rw [fy_wrap j h3]
  exact ⟨⟨j + 1, A', c', rfl, by omega, hG, hO, hR⟩, by simp [intOf]; omega⟩
set_option maxRecDepth 100000 in
set_option maxHeartbeats 4000000 in
theorem takeorders_is (cs : Array Value) (mb br p n : Nat) (bs : List Nat) (f : Int) (v : Value) (w0 w : World) (hcf : cs[4]? = some (.slice none 0 0)) (hl : bs.length ≤ 10000) (hmb : w0.heap.size ≤ mb) (hbr : w0.heap.size ≤ br)
    (hG : Mp cs mb w0 w) (hR : Rdr w br bs p f v) (hn : (8 * bs.length - p) / 64 = n) (hf : f = 0 ∨ n = 0) :
    Calls Try.prog 74 #[.pointer (some ⟨mb, 0, none⟩), .pointer (some ⟨br, 0, none⟩)] w fun e w' => e = .returned (.tuple #[]) ∧ ∃ A c, Mp (cs.setIfInBounds 4 (.slice A n c)) mb w0 w' ∧ OwnS w' w0.heap.size 85 2 (.slice A n c) (((List.range n).map (odAt bs p)).map Od.lst) ∧ Rdr w' br bs (p + 64 * n) f v := by
  have HLF := Lib.hid (show ∀ wx, Rdr wx br bs p f v → Calls Try.prog 60 #[.pointer (some ⟨br, 0, none⟩)] wx fun e w' => e = .returned (.int .i64 ((8 * bs.length - p : Nat) : Int)) ∧ ∃ n, w' = wx.drewN n from fun wx h => left_rdr br p bs f v wx h)
  have HP := Lib.hid hR.place
  have HL := Lib.hid hl
  obtain ⟨L, hL⟩ : ∃ L, 8 * bs.length - p = L := ⟨_, rfl⟩
  rw [hL] at HLF hn
  have HLL := Lib.hid hL
  have HN := Lib.hid hn
  have HC := Lib.hid hcf
  have e1 : (L : Int) / 64 = (n : Int) := by omega
  have e1t : (L : Int).tdiv 64 = (n : Int) := by rw [Int.tdiv_eq_ediv_of_nonneg (by omega)]; exact e1
  have hw : wrap64 (n : Int) = (n : Int) := IntWalk.wrap64_in _ (by omega)
  have HF := Lib.hid hf
  have HG := Lib.hid hG
  have HR := Lib.hid hR
  clear hR hG hf hcf hn hL hl
  go_enter Try.func74, Try.ntmps74
  go_wp2_with (go_at_call 60; refine (HLF.out w HR.out).mono ?_; rintro e w1 ⟨rfl, d1, rfl⟩)
  rw [hw]
  go_loopw [7] (fun i wr => ∃ (j : Nat) (A : Option Addr) (c : Nat), i = .int .i64 (j : Int) ∧ j ≤ n ∧ Mp (cs.setIfInBounds 4 (.slice A j c)) mb w0 wr ∧ OwnS wr w0.heap.size 85 2 (.slice A j c) (((List.range j).map (odAt bs p)).map Od.lst) ∧ Rdr wr br bs (p + 64 * j) f v) (fun i _ => n - (intOf i).toNat)
  case atStart => exact ⟨0, none, 0, rfl, by omega, by rw [set_self HC.out]; exact HG.out.go ((Only.refl (fun _ => False) w).drewN d1), OwnS.nil _ _ _ _, HR.out.drewN d1⟩
  case round =>
    obtain ⟨j, A, c, rfl, hj, hG, hown, hR⟩ := hrel
    have GJ := Lib.hid hG
    have OJ := Lib.hid hown
    have RJ := Lib.hid hR
    clear hG hown hR
    by_cases hjn : j < n
    · have hjI : (j : Int) < (n : Int) := by omega
      obtain rfl : f = 0 := by have := HF.out; omega
      have hsz : 4 < cs.size := by
        have := Array.getElem?_eq_some_iff.mp HC.out
        exact this.1
      have HPA := Lib.hid (show odAt bs p j = ⟨num bs (p + 64 * j) 32, num bs (p + 64 * j + 32) 8⟩ from rfl)
      have hna := num_lt bs (p + 64 * j) 32
      have hnb := num_lt bs (p + 64 * j + 32) 8
      obtain ⟨na, h1⟩ : ∃ x, num bs (p + 64 * j) 32 = x := ⟨_, rfl⟩
      obtain ⟨nb, h2⟩ : ∃ x, num bs (p + 64 * j + 32) 8 = x := ⟨_, rfl⟩
      rw [h1] at HPA hna
      rw [h2] at HPA hnb
      have H1 := Lib.hid h1
      have H2 := Lib.hid h2
      clear h1 h2
      go_upto_region 2 with (fail)
      refine to2 (cs.setIfInBounds 4 (.slice A j c)) mb br (p + 64 * j) j c bs v A (((List.range j).map (odAt bs p)).map Od.lst) na nb w0 (set_at _ hsz) (by simp) (by have := HL.out; have := HN.out; have := HLL.out; omega) hmb hbr (by have := HN.out; have := HLL.out; omega) H1.out H2.out (by simpa using hna) (by simpa using hnb) _ _ _ _ _ _ _ _ _ _ _ _ _ _ _ _ _ _ _ _ _ _ _ _ _ _ _ wr GJ.out RJ.out OJ.out ?_
      rintro y9 y10 y11 y12 y13 y14 y15 y16 y17 y18 y19 y20 y21 y22 y23 y24 w5 ⟨A', c', hG, hown, hR⟩
      rw [set_twice] at hG
      have G1 := Lib.hid hG
      have O1 := Lib.hid hown
      have R1 := Lib.hid (show Rdr w5 br bs (p + 64 * j + 40) 0 v from hR)
      clear hG hown hR GJ OJ RJ
      have HS := Lib.hid (show Calls Try.prog 78 #[.pointer (some ⟨br, 0, none⟩), .int .i64 24] w5 fun e w' => e = .returned (.tuple #[]) ∧ Rdr w' br bs (p + 64 * j + 40 + 24) 0 v ∧ Only (fun k => k = br) w5 w' from skip_ok br (p + 64 * j + 40) 24 bs v w5 R1.out (by have := HN.out; have := HLL.out; omega))
      go_wp2_with (go_at_call 78; refine HS.out.mono ?_; rintro e w6 ⟨rfl, hr6, ho6⟩; have G2 := Lib.hid (G1.out.took hbr R1.out ho6); have R2 := Lib.hid (show Rdr w6 br bs (p + 64 * (j + 1)) 0 v from hr6); have O2 := Lib.hid (show OwnS w6 w0.heap.size 85 2 (.slice A' (j + 1) c') (((List.range (j + 1)).map (odAt bs p)).map Od.lst) from by
        rw [List.range_succ, List.map_append, List.map_append, List.map_singleton, List.map_singleton, HPA.out]
        exact OwnS.only O1.out ho6 (fun k hk e => owned_off O1.out.1 R1.out.is (by decide) (by rw [hk, e]))); clear hr6 ho6)
      exact fz_end cs mb br p n j L bs v w0 w6 A' c' hjn HL.out HLL.out HN.out G2.out O2.out R2.out
    · obtain rfl : j = n := by omega
      go_wp2
      exact bodyPost_end (v := .tuple #[]) (by simp [results, Try.results74]) rfl ⟨rfl, A, c, GJ.out, OJ.out, RJ.out⟩
end Go.Proofs.Ytefcimkopgcagaa

/- takeRate. Conditions: as each says. -/
set_option linter.unusedVariables false
set_option linter.unusedSimpArgs false
namespace Go.Proofs.Ytefcimkopgcagaa
open Go.RowKit

/-- What a reader at s gives when n digits are asked of it, and where it stands then. -/
def tk (bs : List Nat) (n : Nat) (s : Nat × Int) : Nat × Nat × Int :=
  if asked s.2 n 64 (8 * bs.length - s.1) 1 = 0 then (num bs s.1 n, s.1 + n, 0) else (0, s.1, asked s.2 n 64 (8 * bs.length - s.1) 1)
theorem tk_lt (bs : List Nat) (n : Nat) (s : Nat × Int) : (tk bs n s).1 < 2 ^ n := by
  unfold tk
  split
  · exact num_lt _ _ _
  · exact Nat.two_pow_pos n
theorem tk_is (b p n : Nat) (bs : List Nat) (f : Int) (v : Value) (w : World) (h : Rdr w b bs p f v) (hn : n ≤ 64) :
    Calls Try.prog 57 #[.pointer (some ⟨b, 0, none⟩), .int .i64 n] w (Took w b bs (tk bs n (p, f)).2.1 (tk bs n (p, f)).2.2 v ((tk bs n (p, f)).1 : Nat)) := by
  unfold tk
  by_cases ha : asked f n 64 (8 * bs.length - p) 1 = 0
  · rw [if_pos ha]
    obtain ⟨rfl, -, -, hle⟩ := asked_ok ha
    have hp := h.place
    exact take_ok b p n bs v w h hn (by omega)
  · rw [if_neg ha]
    exact take_fail b p bs f n _ v w h rfl ha
/-- Numbers of 32 digits taken one after another. -/
def tkS (bs : List Nat) : Nat → Nat × Int → List Nat × Nat × Int
  | 0, s => ([], s.1, s.2)
  | n + 1, s => ((tkS bs n s).1 ++ [(tk bs 32 (tkS bs n s).2).1], (tk bs 32 (tkS bs n s).2).2)
theorem tkS_length (bs : List Nat) (s : Nat × Int) : ∀ n, (tkS bs n s).1.length = n
  | 0 => rfl
  | n + 1 => by simp [tkS, tkS_length bs s n]
end Go.Proofs.Ytefcimkopgcagaa
