/- rtcp: splitOne. Conditions: as each says. -/
import Derived.Test.YtdhkcffjhcoloaaRcA
import Derived.Test.YtdhkcffjhcoloaaStep
import Derived.Test.YtdhkcffjhcoloaaReg
import Derived.Deep.DeepCutAuto
import Derived.Deep.DrawnRows
import Derived.StillTailTactics
import Derived.Laws.BitsAllLaws
set_option linter.unusedVariables false
namespace Go.Proofs.Ytdhkcffjhcoloaa
open Go.RowKit

def zeroP : Array Value := #[.int .u8 0, .int .u8 0, .slice none 0 0, .int .u8 0]
theorem zeroP_one : zeroP.all (·.oneCell') = true := by simp [zeroP, Value.oneCell']
theorem Try.sizeRc : (Try.prog.info? 36).map (·.size) = some 4 := by kernel_rfl
/-- What is answered of a struct and two values. -/
theorem results_three {P : Program} {fn : Func} {p q r : Tmp} {ty : TypeId} (h : fn.results = #[.cell p ty, .tmp q, .tmp r]) (tmps : Array Value) (w : World) (g : Nat) (t : TypeId) (cs : Array Value) (d : TypeDesc) (x y : Value)
    (hp : tmps.getD p undef = .pointer (some ⟨g, 0, none⟩)) (hq : tmps.getD q undef = x) (hr : tmps.getD r undef = y) (hg : Is w g t cs)
    (hu : P.underlying ty = some d) (hd : (match d with | .struct _ | .array _ _ => true | _ => false) = true) (hi : (P.info? ty).map (·.size) = some cs.size) :
    (results fn tmps).run P w = .ok (.tuple #[.agg cs, x, y]) w := by
  have hp' : tmps[p]?.getD undef = .pointer (some ⟨g, 0, none⟩) := by simpa using hp
  have hq' : tmps[q]?.getD undef = x := by simpa using hq
  have hr' : tmps[r]?.getD undef = y := by simpa using hr
  simp [results, h, hp', hq', hr', asAddr, run_loadVar_row w g t ty cs (0, 0) d hg hu hd hi]
theorem only_made {w w1 : World} {o : Obj} (h : Only (fun k => k = w.heap.size) (w.alloc o) w1) : Only (fun _ => False) w w1 :=
  ((Only.refl _ w).alloc o).trans h (fun i hi e => by omega)

def w16 (bs : List Nat) : Nat := bt bs 2 * 256 + bt bs 3
def oneSz (bs : List Nat) : Nat := 4 + 4 * w16 bs
def oneBody (bs : List Nat) : List Nat := (bs.drop 4).take (4 * w16 bs)
def padFlag (bs : List Nat) : Bool := bt bs 0 / 32 % 2 == 1
def oneErr (bs : List Nat) (leads : Bool) : Nat :=
  if bs.length < 4 then 10
  else if bt bs 0 / 64 ≠ 2 then 20
  else if (leads && !(bt bs 1 == 200 || bt bs 1 == 201)) = true then 60
  else if bs.length < oneSz bs then 61
  else if padFlag bs = true ∧ (padOk (oneBody bs) = false ∨ oneSz bs < bs.length) then 21
  else 0

set_option maxRecDepth 100000 in
set_option maxHeartbeats 2000000 in
theorem one_short (v : Value) (bs : List Nat) (leads : Bool) (w : World) (hs : Src w v bs) (h : bs.length < 4) :
    Calls Try.prog 53 #[v, .bool leads] w fun e w' => e = .returned (.tuple #[.agg zeroP, .int .i64 0, .int .i64 10]) ∧ Only (fun _ => False) w w' := by
  obtain ⟨A, c, rfl⟩ := hs.slice
  have z : decide ((bs.length : Int) < 4) = true := decide_eq_true (by omega)
  have HI := Lib.hid (Is.made w 36 zeroP)
  clear hs h
  go_enter Try.func53, Try.ntmps53
  go_wp2_with (refine wpList_store_is rfl 36 _ _ rfl w.heap.size zeroP rfl rfl 36 zeroP HI.out Try.sizeRc rfl zeroP_one ?_; intro w5 hi5 ho5)
  exact bodyPost_ret (results_three Try.results53 _ w5 w.heap.size 36 zeroP _ _ _ rfl rfl rfl hi5 Try.underlying36 rfl Try.sizeRc) rfl ⟨rfl, only_made ho5⟩

theorem i64_or_small (a b : Nat) (ha : a < 65536) (hb : b < 65536) : bits .or .i64 (a : Int) (b : Int) = ((a ||| b : Nat) : Int) := by
  have hx : a ||| b < 2 ^ 16 := Nat.or_lt_two_pow (by omega) (by omega)
  show IntKind.i64.wrap ((BitVec.ofInt 64 (a : Int) ||| BitVec.ofInt 64 (b : Int)).toNat : Int) = _
  rw [BitVec.toNat_or, BitVec.ofInt_natCast, BitVec.ofInt_natCast, BitVec.toNat_ofNat, BitVec.toNat_ofNat, Nat.mod_eq_of_lt (by omega), Nat.mod_eq_of_lt (by omega)]
  exact IntWalk.i64_in _ (by omega)
theorem shift_or (a b : Nat) (ha : a < 256) (hb : b < 256) : bits .or .i64 ((a : Int) * 256) (b : Int) = ((a * 256 + b : Nat) : Int) := by
  have e := i64_or_small (a * 256) b (by omega) (by omega)
  have h := Nat.two_pow_add_eq_or_of_lt (i := 8) (b := b) (by omega) a
  rw [show ((a : Int) * 256) = ((a * 256 : Nat) : Int) from by omega, e, show a * 256 = 2 ^ 8 * a from by omega, ← h]
theorem u8_and31 (x : Nat) (h : x < 256) : bits .and .u8 (x : Int) 31 = ((x % 32 : Nat) : Int) := by
  have : ∀ i : Fin 256, bits .and .u8 ((i.val : Nat) : Int) 31 = ((i.val % 32 : Nat) : Int) := by decide +kernel
  exact this ⟨x, h⟩
theorem u8_and32 (x : Nat) (h : x < 256) : (bits .and .u8 (x : Int) 32 != 0) = (x / 32 % 2 == 1) := by
  have : ∀ i : Fin 256, (bits .and .u8 ((i.val : Nat) : Int) 32 != 0) = (i.val / 32 % 2 == 1) := by decide +kernel
  exact this ⟨x, h⟩
def headP (bs : List Nat) : Array Value := #[.int .u8 (bt bs 0 % 32 : Nat), .int .u8 (bt bs 1 : Nat), .slice none 0 0, .int .u8 0]
theorem headP_one (bs : List Nat) : (headP bs).all (·.oneCell') = true := by simp [headP, Value.oneCell']

def onePad (bs : List Nat) : Nat := if padFlag bs then bt (oneBody bs) ((oneBody bs).length - 1) else 0
def oneRest (bs : List Nat) : List Nat := (oneBody bs).take ((oneBody bs).length - onePad bs)
/-- What splitOne answers. -/
def OneEnd (er : Nat) (bs : List Nat) (w : World) (e : Ending) (w' : World) : Prop :=
  Only (fun _ => False) w w' ∧ ((er ≠ 0 ∧ e = .returned (.tuple #[.agg zeroP, .int .i64 0, .int .i64 er])) ∨
    (er = 0 ∧ ∃ u, e = .returned (.tuple #[.agg #[.int .u8 (bt bs 0 % 32 : Nat), .int .u8 (bt bs 1 : Nat), u, .int .u8 (onePad bs : Nat)], .int .i64 (oneSz bs : Nat), .int .i64 0]) ∧ w'.ownsRow w.heap.size 5 1 u (oneRest bs).length (cellsOf (oneRest bs))))

set_option maxRecDepth 100000 in
set_option maxHeartbeats 2000000 in
theorem one_long (v : Value) (bs : List Nat) (leads : Bool) (w : World) (hs : Src w v bs) (hb : ∀ x ∈ bs, x < 256) (hl : bs.length ≤ 1000000) (h : ¬ bs.length < 4) :
    Calls Try.prog 53 #[v, .bool leads] w (OneEnd (oneErr bs leads) bs w) := by
  obtain ⟨g, o, c, rfl, hlc, hc⟩ := hs.cap (by omega)
  have hc' : ∀ j, j < bs.length → w.cell? ⟨g, o + j, none⟩ = some (.int .u8 (bt bs j : Nat)) := fun j hj => by rw [hc j hj, bt_get hj]
  have h0 := bt_lt hb 0
  have h1 := bt_lt hb 1
  have h2 := bt_lt hb 2
  have h3 := bt_lt hb 3
  have s0 : bits .or .i64 ((bt bs 2 : Int) * 256) (bt bs 3 : Int) = ((w16 bs : Nat) : Int) := shift_or (bt bs 2) (bt bs 3) h2 h3
  have hw : w16 bs < 65536 := by unfold w16; omega
  obtain ⟨er, her⟩ : ∃ e, oneErr bs leads = e := ⟨_, rfl⟩
  rw [her]
  have HER := Lib.hid her
  have HI := Lib.hid (Is.made w 36 zeroP)
  have hgl := World.block_lt_of_cell? w _ (hc' 0 (by omega))
  clear her hc hs
  have z : decide ((bs.length : Int) < 4) = false := decide_eq_false (by omega)
  have x0 : 0 < bs.length := by omega
  have x0' : (0 : Int) < (bs.length : Int) := by omega
  have x1 : 1 < bs.length := by omega
  have x1' : (1 : Int) < (bs.length : Int) := by omega
  have x2 : 2 < bs.length := by omega
  have x2' : (2 : Int) < (bs.length : Int) := by omega
  have x3 : 3 < bs.length := by omega
  have x3' : (3 : Int) < (bs.length : Int) := by omega
  go_enter Try.func53, Try.ntmps53
  go_upto_region 1 with (fail)
  obtain ⟨rb, hrb⟩ : ∃ rb, w.heap.size = rb := ⟨_, rfl⟩
  generalize hw0 : World.alloc _ _ = w0
  have HI0 : Is w0 w.heap.size 36 zeroP := by rw [← hw0]; exact Is.made _ _ _
  have P0 := Lib.hid (show Only (fun _ => False) w w0 from by rw [← hw0]; exact (Only.refl _ w).alloc _)
  rw [hrb] at HI0 ⊢
  have HI1 := Lib.hid HI0
  have HRB := Lib.hid hrb
  clear hw0 HI HI0 hrb
  have HQ := Lib.hid (show ∀ j, j < bs.length → w0.cell? ⟨g, o + j, none⟩ = some (.int .u8 (bt bs j : Nat)) from fun j hj => by rw [P0.out.cell (by exact hgl) (by simp)]; exact hc' j hj)
  have c0 := HQ.out 0 (by omega)
  rw [Nat.add_zero] at c0
  have c1 := HQ.out 1 (by omega)
  have c2 := HQ.out 2 (by omega)
  have c3 := HQ.out 3 (by omega)
  clear hc'
  have HB := Lib.hid hb
  clear hb
  by_cases hv : bt bs 0 / 64 = 2
  · have zv : ((bt bs 0 : Int) / 64 != 2) = false := by simp; omega
    have s1 : IntKind.i64.wrap (4 * (w16 bs : Int)) = 4 * (w16 bs : Int) := IntWalk.i64_in _ (by omega)
    have s2 : IntKind.i64.wrap (4 + 4 * (w16 bs : Int)) = 4 + 4 * (w16 bs : Int) := IntWalk.i64_in _ (by omega)
    by_cases hF : (leads && !(bt bs 1 == 200 || bt bs 1 == 201)) = true
    · obtain ⟨rfl, hbg⟩ : leads = true ∧ (bt bs 1 == 200 || bt bs 1 == 201) = false := by simpa using hF
      have h60 : er = 60 := by rw [← HER.out]; unfold oneErr; rw [if_neg h, if_neg (by omega), if_pos hF]
      subst h60
      clear hF
      go_wp2_with (first | (go_at_call 48; refine (begins_is (bt bs 1) _).mono ?_; rw [hbg]; rintro e wy ⟨rfl, rfl⟩) | (refine wpList_store_is rfl 36 _ _ rfl rb zeroP rfl rfl 36 zeroP HI1.out Try.sizeRc rfl zeroP_one ?_; intro w5 hi5 ho5))
      exact bodyPost_ret (results_three Try.results53 _ w5 rb 36 zeroP _ _ _ rfl rfl rfl hi5 Try.underlying36 rfl Try.sizeRc) rfl ⟨P0.out.trans ho5 (fun i hi e => by have := HRB.out; omega), .inl ⟨by decide, rfl⟩⟩
    · have hcase : leads = false ∨ (leads = true ∧ (bt bs 1 == 200 || bt bs 1 == 201) = true) := by
        cases leads
        · exact .inl rfl
        · right; exact ⟨rfl, by revert hF; cases (bt bs 1 == 200 || bt bs 1 == 201) <;> simp⟩
      have HE2 := Lib.hid (show er = if bs.length < oneSz bs then 61 else if padFlag bs = true ∧ (padOk (oneBody bs) = false ∨ oneSz bs < bs.length) then 21 else 0 from by rw [← HER.out]; unfold oneErr; rw [if_neg h, if_neg (by omega), if_neg hF])
      clear hF HER
      rcases hcase with rfl | ⟨rfl, hbg⟩
      · go_upto_region 7 with (fail)
        go_quiet (fail)
        generalize hwq : w0.drewN nq = w1
        have Q1 := Lib.hid (show ∀ j, j < bs.length → w1.cell? ⟨g, o + j, none⟩ = some (.int .u8 (bt bs j : Nat)) from by rw [← hwq]; exact HQ.out)
        have I1 := Lib.hid (show Is w1 rb 36 zeroP from by rw [← hwq]; exact HI1.out)
        have P1 := Lib.hid (show Only (fun _ => False) w w1 from by rw [← hwq]; exact P0.out.drewN _)
        clear hwq c0 c1 c2 c3 s0 s1 s2
        by_cases h61 : bs.length < oneSz bs
        · have he : er = 61 := by rw [HE2.out, if_pos h61]
          subst he
          have z61 : decide ((bs.length : Int) < 4 + 4 * (w16 bs : Int)) = true := decide_eq_true (by unfold oneSz at h61; omega)
          go_wp2_with (refine wpList_store_is rfl 36 _ _ rfl rb zeroP rfl rfl 36 zeroP I1.out Try.sizeRc rfl zeroP_one ?_; intro w5 hi5 ho5)
          exact bodyPost_ret (results_three Try.results53 _ w5 rb 36 zeroP _ _ _ rfl rfl rfl hi5 Try.underlying36 rfl Try.sizeRc) rfl ⟨P1.out.trans ho5 (fun i hi e => by have := HRB.out; omega), .inl ⟨by decide, rfl⟩⟩
        · have z61 : decide ((bs.length : Int) < 4 + 4 * (w16 bs : Int)) = false := decide_eq_false (by unfold oneSz at h61; omega)
          have c0 := Q1.out 0 (by omega)
          rw [Nat.add_zero] at c0
          have c1 := Q1.out 1 (by omega)
          have e31 := u8_and31 (bt bs 0) h0
          go_upto_region 10 with (fail)
          go_still_tail 8, (by kernel_rfl)
          go_upto_region 11 with (refine wpList_store_is rfl 36 _ _ rfl rb (headP bs) rfl rfl 36 zeroP (show Is w1.drew rb 36 zeroP from I1.out) Try.sizeRc rfl (headP_one bs) ?_; intro w2 hi2 ho2)
          have P2 := Lib.hid (show Only (fun _ => False) w w2 from P1.out.drew.trans ho2 (fun i hi e => by have := HRB.out; omega))
          have I2 := Lib.hid hi2
          have Q2 := Lib.hid (show ∀ j (hj : j < bs.length), w2.cell? ⟨g, o + j, none⟩ = some (.int .u8 (bs[j] : Int)) from fun j hj => by
            rw [P2.out.cell (by exact hgl) (by simp), ← P1.out.cell (by exact hgl) (by simp), Q1.out j hj, bt_get hj])
          have h61' : oneSz bs ≤ bs.length := by omega
          unfold oneSz at h61'
          clear c0 c1 e31 hi2 ho2
          simp only [Act.put]
          go_cut [7] (fun s7 wx => wx = w2 ∧ ∃ o7, s7 = .slice (some ⟨g, o7, none⟩) (4 * w16 bs) (c - 4) ∧ Src w2 s7 (oneBody bs))
          case first =>
            have t1 : (4 + 4 * (w16 bs : Int)).toNat = 4 + 4 * w16 bs := by omega
            have t2 : (4 : Int) ≤ 4 + 4 * (w16 bs : Int) := by omega
            have t3 : 4 + 4 * (w16 bs : Int) ≤ (c : Int) := by omega
            have t4 : 4 + 4 * w16 bs ≤ c := by omega
            have t5 : 0 ≤ 4 + 4 * (w16 bs : Int) := by omega
            by_cases hc4 : c = 4
            · subst hc4
              have HW0 := Lib.hid (show w16 bs = 0 from by omega)
              go_wp2_with fail
              go_meet
              exact ⟨rfl, o, by rw [HW0.out], src_nil rfl (by have := HW0.out; omega) (by unfold oneBody; rw [HW0.out]; rfl)⟩
            · go_wp2_with fail
              go_meet
              exact ⟨rfl, _, rfl, src_cut (c := 0) 4 (4 * w16 bs) Q2.out (by omega) rfl (by omega)⟩
          case rest =>
            obtain ⟨hw2, o7, rfl, hs7⟩ := hcut
            subst hw2
            generalize wc = w2 at *
            have LB : (oneBody bs).length = 4 * w16 bs := by unfold oneBody; rw [List.length_take, List.length_drop]; omega
            have HBB := Lib.hid (show ∀ x ∈ oneBody bs, x < 256 from fun x hx => HB.out x (List.mem_of_mem_drop (List.mem_of_mem_take hx)))
            have S7 := Lib.hid hs7
            have HPP := Lib.hid (padding_is (.slice (some ⟨g, o7, none⟩) (4 * w16 bs) (c - 4)) (oneBody bs) w2 hs7 HBB.out (by omega))
            have c0 := Q2.out 0 (by omega)
            rw [Nat.add_zero, ← bt_get (bs := bs) (i := 0) (by omega)] at c0
            have e32 := u8_and32 (bt bs 0) h0
            have HLB := Lib.hid LB
            rw [show (bt bs 0 / 32 % 2 == 1) = padFlag bs from rfl] at e32
            clear hs7 LB
            go_upto_if 61 with (fail)
            clear c0 e32
            go_cut [5, 8, 9] (fun s5 s8 s9 wx => s5 = .int .i64 (4 + 4 * (w16 bs : Int)) ∧ ¬ (padFlag bs = true ∧ (padOk (oneBody bs) = false ∨ oneSz bs < bs.length)) ∧ Is wx rb 36 #[.int .u8 (bt bs 0 % 32 : Nat), .int .u8 (bt bs 1 : Nat), .slice none 0 0, .int .u8 (onePad bs : Nat)] ∧ Only (fun _ => False) w wx ∧ Src wx (.slice (some ⟨g, o7, none⟩) (4 * w16 bs) (c - 4)) (oneBody bs))
            case first =>
              have HEP := Lib.hid (show onePad bs = if padFlag bs then bt (oneBody bs) ((oneBody bs).length - 1) else 0 from rfl)
              have HEE := Lib.hid (show er = if padFlag bs = true ∧ (padOk (oneBody bs) = false ∨ oneSz bs < bs.length) then 21 else 0 from by rw [HE2.out, if_neg (by unfold oneSz; omega)])
              generalize onePad bs = pd at *
              generalize bt (oneBody bs) ((oneBody bs).length - 1) = p at *
              generalize hok : padOk (oneBody bs) = ok at *
              generalize hpf : padFlag bs = pf at *
              cases pf
              · go_wp2_with fail
                go_meet
                have hp0 : pd = 0 := HEP.out
                subst hp0
                exact ⟨rfl, by simp, I2.out, P2.out, S7.out⟩
              · have hpp : pd = p := HEP.out
                subst hpp
                cases ok
                · have he : er = 21 := HEE.out
                  subst he
                  go_wp2_with (first | (go_at_call 77; refine HPP.out.mono ?_; rintro e wy ⟨rfl, rfl⟩) | (refine wpList_store_is rfl 36 _ _ rfl rb zeroP rfl rfl 36 (headP bs) I2.out Try.sizeRc rfl zeroP_one ?_; intro w5 hi5 ho5))
                  exact bodyPost_ret (results_three Try.results53 _ w5 rb 36 zeroP _ _ _ rfl rfl rfl hi5 Try.underlying36 rfl Try.sizeRc) rfl ⟨P2.out.trans ho5 (fun i hi e => by have := HRB.out; omega), .inl ⟨by decide, rfl⟩⟩
                · by_cases hsz : oneSz bs < bs.length
                  · have he : er = 21 := by rw [HEE.out, if_pos ⟨rfl, .inr hsz⟩]
                    subst he
                    have zs : decide (4 + 4 * (w16 bs : Int) < (bs.length : Int)) = true := decide_eq_true (by unfold oneSz at hsz; omega)
                    go_wp2_with (first | (go_at_call 77; refine HPP.out.mono ?_; rintro e wy ⟨rfl, rfl⟩) | (refine wpList_store_is rfl 36 _ _ rfl rb zeroP rfl rfl 36 (headP bs) I2.out Try.sizeRc rfl zeroP_one ?_; intro w5 hi5 ho5))
                    exact bodyPost_ret (results_three Try.results53 _ w5 rb 36 zeroP _ _ _ rfl rfl rfl hi5 Try.underlying36 rfl Try.sizeRc) rfl ⟨P2.out.trans ho5 (fun i hi e => by have := HRB.out; omega), .inl ⟨by decide, rfl⟩⟩
                  · have zs : decide (4 + 4 * (w16 bs : Int) < (bs.length : Int)) = false := decide_eq_false (by unfold oneSz at hsz; omega)
                    have q3 := I2.out.cell 3
                    have f3 := I2.out.free 3
                    simp [headP] at q3
                    go_wp2_with (first | (go_at_call 77; refine HPP.out.mono ?_; rintro e wy ⟨rfl, rfl⟩))
                    go_meet
                    exact ⟨rfl, fun h => h.2.elim (fun h => by cases h) hsz, I2.out.put 3 _, Only.set (S := fun _ => False) (p := ⟨rb, 3, none⟩) P2.out (fun h => by have := HRB.out; exact absurd h (by show ¬ rb < w.heap.size; omega)) _, S7.out.only (Only.set (S := fun k => k = rb) (p := ⟨rb, 3, none⟩) (Only.refl _ w2) (fun _ => rfl) _) (fun k hk e => by have := HRB.out; simp [Value.ownBlock] at hk; omega)⟩
            case rest =>
              obtain ⟨rfl, hnb, hi3, ho3, hs3⟩ := hcut
              generalize wc = w3 at *
              have he : er = 0 := by rw [HE2.out, if_neg (by unfold oneSz; omega), if_neg hnb]
              subst he
              have hpl : onePad bs ≤ 4 * w16 bs ∧ onePad bs < 256 := by
                unfold onePad
                cases hpf : padFlag bs
                · simp
                · have hk : padOk (oneBody bs) = true := by
                    cases hk : padOk (oneBody bs)
                    · exact absurd ⟨hpf, .inl hk⟩ hnb
                    · rfl
                  unfold padOk at hk
                  simp only [Bool.and_eq_true, decide_eq_true_eq] at hk
                  have := HLB.out
                  have := bt_lt HBB.out ((oneBody bs).length - 1)
                  simp only [if_true]
                  omega
              have LR : (oneRest bs).length = 4 * w16 bs - onePad bs := by unfold oneRest; rw [List.length_take, HLB.out]; omega
              have S3 := Lib.hid (show Src w3 (.slice (some ⟨g, o7, none⟩) (4 * w16 bs - onePad bs) (c - 4)) (oneRest bs) from by
                have := src_take hs3 (4 * w16 bs - onePad bs) (by rw [HLB.out]; omega)
                unfold oneRest
                rw [HLB.out]
                exact this)
              have HCL := Lib.hid (clone_src _ (oneRest bs) w3 w.heap.size ho3.size S3.out (by omega))
              have I3 := Lib.hid hi3
              have P3 := Lib.hid ho3
              have HLR := Lib.hid LR
              obtain ⟨pd, hpd⟩ : ∃ pd, onePad bs = pd := ⟨_, rfl⟩
              obtain ⟨hpl1, hpl2⟩ := hpl
              have q3 := hi3.cell 3
              simp at q3
              rw [hpd] at hpl1 hpl2 q3 HCL
              have u1 : IntKind.i64.wrap (4 * (w16 bs : Int) - (pd : Int)) = 4 * (w16 bs : Int) - (pd : Int) := IntWalk.i64_in _ (by omega)
              have u2 : (4 * (w16 bs : Int) - (pd : Int)).toNat = 4 * w16 bs - pd := by omega
              have u3 : 0 ≤ 4 * (w16 bs : Int) - (pd : Int) := by omega
              have u4 : 4 * (w16 bs : Int) - (pd : Int) ≤ (c : Int) - 4 := by omega
              have u5 : 4 * (w16 bs : Int) - (pd : Int) ≤ ((c - 4 : Nat) : Int) := by omega
              have HPD := Lib.hid hpd
              clear hpd hs3 hi3 ho3 LR
              go_wp2_with fail
              refine HCL.out.mono ?_
              rintro e w4 ⟨u, rfl, hu, ho4, -⟩
              rw [length_cellsOf] at hu
              obtain ⟨A4, c4, rfl, -⟩ := own_slice hu
              have I4 := Lib.hid (I3.out.only ho4 (by simp))
              have P4 := Lib.hid (show Only (fun _ => False) w w4 from P3.out.trans ho4 (fun _ _ e => e))
              have HU := Lib.hid hu
              have q2 := I4.out.cell 2
              have f2 := I4.out.free 2
              simp at q2
              clear hu ho4 q3 u1 u2 u3 u4 u5
              go_upto_region 18 with (fail)
              generalize hwk : World.setCell w4 _ _ = w5
              have I5 : Is w5 rb 36 #[.int .u8 (bt bs 0 % 32 : Nat), .int .u8 (bt bs 1 : Nat), .slice A4 (oneRest bs).length c4, .int .u8 (onePad bs : Nat)] := by rw [← hwk]; exact I4.out.put 2 _
              have P45 : Only (fun k => k = rb) w4 w5 := by rw [← hwk]; exact Only.set (S := fun k => k = rb) (p := ⟨rb, 2, none⟩) (Only.refl _ w4) (fun _ => rfl) _
              have P5 := Lib.hid (show Only (fun _ => False) w w5 from P4.out.trans P45 (fun i hi e => by have := HRB.out; omega))
              have hu5 := own_only HU.out P45 (fun k hk e => row_apart I4.out HU.out (by decide) (by rw [hk, e]))
              have HU5 := Lib.hid hu5
              have J5 := Lib.hid I5
              have V5 := Lib.hid (show (#[.int .u8 (bt bs 0 % 32 : Nat), .int .u8 (bt bs 1 : Nat), .slice A4 (oneRest bs).length c4, .int .u8 (onePad bs : Nat)] : Array Value).all (·.oneCell') = true from by simp [Value.oneCell'])
              clear hwk I5 P45 hu5 q2 f2
              go_wp2_with (first
                | (refine wpList_load_want (o := ⟨some 88, _, _, _, _, _⟩) rfl _ _ rfl rb rfl _ _ _ J5.out Try.underlying36 rfl Try.sizeRc ?_)
                | (refine wpList_store_is rfl 36 _ _ rfl rb _ rfl rfl 36 _ J5.out Try.sizeRc rfl V5.out ?_; intro w6 hi6 ho6))
              have hsz : ((oneSz bs : Nat) : Int) = 4 + 4 * (w16 bs : Int) := by unfold oneSz; omega
              refine bodyPost_ret (results_three Try.results53 _ w6 rb 36 _ _ _ _ rfl rfl rfl hi6 Try.underlying36 rfl Try.sizeRc) rfl ⟨P5.out.trans ho6 (fun i hi e => by have := HRB.out; omega), .inr ⟨rfl, _, (by rw [hsz]; rfl), own_only HU5.out ho6 (fun k hk e => row_apart J5.out HU5.out (by decide) (by rw [hk, e]))⟩⟩
      · go_upto_region 7 with (go_at_call 48; refine (begins_is (bt bs 1) _).mono ?_; rw [hbg]; rintro e wy ⟨rfl, rfl⟩)
        go_quiet (fail)
        generalize hwq : w0.drewN nq = w1
        have Q1 := Lib.hid (show ∀ j, j < bs.length → w1.cell? ⟨g, o + j, none⟩ = some (.int .u8 (bt bs j : Nat)) from by rw [← hwq]; exact HQ.out)
        have I1 := Lib.hid (show Is w1 rb 36 zeroP from by rw [← hwq]; exact HI1.out)
        have P1 := Lib.hid (show Only (fun _ => False) w w1 from by rw [← hwq]; exact P0.out.drewN _)
        clear hwq c0 c1 c2 c3 s0 s1 s2
        by_cases h61 : bs.length < oneSz bs
        · have he : er = 61 := by rw [HE2.out, if_pos h61]
          subst he
          have z61 : decide ((bs.length : Int) < 4 + 4 * (w16 bs : Int)) = true := decide_eq_true (by unfold oneSz at h61; omega)
          go_wp2_with (refine wpList_store_is rfl 36 _ _ rfl rb zeroP rfl rfl 36 zeroP I1.out Try.sizeRc rfl zeroP_one ?_; intro w5 hi5 ho5)
          exact bodyPost_ret (results_three Try.results53 _ w5 rb 36 zeroP _ _ _ rfl rfl rfl hi5 Try.underlying36 rfl Try.sizeRc) rfl ⟨P1.out.trans ho5 (fun i hi e => by have := HRB.out; omega), .inl ⟨by decide, rfl⟩⟩
        · have z61 : decide ((bs.length : Int) < 4 + 4 * (w16 bs : Int)) = false := decide_eq_false (by unfold oneSz at h61; omega)
          have c0 := Q1.out 0 (by omega)
          rw [Nat.add_zero] at c0
          have c1 := Q1.out 1 (by omega)
          have e31 := u8_and31 (bt bs 0) h0
          go_upto_region 10 with (fail)
          go_still_tail 8, (by kernel_rfl)
          go_upto_region 11 with (refine wpList_store_is rfl 36 _ _ rfl rb (headP bs) rfl rfl 36 zeroP (show Is w1.drew rb 36 zeroP from I1.out) Try.sizeRc rfl (headP_one bs) ?_; intro w2 hi2 ho2)
          have P2 := Lib.hid (show Only (fun _ => False) w w2 from P1.out.drew.trans ho2 (fun i hi e => by have := HRB.out; omega))
          have I2 := Lib.hid hi2
          have Q2 := Lib.hid (show ∀ j (hj : j < bs.length), w2.cell? ⟨g, o + j, none⟩ = some (.int .u8 (bs[j] : Int)) from fun j hj => by
            rw [P2.out.cell (by exact hgl) (by simp), ← P1.out.cell (by exact hgl) (by simp), Q1.out j hj, bt_get hj])
          have h61' : oneSz bs ≤ bs.length := by omega
          unfold oneSz at h61'
          clear c0 c1 e31 hi2 ho2
          simp only [Act.put]
          go_cut [7] (fun s7 wx => wx = w2 ∧ ∃ o7, s7 = .slice (some ⟨g, o7, none⟩) (4 * w16 bs) (c - 4) ∧ Src w2 s7 (oneBody bs))
          case first =>
            have t1 : (4 + 4 * (w16 bs : Int)).toNat = 4 + 4 * w16 bs := by omega
            have t2 : (4 : Int) ≤ 4 + 4 * (w16 bs : Int) := by omega
            have t3 : 4 + 4 * (w16 bs : Int) ≤ (c : Int) := by omega
            have t4 : 4 + 4 * w16 bs ≤ c := by omega
            have t5 : 0 ≤ 4 + 4 * (w16 bs : Int) := by omega
            by_cases hc4 : c = 4
            · subst hc4
              have HW0 := Lib.hid (show w16 bs = 0 from by omega)
              go_wp2_with fail
              go_meet
              exact ⟨rfl, o, by rw [HW0.out], src_nil rfl (by have := HW0.out; omega) (by unfold oneBody; rw [HW0.out]; rfl)⟩
            · go_wp2_with fail
              go_meet
              exact ⟨rfl, _, rfl, src_cut (c := 0) 4 (4 * w16 bs) Q2.out (by omega) rfl (by omega)⟩
          case rest =>
            obtain ⟨hw2, o7, rfl, hs7⟩ := hcut
            subst hw2
            generalize wc = w2 at *
            have LB : (oneBody bs).length = 4 * w16 bs := by unfold oneBody; rw [List.length_take, List.length_drop]; omega
            have HBB := Lib.hid (show ∀ x ∈ oneBody bs, x < 256 from fun x hx => HB.out x (List.mem_of_mem_drop (List.mem_of_mem_take hx)))
            have S7 := Lib.hid hs7
            have HPP := Lib.hid (padding_is (.slice (some ⟨g, o7, none⟩) (4 * w16 bs) (c - 4)) (oneBody bs) w2 hs7 HBB.out (by omega))
            have c0 := Q2.out 0 (by omega)
            rw [Nat.add_zero, ← bt_get (bs := bs) (i := 0) (by omega)] at c0
            have e32 := u8_and32 (bt bs 0) h0
            have HLB := Lib.hid LB
            rw [show (bt bs 0 / 32 % 2 == 1) = padFlag bs from rfl] at e32
            clear hs7 LB
            go_upto_if 61 with (fail)
            clear c0 e32
            go_cut [5, 8, 9] (fun s5 s8 s9 wx => s5 = .int .i64 (4 + 4 * (w16 bs : Int)) ∧ ¬ (padFlag bs = true ∧ (padOk (oneBody bs) = false ∨ oneSz bs < bs.length)) ∧ Is wx rb 36 #[.int .u8 (bt bs 0 % 32 : Nat), .int .u8 (bt bs 1 : Nat), .slice none 0 0, .int .u8 (onePad bs : Nat)] ∧ Only (fun _ => False) w wx ∧ Src wx (.slice (some ⟨g, o7, none⟩) (4 * w16 bs) (c - 4)) (oneBody bs))
            case first =>
              have HEP := Lib.hid (show onePad bs = if padFlag bs then bt (oneBody bs) ((oneBody bs).length - 1) else 0 from rfl)
              have HEE := Lib.hid (show er = if padFlag bs = true ∧ (padOk (oneBody bs) = false ∨ oneSz bs < bs.length) then 21 else 0 from by rw [HE2.out, if_neg (by unfold oneSz; omega)])
              generalize onePad bs = pd at *
              generalize bt (oneBody bs) ((oneBody bs).length - 1) = p at *
              generalize hok : padOk (oneBody bs) = ok at *
              generalize hpf : padFlag bs = pf at *
              cases pf
              · go_wp2_with fail
                go_meet
                have hp0 : pd = 0 := HEP.out
                subst hp0
                exact ⟨rfl, by simp, I2.out, P2.out, S7.out⟩
              · have hpp : pd = p := HEP.out
                subst hpp
                cases ok
                · have he : er = 21 := HEE.out
                  subst he
                  go_wp2_with (first | (go_at_call 77; refine HPP.out.mono ?_; rintro e wy ⟨rfl, rfl⟩) | (refine wpList_store_is rfl 36 _ _ rfl rb zeroP rfl rfl 36 (headP bs) I2.out Try.sizeRc rfl zeroP_one ?_; intro w5 hi5 ho5))
                  exact bodyPost_ret (results_three Try.results53 _ w5 rb 36 zeroP _ _ _ rfl rfl rfl hi5 Try.underlying36 rfl Try.sizeRc) rfl ⟨P2.out.trans ho5 (fun i hi e => by have := HRB.out; omega), .inl ⟨by decide, rfl⟩⟩
                · by_cases hsz : oneSz bs < bs.length
                  · have he : er = 21 := by rw [HEE.out, if_pos ⟨rfl, .inr hsz⟩]
                    subst he
                    have zs : decide (4 + 4 * (w16 bs : Int) < (bs.length : Int)) = true := decide_eq_true (by unfold oneSz at hsz; omega)
                    go_wp2_with (first | (go_at_call 77; refine HPP.out.mono ?_; rintro e wy ⟨rfl, rfl⟩) | (refine wpList_store_is rfl 36 _ _ rfl rb zeroP rfl rfl 36 (headP bs) I2.out Try.sizeRc rfl zeroP_one ?_; intro w5 hi5 ho5))
                    exact bodyPost_ret (results_three Try.results53 _ w5 rb 36 zeroP _ _ _ rfl rfl rfl hi5 Try.underlying36 rfl Try.sizeRc) rfl ⟨P2.out.trans ho5 (fun i hi e => by have := HRB.out; omega), .inl ⟨by decide, rfl⟩⟩
                  · have zs : decide (4 + 4 * (w16 bs : Int) < (bs.length : Int)) = false := decide_eq_false (by unfold oneSz at hsz; omega)
                    have q3 := I2.out.cell 3
                    have f3 := I2.out.free 3
                    simp [headP] at q3
                    go_wp2_with (first | (go_at_call 77; refine HPP.out.mono ?_; rintro e wy ⟨rfl, rfl⟩))
                    go_meet
                    exact ⟨rfl, fun h => h.2.elim (fun h => by cases h) hsz, I2.out.put 3 _, Only.set (S := fun _ => False) (p := ⟨rb, 3, none⟩) P2.out (fun h => by have := HRB.out; exact absurd h (by show ¬ rb < w.heap.size; omega)) _, S7.out.only (Only.set (S := fun k => k = rb) (p := ⟨rb, 3, none⟩) (Only.refl _ w2) (fun _ => rfl) _) (fun k hk e => by have := HRB.out; simp [Value.ownBlock] at hk; omega)⟩
            case rest =>
              obtain ⟨rfl, hnb, hi3, ho3, hs3⟩ := hcut
              generalize wc = w3 at *
              have he : er = 0 := by rw [HE2.out, if_neg (by unfold oneSz; omega), if_neg hnb]
              subst he
              have hpl : onePad bs ≤ 4 * w16 bs ∧ onePad bs < 256 := by
                unfold onePad
                cases hpf : padFlag bs
                · simp
                · have hk : padOk (oneBody bs) = true := by
                    cases hk : padOk (oneBody bs)
                    · exact absurd ⟨hpf, .inl hk⟩ hnb
                    · rfl
                  unfold padOk at hk
                  simp only [Bool.and_eq_true, decide_eq_true_eq] at hk
                  have := HLB.out
                  have := bt_lt HBB.out ((oneBody bs).length - 1)
                  simp only [if_true]
                  omega
              have LR : (oneRest bs).length = 4 * w16 bs - onePad bs := by unfold oneRest; rw [List.length_take, HLB.out]; omega
              have S3 := Lib.hid (show Src w3 (.slice (some ⟨g, o7, none⟩) (4 * w16 bs - onePad bs) (c - 4)) (oneRest bs) from by
                have := src_take hs3 (4 * w16 bs - onePad bs) (by rw [HLB.out]; omega)
                unfold oneRest
                rw [HLB.out]
                exact this)
              have HCL := Lib.hid (clone_src _ (oneRest bs) w3 w.heap.size ho3.size S3.out (by omega))
              have I3 := Lib.hid hi3
              have P3 := Lib.hid ho3
              have HLR := Lib.hid LR
              obtain ⟨pd, hpd⟩ : ∃ pd, onePad bs = pd := ⟨_, rfl⟩
              obtain ⟨hpl1, hpl2⟩ := hpl
              have q3 := hi3.cell 3
              simp at q3
              rw [hpd] at hpl1 hpl2 q3 HCL
              have u1 : IntKind.i64.wrap (4 * (w16 bs : Int) - (pd : Int)) = 4 * (w16 bs : Int) - (pd : Int) := IntWalk.i64_in _ (by omega)
              have u2 : (4 * (w16 bs : Int) - (pd : Int)).toNat = 4 * w16 bs - pd := by omega
              have u3 : 0 ≤ 4 * (w16 bs : Int) - (pd : Int) := by omega
              have u4 : 4 * (w16 bs : Int) - (pd : Int) ≤ (c : Int) - 4 := by omega
              have u5 : 4 * (w16 bs : Int) - (pd : Int) ≤ ((c - 4 : Nat) : Int) := by omega
              have HPD := Lib.hid hpd
              clear hpd hs3 hi3 ho3 LR
              go_wp2_with fail
              refine HCL.out.mono ?_
              rintro e w4 ⟨u, rfl, hu, ho4, -⟩
              rw [length_cellsOf] at hu
              obtain ⟨A4, c4, rfl, -⟩ := own_slice hu
              have I4 := Lib.hid (I3.out.only ho4 (by simp))
              have P4 := Lib.hid (show Only (fun _ => False) w w4 from P3.out.trans ho4 (fun _ _ e => e))
              have HU := Lib.hid hu
              have q2 := I4.out.cell 2
              have f2 := I4.out.free 2
              simp at q2
              clear hu ho4 q3 u1 u2 u3 u4 u5
              go_upto_region 18 with (fail)
              generalize hwk : World.setCell w4 _ _ = w5
              have I5 : Is w5 rb 36 #[.int .u8 (bt bs 0 % 32 : Nat), .int .u8 (bt bs 1 : Nat), .slice A4 (oneRest bs).length c4, .int .u8 (onePad bs : Nat)] := by rw [← hwk]; exact I4.out.put 2 _
              have P45 : Only (fun k => k = rb) w4 w5 := by rw [← hwk]; exact Only.set (S := fun k => k = rb) (p := ⟨rb, 2, none⟩) (Only.refl _ w4) (fun _ => rfl) _
              have P5 := Lib.hid (show Only (fun _ => False) w w5 from P4.out.trans P45 (fun i hi e => by have := HRB.out; omega))
              have hu5 := own_only HU.out P45 (fun k hk e => row_apart I4.out HU.out (by decide) (by rw [hk, e]))
              have HU5 := Lib.hid hu5
              have J5 := Lib.hid I5
              have V5 := Lib.hid (show (#[.int .u8 (bt bs 0 % 32 : Nat), .int .u8 (bt bs 1 : Nat), .slice A4 (oneRest bs).length c4, .int .u8 (onePad bs : Nat)] : Array Value).all (·.oneCell') = true from by simp [Value.oneCell'])
              clear hwk I5 P45 hu5 q2 f2
              go_wp2_with (first
                | (refine wpList_load_want (o := ⟨some 88, _, _, _, _, _⟩) rfl _ _ rfl rb rfl _ _ _ J5.out Try.underlying36 rfl Try.sizeRc ?_)
                | (refine wpList_store_is rfl 36 _ _ rfl rb _ rfl rfl 36 _ J5.out Try.sizeRc rfl V5.out ?_; intro w6 hi6 ho6))
              have hsz : ((oneSz bs : Nat) : Int) = 4 + 4 * (w16 bs : Int) := by unfold oneSz; omega
              refine bodyPost_ret (results_three Try.results53 _ w6 rb 36 _ _ _ _ rfl rfl rfl hi6 Try.underlying36 rfl Try.sizeRc) rfl ⟨P5.out.trans ho6 (fun i hi e => by have := HRB.out; omega), .inr ⟨rfl, _, (by rw [hsz]; rfl), own_only HU5.out ho6 (fun k hk e => row_apart J5.out HU5.out (by decide) (by rw [hk, e]))⟩⟩
  · have zv : ((bt bs 0 : Int) / 64 != 2) = true := by simp; omega
    have h20 : er = 20 := by rw [← HER.out]; unfold oneErr; rw [if_neg h, if_pos hv]
    subst h20
    go_wp2_with (refine wpList_store_is rfl 36 _ _ rfl rb zeroP rfl rfl 36 zeroP HI1.out Try.sizeRc rfl zeroP_one ?_; intro w5 hi5 ho5)
    exact bodyPost_ret (results_three Try.results53 _ w5 rb 36 zeroP _ _ _ rfl rfl rfl hi5 Try.underlying36 rfl Try.sizeRc) rfl ⟨P0.out.trans ho5 (fun i hi e => by have := HRB.out; omega), .inl ⟨by decide, rfl⟩⟩
end Go.Proofs.Ytdhkcffjhcoloaa
