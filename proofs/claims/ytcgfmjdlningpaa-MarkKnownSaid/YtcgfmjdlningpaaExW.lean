/- The reference's Put. Conditions: as each says. -/
import Derived.Test.YtcgfmjdlningpaaExT
import Derived.Test.YtcgfmjdlningpaaExC
set_option linter.unusedVariables false
namespace Go.Proofs.Ytcgfmjdlningpaa
open Go.RowKit

theorem xrun_load {P : Program} {o : Oper} {ρ : Operand → Value} {w : World} (ty : TypeId) (x : Operand) (ho : o.op = .load ty x) (g : Nat) (hx : ρ x = .pointer (some ⟨g, 0, none⟩)) (t : TypeId) (cs : Array Value) (d : TypeDesc) (hg : Is w g t cs)
    (hu : P.underlying ty = some d) (hd : (match d with | .struct _ | .array _ _ => true | _ => false) = true) (hi : (P.info? ty).map (·.size) = some cs.size) : (execOp ρ o).run P w = .ok (.value (.agg cs)) w := by
  unfold execOp
  simp only [ho, hx, Instr.loadAt, Instr.sureAddr, Sem.run_bind, Sem.run_pure, Result.andThen_ok, run_loadVar_row w g t ty cs (0, 0) d hg hu hd hi]
theorem Try.sizeRe : (Try.prog.info? 101).map (·.size) = some 2 := by kernel_rfl
theorem elEnc_le (one : Bool) (x : El) (h : elOk one x = true) : (elEnc one x).length ≤ 257 := by
  unfold elOk at h
  unfold elEnc
  cases one
  · simp at h ⊢
    omega
  · simp at h ⊢
    omega
theorem elsEnc_le2 (one : Bool) : ∀ (l : List El), l.all (elOk one) = true → (elsEnc one l).length ≤ 257 * l.length
  | [], _ => by simp [elsEnc]
  | x :: l, h => by
    rw [List.all_cons, Bool.and_eq_true] at h
    have h1 := elEnc_le one x h.1
    have h2 := elsEnc_le2 one l h.2
    have e : elsEnc one (x :: l) = elEnc one x ++ elsEnc one l := by simp [elsEnc]
    rw [e, List.length_append, List.length_cons]
    omega
def vlen (v : Value) : Nat := match v with | .slice _ n _ => n | _ => 0

set_option maxRecDepth 100000 in
set_option maxHeartbeats 1000000 in
theorem rput_none (p : Nat) (v : Value) (w : World) (hv : ∃ A n c, v = .slice A n c) (hf : formB p = 0) :
    Calls Try.prog 32 #[.int .u16 p, v] w fun e w' => e = .returned (.tuple #[.slice none 0 0, .int .i64 30]) ∧ w = w' := by
  obtain ⟨A, n, c, rfl⟩ := hv
  have HK := Lib.hid (rknown_is p w)
  rw [show decide (formB p ≠ 0) = false from by rw [hf]; rfl] at HK
  clear hf
  go_enter Try.func32, Try.ntmps32
  go_wp2_with (go_at_call 29; refine HK.out.mono ?_; rintro e w1 ⟨rfl, rfl⟩)
  go_ret2
  exact ⟨rfl, rfl⟩

set_option maxRecDepth 100000 in
set_option maxHeartbeats 8000000 in
theorem rput_some (one : Bool) (p : Nat) (v : Value) (l : List El) (w : World) (hr : RdE w v l) (hf : formB p ≠ 0) (hone : (formB p == 1) = one) (hx : ∀ x ∈ l, x.id < 256) (hl : l.length ≤ 1000) (hb : ∀ x ∈ l, x.data.length ≤ 1000000) :
    Calls Try.prog 32 #[.int .u16 p, v] w (ExPutEnd (putErr p l) (exPut one l) w) := by
  obtain ⟨A, c, rfl, hlc, hh⟩ := hr
  have HRC := Lib.hid hh
  have HK := Lib.hid (rknown_is p w)
  rw [show decide (formB p ≠ 0) = true from decide_eq_true hf] at HK
  have H1 := Lib.hid (fun w => rone_is p w)
  rw [hone] at H1
  have HPE := Lib.hid (show putErr p l = if l.all (elOk one) then 0 else 31 from by unfold putErr; rw [if_neg hf, hone])
  generalize putErr p l = pe at *
  have HX := Lib.hid hx
  have HBD := Lib.hid hb
  obtain ⟨L, hL⟩ : ∃ L, l.length = L := ⟨_, rfl⟩
  have HL := Lib.hid hL
  rw [hL] at hl hlc ⊢
  clear hf hx hb hh hL hone
  go_enter Try.func32, Try.ntmps32
  go_wp2_with (go_at_call 29; refine HK.out.mono ?_; rintro e w1 ⟨rfl, rfl⟩)
  clear HK
  go_loopw [6, 7] (fun s6 s7 wr => ∃ (k : Nat), k ≤ L ∧ s7 = .int .i64 k ∧ (l.take k).all (elOk one) = true ∧ Acc w s6 (elsEnc one (l.take k)) wr) (fun _ s7 _ => L - (intOf s7).toNat)
  case atStart => exact ⟨0, by omega, rfl, rfl, acc_nil w⟩
  case round =>
    obtain ⟨k, hk, rfl, hall, hacc⟩ := hrel
    have HALL := Lib.hid hall
    have AC := Lib.hid hacc
    have HLE := Lib.hid (show (elsEnc one (l.take k)).length ≤ 300000 from by
      have := elsEnc_le2 one _ hall
      rw [List.length_take] at this
      omega)
    obtain ⟨A6, k6, rfl⟩ := hacc.slice
    clear hall hacc
    by_cases hkl : k < L
    · have hkb : k < l.length := by rw [HL.out]; exact hkl
      obtain ⟨y, hy⟩ : ∃ x, l[k]? = some x := ⟨_, List.getElem?_eq_getElem hkb⟩
      obtain ⟨g, o, rfl, hcell⟩ := HRC.out (by rw [HL.out]; omega)
      obtain ⟨u, hu1, hu2⟩ := hcell k y hy
      have hm := List.mem_of_getElem? hy
      have hid := HX.out y hm
      have hdl := HBD.out y hm
      have HSN := Lib.hid (show elsEnc one (l.take (k + 1)) = elsEnc one (l.take k) ++ elEnc one y from elsEnc_snoc one hy)
      have HAN := Lib.hid (all_snoc (elOk one) hy)
      have HBADL := Lib.hid (show elOk one y = false → l.all (elOk one) = false from fun h => by
        rw [Bool.eq_false_iff]
        intro h2
        have := List.all_eq_true.1 h2 y hm
        rw [h] at this
        cases this)
      obtain ⟨q0, q1⟩ := hu1.only AC.out.pure
      have SU := Lib.hid hu2
      obtain ⟨Au, cu, rfl⟩ := hu2.slice
      have hkI : (k : Int) < (L : Int) := by omega
      have HMAY := Lib.hid (fun w => rmay_is one y Au cu w hid hdl)
      have HOKD := Lib.hid (show elOk one y = true → (one = true → 1 ≤ y.id ∧ y.id ≤ 14 ∧ 1 ≤ y.data.length ∧ y.data.length ≤ 16) ∧ (one = false → y.data.length ≤ 255) from fun h => by
        unfold elOk at h
        cases one <;> simp at h ⊢ <;> omega)
      have HENC := Lib.hid (show elEnc one y = if one then (y.id * 16 + (y.data.length - 1)) :: y.data else y.id :: y.data.length :: y.data from rfl)
      have HYD := Lib.hid (show ∀ w', Only (fun _ => False) w w' → Src w' (.slice Au y.data.length cu) y.data from fun w' h => hu2.of_only h)
      clear hcell hu1 hu2 hy hm hkb
      have V1 := Lib.hid (show (#[.int .u8 (y.id : Nat), .slice Au y.data.length cu] : Array Value).all (·.oneCell') = true from by simp [Value.oneCell'])
      go_upto_region 8 with (refine wpList_store_is rfl 101 _ _ rfl wr.heap.size #[.int .u8 (y.id : Nat), .slice Au y.data.length cu] rfl rfl 101 zeroE (Is.made _ _ zeroE) Try.sizeRe rfl V1.out ?_; intro w2 hi2 ho2)
      have I2 := Lib.hid hi2
      have AC2 := Lib.hid (AC.out.go (only_made ho2))
      generalize wr.heap.size = pb at *
      generalize elOk one y = ok at *
      clear hi2 ho2 q0 q1
      refine wp_region_posts [[], [], [1], [0, 2, 1], [3, 0, 2, 1]] [2, 3] [] [[], [], [], [], []] [[], [], [], [], []] [] [] [] []
          [some (.agg #[.int .u8 (y.id : Nat), .slice Au y.data.length cu]), some ?v1, some (.bool one), some (.bool ok), some ?v4]
          ?T (fun wx => Is wx pb 101 #[.int .u8 (y.id : Nat), .slice Au y.data.length cu] ∧ Only (fun _ => False) w2 wx) ?W ?E (by kernel_rfl) (by kernel_rfl) (by kernel_rfl) (fun x => ?hT) ?hF ?hini (Reg.all_ops ?runs) ?pres ?fin
      case W => exact fun j x w' => True
      case E => exact fun _ w' w'' => True
      case hT =>
        simp only [Reg.fillV, Act.put, List.setIfInBounds_toArray, List.set_cons_zero, List.set_cons_succ]
        rfl
      case runs =>
        refine And.intro ?_ ?_
        · refine Reg.ob_pure (fun _ => rfl) rfl rfl rfl rfl (fun x w1 hF => ?_)
          exact xrun_load 101 _ (by rfl) pb (by rfl) 101 _ _ hF.1 Try.underlying101 rfl Try.sizeRe
        refine And.intro ?_ ?_
        · refine Reg.ob_pure (fun _ => rfl) rfl rfl rfl rfl (fun x w1 hF => ?_)
          go_simp
          with_reducible rfl
        refine And.intro ?_ ?_
        · refine Reg.ob_known (fun _ => rfl) rfl rfl (fun x w1 hF hU K hK => ?_)
          replace hF := hF rfl
          go_simp
          refine (H1.out _).mono ?_
          rintro e w3 ⟨rfl, rfl⟩
          exact hK _ (fun _ _ _ => hF) trivial
        refine And.intro ?_ ?_
        · refine Reg.ob_known (fun _ => rfl) rfl rfl (fun x w1 hF hU K hK => ?_)
          replace hF := hF rfl
          go_simp
          refine (HMAY.out _).mono ?_
          rintro e w3 ⟨rfl, ho⟩
          exact hK w3 (fun _ _ _ => ⟨hF.1.only ho (by simp), only_more hF.2 ho⟩) trivial
        refine And.intro ?_ ?_
        · refine Reg.ob_pure (fun _ => rfl) rfl rfl rfl rfl (fun x w1 hF => ?_)
          go_simp
          with_reducible rfl
        exact trivial
      case hF =>
        exact ⟨I2.out.only ((Only.refl (fun _ => False) _).drewN 1) (by simp), (Only.refl _ _).drewN 1⟩
      case hini =>
        exact trivial
      case pres =>
        intro i hi j hj hc x w1 w2 hF hE hW
        trivial
      case fin =>
        rintro x w9 hF -
        replace hF := hF rfl
        have I9 := Lib.hid hF.1
        have AC9 := Lib.hid (AC2.out.go hF.2)
        clear hF
        cases ok
        · have HBA := Lib.hid (HBADL.out rfl)
          go_wp2
          go_ret2
          rw [HPE.out, HBA.out]
          exact ⟨AC9.out.pure, .inl ⟨by decide, rfl⟩⟩
        · have c0 := I9.out.cell 0
          have c1 := I9.out.cell 1
          simp at c0 c1
          obtain ⟨hok1, hok2⟩ := HOKD.out rfl
          have HTA := Lib.hid (show (l.take (k + 1)).all (elOk one) = true from by rw [HAN.out, HALL.out]; rfl)
          have HFAR := Lib.hid (fun (v : Value) (out : List Nat) (wa wb : World) (h : Acc w v out wa) (hi : Is wa pb 101 #[.int .u8 (y.id : Nat), .slice Au y.data.length cu]) (hg : Only (fun k => v.ownBlock = some k) wa wb) => (show Is wb pb 101 #[.int .u8 (y.id : Nat), .slice Au y.data.length cu] from hi.only hg (owned_off h.own hi (by decide))))
          obtain ⟨dl, hdlE⟩ : ∃ n, y.data.length = n := ⟨_, rfl⟩
          have HYL := Lib.hid hdlE
          simp only [hdlE] at hok1 hok2 c1 I9 HYD HFAR HENC hdl
          clear hdlE
          cases one
          · have hdl5 := hok2 rfl
            have e1 : IntKind.u8.wrap (dl : Int) = (dl : Int) := by rw [IntKind.wrap_u8]; omega
            clear hok1 hok2
            go_upto_region 13 with (first
              | (go_at_call 60; refine (H1.out _).mono ?_; rintro e w3 ⟨rfl, rfl⟩)
              | (at_builtin; refine wpList_acc_lit rfl _ _ rfl AC9.out rfl [y.id, dl] rfl (by have := HLE.out; simp; omega) ?_; intro v4 w4 hacc4 hg4))
            have AC4 := Lib.hid hacc4
            have I4 := Lib.hid (HFAR.out _ _ _ _ AC9.out I9.out hg4)
            obtain ⟨A4, k4, h4⟩ := hacc4.slice
            rw [List.length_append, show [y.id, dl].length = 2 from rfl] at h4
            subst h4
            clear hacc4 hg4 c0 c1
            have c0 := I4.out.cell 0
            have c1 := I4.out.cell 1
            simp at c0 c1
            go_wp2_with (at_builtin; refine wpList_acc_src rfl _ _ rfl AC4.out rfl _ y.data rfl (HYD.out _ AC4.out.pure) (by have := HLE.out; have := HYL.out; simp; omega) ?_; intro v5 w5 hacc5 hg5)
            refine ⟨⟨k + 1, by omega, by go_num, HTA.out, ?_⟩, by simp [intOf]; omega⟩
            rw [HSN.out, HENC.out]
            simpa using hacc5
          · obtain ⟨h1, h2, h3, h4⟩ := hok1 rfl
            obtain ⟨z, hz⟩ : ∃ z, y.id * 16 + (dl - 1) = z := ⟨_, rfl⟩
            have e1 : IntKind.i64.wrap ((y.id : Int) * 16) = (y.id : Int) * 16 := IntWalk.i64_in _ (by omega)
            have e2 : IntKind.i64.wrap ((y.id : Int) * 16 + (dl : Int)) = (y.id : Int) * 16 + (dl : Int) := IntWalk.i64_in _ (by omega)
            have e3 : IntKind.i64.wrap ((y.id : Int) * 16 + (dl : Int) - 1) = (z : Int) := by rw [IntWalk.i64_in _ (by omega)]; omega
            have e4 : (y.id : Int) * 16 + (dl : Int) - 1 = (z : Int) := by omega
            have e5 : IntKind.u8.wrap (z : Int) = (z : Int) := by rw [IntKind.wrap_u8]; omega
            have e6 : IntKind.i64.wrap (y.id : Int) = (y.id : Int) := IntWalk.i64_in _ (by omega)
            rw [hz] at HENC
            clear hok1 hok2 hz
            go_upto_region 13 with (first
              | (go_at_call 60; refine (H1.out _).mono ?_; rintro e w3 ⟨rfl, rfl⟩)
              | (at_builtin; refine wpList_acc_lit rfl _ _ rfl AC9.out rfl [z] rfl (by have := HLE.out; simp; omega) ?_; intro v4 w4 hacc4 hg4))
            have AC4 := Lib.hid hacc4
            have I4 := Lib.hid (HFAR.out _ _ _ _ AC9.out I9.out hg4)
            obtain ⟨A4, k4, h4⟩ := hacc4.slice
            rw [List.length_append, show [z].length = 1 from rfl] at h4
            subst h4
            clear hacc4 hg4 c0 c1
            have c0 := I4.out.cell 0
            have c1 := I4.out.cell 1
            simp at c0 c1
            go_wp2_with (at_builtin; refine wpList_acc_src rfl _ _ rfl AC4.out rfl _ y.data rfl (HYD.out _ AC4.out.pure) (by have := HLE.out; have := HYL.out; simp; omega) ?_; intro v5 w5 hacc5 hg5)
            refine ⟨⟨k + 1, by omega, by go_num, HTA.out, ?_⟩, by simp [intOf]; omega⟩
            rw [HSN.out, HENC.out]
            simpa using hacc5
    · obtain rfl : k = L := by omega
      have hTK : l.take k = l := List.take_of_length_le (by rw [HL.out]; exact Nat.le_refl _)
      rw [hTK] at AC HALL HLE
      have HP0 := Lib.hid (show pe = 0 from by rw [HPE.out, HALL.out]; rfl)
      obtain ⟨out, hout⟩ : ∃ o, elsEnc one l = o := ⟨_, rfl⟩
      have HEP := Lib.hid (show exPut one l = out ++ List.replicate (noughts4 out.length) 0 from by unfold exPut; rw [hout])
      rw [hout] at AC HLE
      rw [hTK, hout]
      clear hTK hout HALL
      obtain ⟨n, hn⟩ : ∃ n, out.length = n := ⟨_, rfl⟩
      have HN := Lib.hid hn
      rw [hn] at HLE HEP AC ⊢
      have hnl := HLE.out
      clear hn
      go_wp2
      go_loopw [6] (fun s6 wr => ∃ (j : Nat), j ≤ noughts4 n ∧ Acc w s6 (out ++ List.replicate j 0) wr) (fun s6 _ => n + 4 - vlen s6)
      case atStart => exact ⟨0, by omega, by simpa using AC.out⟩
      case round =>
        obtain ⟨j, hj, hacc⟩ := hrel
        have AJ := Lib.hid hacc
        obtain ⟨A7, k7, h7⟩ := hacc.slice
        rw [List.length_append, List.length_replicate, HN.out] at h7
        subst h7
        clear hacc
        by_cases h4 : (n + j) % 4 = 0
        · have ej : j = noughts4 n := by unfold noughts4 at *; omega
          have e4 : (((n + j : Nat) : Int) % 4 != 0) = false := by simp; omega
          have e4' : (((n : Int) + (j : Int)) % 4 != 0) = false := by simp; omega
          go_wp2
          go_ret2
          rw [HP0.out]
          refine ⟨AJ.out.pure, .inr ⟨rfl, _, rfl, ?_⟩⟩
          rw [HEP.out, ← ej]
          exact AJ.out.own
        · have ej : j < noughts4 n := by unfold noughts4 at *; omega
          have ej4 : j < 4 := by unfold noughts4 at ej; omega
          have e4 : (((n + j : Nat) : Int) % 4 != 0) = true := by simp; omega
          have e4' : (((n : Int) + (j : Int)) % 4 != 0) = true := by simp; omega
          go_wp2_with (at_builtin; refine wpList_acc_lit rfl _ _ rfl AJ.out rfl [0] rfl (by rw [List.length_append, List.length_replicate, HN.out]; simp; omega) ?_; intro v8 w8 hacc8 hg8)
          obtain ⟨A8, k8, h8⟩ := hacc8.slice
          refine ⟨⟨j + 1, by omega, ?_⟩, ?_⟩
          · rw [List.append_assoc] at hacc8
            rw [List.replicate_succ']
            exact hacc8
          · rw [h8]
            simp only [vlen, List.length_append, List.length_replicate, HN.out, List.length_cons, List.length_nil]
            omega
theorem rput_any (p : Nat) (v : Value) (l : List El) (w : World) (hr : RdE w v l) (hx : ∀ x ∈ l, x.id < 256) (hl : l.length ≤ 1000) (hb : ∀ x ∈ l, x.data.length ≤ 1000000) :
    Calls Try.prog 32 #[.int .u16 p, v] w (ExPutEnd (putErr p l) (exPut (formB p == 1) l) w) := by
  by_cases hf : formB p = 0
  · have e : putErr p l = 30 := by unfold putErr; rw [if_pos hf]
    obtain ⟨A, c, h, -⟩ := hr
    refine (rput_none p v w ⟨A, _, c, h⟩ hf).mono ?_
    rintro e' w' ⟨rfl, rfl⟩
    rw [e]
    exact ⟨Only.refl _ _, .inl ⟨by decide, rfl⟩⟩
  · exact rput_some _ p v l w hr hf rfl hx hl hb
end Go.Proofs.Ytcgfmjdlningpaa
