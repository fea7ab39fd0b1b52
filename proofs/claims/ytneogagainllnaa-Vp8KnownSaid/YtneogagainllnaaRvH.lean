/- The reference's Put: its walk. Conditions: as each says. -/
import Derived.Test.YtneogagainllnaaRvG
import Derived.Deep.RegionHeld3
set_option linter.unusedVariables false
namespace Go.Proofs.Ytneogagainllnaa
open Go.RowKit

theorem rbit_now (x : Bool) (m : Nat) (M : Int) (hM : M = m) (w : World) : Calls Try.prog 29 #[.bool x, .int .u8 M] w fun e w' => e = .returned (.int .u8 ((if x then m else 0 : Nat) : Int)) ∧ w = w' := by
  subst hM
  refine (rbit_is x m w).mono ?_
  rintro e w' ⟨rfl, rfl⟩
  exact ⟨by cases x <;> rfl, rfl⟩
theorem rbit_nat (x : Bool) (m : Nat) (M : Int) (hM : M = m) (w : World) : Calls Try.prog 29 #[.bool x, .int .u8 M] w fun e w' => e = .returned (.int .u8 ((if x then m else 0 : Nat) : Int)) ∧ w' = w := by
  subst hM
  refine (rbit_is x m w).mono ?_
  rintro e w' ⟨rfl, rfl⟩
  exact ⟨by cases x <;> rfl, rfl⟩
/-- Amid the reference's Put. -/
structure Pt (w : World) (db : Nat) (d : Dv) (out : List Nat) (s7 : Value) (wx : World) : Prop where
  is : Is wx db 27 d.cells
  row : wx.ownsRow w.heap.size 5 1 s7 out.length (cellsOf out)
  pure : Only (fun _ => False) w wx
theorem Pt.drew {w wx : World} {db : Nat} {d : Dv} {out : List Nat} {s7 : Value} (h : Pt w db d out s7 wx) : Pt w db d out s7 wx.drew := ⟨h.is, own_only h.row (Only.refl (fun _ => False) wx).drew (by simp), h.pure.drew⟩
/-- Bytes of a literal are appended. -/
theorem append_lits {ops : Array Oper} {rest : List Oper} {o : Oper} {a : Act} {Q : Exit → Act → World → Prop} (wr : World) (hgd : o.guard = none) (s x : Operand)
    (ho : o.op = .call { callee := .builtin .append, args := #[s, x], argTypes := #[22, 22] })
    {w : World} {db : Nat} {d : Dv} {out : List Nat} {s7 : Value} (hp : Pt w db d out s7 wr) (hl : out.length ≤ 1000) (ys : List Nat) (hyl : ys.length ≤ 1000)
    (hs : a.eval s = s7) (hx : a.eval x = .slice (some ⟨wr.heap.size, 0, none⟩) ys.length ys.length)
    (h : ∀ v' w', Pt w db d (out ++ ys) v' w' → wpList Try.prog ops Q rest (a.put o.dst v') w') :
    wpList Try.prog ops Q (o :: rest) a (wr.alloc (.cells (cellsOf ys).toArray 5)) := by
  have hB := hp.pure.size
  refine wpList_append_src _ hgd s x ho w.heap.size s7 out hs (hp.row.alloc _) _ ys hx (src_lit wr ys) (by omega) (by simp; omega) ?_
  intro v' w' hown hg
  have ho1 : Only (fun k => s7.ownBlock = some k) wr w' := ((Only.refl _ wr).alloc _).grown hg (fun i hi _ => hi)
  refine h v' w' ⟨hp.is.only ho1 (row_apart hp.is hp.row (by decide)), ?_, only_row hp.pure hp.row (Nat.le_refl _) ho1⟩
  rw [List.length_append, cellsOf_append]
  exact hown

theorem step_append_lits {ops : Array Oper} {o : Oper} {a : Act} {K : Act → World → Prop} {Q : Exit → Act → World → Prop} {E : Prop} (wr : World) (hgd : o.guard = none) (s x : Operand)
    (ho : o.op = .call { callee := .builtin .append, args := #[s, x], argTypes := #[22, 22] })
    {w : World} {db : Nat} {d : Dv} {out : List Nat} {s7 : Value} (hp : Pt w db d out s7 wr) (hl : out.length ≤ 1000) (ys : List Nat) (hyl : ys.length ≤ 1000)
    (hs : a.eval s = s7) (hx : a.eval x = .slice (some ⟨wr.heap.size, 0, none⟩) ys.length ys.length)
    (h : ∀ v' w', Pt w db d (out ++ ys) v' w' → K (a.put o.dst v') w') :
    if Region.wanted o (yielded ops a.tmps) = true then Oper.wp Try.prog o a (wr.alloc (.cells (cellsOf ys).toArray 5)) K Q else E := by
  have hB := hp.pure.size
  refine step_append_src _ hgd s x ho w.heap.size s7 out hs (hp.row.alloc _) _ ys hx (src_lit wr ys) (by omega) (by simp; omega) ?_
  intro v' w' hown hg
  have ho1 : Only (fun k => s7.ownBlock = some k) wr w' := ((Only.refl _ wr).alloc _).grown hg (fun i hi _ => hi)
  refine h v' w' ⟨hp.is.only ho1 (row_apart hp.is hp.row (by decide)), ?_, only_row hp.pure hp.row (Nat.le_refl _) ho1⟩
  rw [List.length_append, cellsOf_append]
  exact hown

set_option maxRecDepth 100000 in
set_option maxHeartbeats 1000000 in
theorem rput_bad (d : Dv) (A : Option Addr) (n c : Nat) (w : World) (hf : d.Fit) (hr : d.right = false) :
    Calls Try.prog 16 #[.agg d.cells, .slice A n c] w fun e w' => e = .returned (.tuple #[.slice none 0 0, .int .i64 50]) ∧ Only (fun _ => False) w w' := by
  have HR := Lib.hid (fun w' => rright_is d w' hf)
  rw [hr] at HR
  have HI := Lib.hid (Is.made w 27 d.cells)
  clear hr
  go_enter Try.func16, Try.ntmps16
  go_wp2_with (first | (refine wpList_load_want (o := ⟨some 8, _, _, _, _, _⟩) rfl _ _ rfl w.heap.size rfl _ _ _ HI.out Try.underlying27 rfl Try.sizeRef ?_) | (go_at_call 20; refine (HR.out _).mono ?_; rintro e w1 ⟨rfl, ho1⟩; have O1 := Lib.hid ho1; clear ho1))
  go_ret2
  exact ⟨rfl, ((Only.refl _ w).alloc _).trans O1.out (fun _ _ e => e)⟩

set_option maxRecDepth 100000 in
set_option maxHeartbeats 8000000 in
theorem rput_good (d : Dv) (v : Value) (rest : List Nat) (w : World) (hf : d.Fit) (hr : d.right = true) (hs : Src w v rest) (hl : rest.length ≤ 1000000) :
    Calls Try.prog 16 #[.agg d.cells, v] w fun e w' => ∃ u, e = .returned (.tuple #[u, .int .i64 0]) ∧ w'.ownsRow w.heap.size 5 1 u (refHead d ++ rest).length (cellsOf (refHead d ++ rest)) ∧ Only (fun _ => False) w w' := by
  obtain ⟨A, c, rfl⟩ := hs.slice
  obtain ⟨h1, h2, h3, h4, h5, h6, h7, h8, h9⟩ := right_parts hr
  have HR := Lib.hid (fun w' => rright_is d w' hf)
  rw [hr] at HR
  have HS := Lib.hid hs
  have HL := Lib.hid hl
  have HT0 := Lib.hid hf.tl0
  have HI := Lib.hid (Is.made w 27 d.cells)
  clear hr hs hf
  go_enter Try.func16, Try.ntmps16
  go_upto_region 3 with (first | (refine wpList_load_want (o := ⟨some 8, _, _, _, _, _⟩) rfl _ _ rfl w.heap.size rfl _ _ _ HI.out Try.underlying27 rfl Try.sizeRef ?_) | (go_at_call 20; refine (HR.out _).mono ?_; rintro e w1 ⟨rfl, ho1⟩; have O1 := Lib.hid ho1; clear ho1))
  obtain ⟨db, hdb⟩ : ∃ db, w.heap.size = db := ⟨_, rfl⟩
  have I1 : Is w1 db 27 d.cells := by rw [← hdb]; exact HI.out.only O1.out (by simp)
  have P1 := Lib.hid (show Only (fun _ => False) w w1 from ((Only.refl _ w).alloc _).trans O1.out (fun _ _ e => e))
  rw [hdb]
  clear HI HR O1
  have c0 := I1.cell 0
  have c1 := I1.cell 1
  have c2 := I1.cell 2
  have c3 := I1.cell 3
  have c4 := I1.cell 4
  have c5 := I1.cell 5
  have c6 := I1.cell 6
  have c7 := I1.cell 7
  have c8 := I1.cell 8
  have c9 := I1.cell 9
  have c10 := I1.cell 10
  have c11 := I1.cell 11
  have c12 := I1.cell 12
  simp [Dv.cells] at c0 c1 c2 c3 c4 c5 c6 c7 c8 c9 c10 c11 c12
  have HIS := Lib.hid I1
  clear I1
  go_cut [6] (fun s6 wx => s6 = .bool d.any ∧ wx = w1)
  case first =>
    obtain ⟨b3, hb3⟩ : ∃ b, d.hasPic = b := ⟨_, rfl⟩
    obtain ⟨b6, hb6⟩ : ∃ b, d.hasTl0 = b := ⟨_, rfl⟩
    obtain ⟨b8, hb8⟩ : ∃ b, d.hasTid = b := ⟨_, rfl⟩
    obtain ⟨b11, hb11⟩ : ∃ b, d.hasKey = b := ⟨_, rfl⟩
    have ha : d.any = (b3 || b6 || b8 || b11) := by unfold Dv.any; rw [hb3, hb6, hb8, hb11]
    have HA := Lib.hid ha
    rw [hb3] at c3
    rw [hb6] at c6
    rw [hb8] at c8
    rw [hb11] at c11
    clear hb3 hb6 hb8 hb11 ha
    cases b3 <;> cases b6 <;> cases b8 <;> cases b11 <;> (go_wp2_with fail; go_meet; exact ⟨by rw [HA.out]; rfl, rfl⟩)
  case rest =>
    obtain ⟨rfl, rfl⟩ := hcut
    generalize wc = w1 at *
    go_upto_region 4 with (fail)
    go_cut [7] (fun s7 wx => ∃ A c, s7 = .slice A [rb0 d].length c ∧ Pt w db d [rb0 d] s7 wx)
    case first =>
      generalize hxa : (if d.any then 128 else 0 : Nat) = xa at *
      generalize hxn : (if d.n then 32 else 0 : Nat) = xn at *
      generalize hxs : (if d.start then 16 else 0 : Nat) = xs at *
      have la : xa ≤ 128 := by rw [← hxa]; split <;> omega
      have ln : xn ≤ 32 := by rw [← hxn]; split <;> omega
      have ls : xs ≤ 16 := by rw [← hxs]; split <;> omega
      have B1 := Lib.hid (rbit_nat d.any 128 128 rfl)
      have B2 := Lib.hid (rbit_nat d.n 32 32 rfl)
      have B3 := Lib.hid (rbit_nat d.start 16 16 rfl)
      rw [hxa] at B1
      rw [hxn] at B2
      rw [hxs] at B3
      have eb : rb0 d = xa + xn + xs + d.part := by unfold rb0; rw [hxa, hxn, hxs]
      have s1 : IntKind.u8.wrap ((xa : Int) + (xn : Int)) = (xa : Int) + (xn : Int) := by rw [IntKind.wrap_u8]; omega
      have s2 : IntKind.u8.wrap ((xa : Int) + (xn : Int) + (xs : Int)) = (xa : Int) + (xn : Int) + (xs : Int) := by rw [IntKind.wrap_u8]; omega
      have s3 : IntKind.u8.wrap ((xa : Int) + (xn : Int) + (xs : Int) + (d.part : Int)) = (xa : Int) + (xn : Int) + (xs : Int) + (d.part : Int) := by rw [IntKind.wrap_u8]; omega
      have EB := Lib.hid eb
      clear hxa hxn hxs eb
      go_still_tail 13, (by kernel_rfl)
      still_call (B1.out _)
      repeat still_step
      still_call (B2.out _)
      repeat still_step
      still_call (B3.out _)
      repeat still_step
      try refine wpStill_nil ?_
      go_wp2_with fail
      go_meet
      rw [EB.out]
      exact ⟨_, _, rfl, (show Is w1.drew db 27 d.cells from HIS.out).alloc _, World.ownsRow_lit _ _ 1 (by have := P1.out.size; simpa using this) (by unfold maxLen; omega) rfl, P1.out.drew.alloc _⟩
    case rest =>
      obtain ⟨A1, kq1, rfl, hp1⟩ := hcut
      generalize wc = w1 at *
      clear HIS P1 c0 c1 c2 c3 c4 c5 c6 c7 c8 c9 c10 c11 c12
      have HLN := Lib.hid (show ([rb0 d]).length ≤ 1 from by simp)
      have HP := Lib.hid hp1
      have HLX := Lib.hid (show (rh1 d).length ≤ 2 from by unfold rh1; rw [List.length_append]; have := HLN.out; split <;> simp <;> omega)
      clear hp1
      go_upto_if 39 with (fail)
      go_cut [6, 7] (fun s6 s7 wx => ∃ A c, s7 = .slice A (rh1 d).length c ∧ Pt w db d (rh1 d) s7 wx)
      case first =>
        cases hc : d.any
        · have e : rh1 d = [rb0 d] := by unfold rh1; rw [hc]; exact List.append_nil _
          have E := Lib.hid e
          clear e
          go_wp2_with fail
          go_meet
          rw [E.out]
          exact ⟨A1, kq1, rfl, HP.out⟩
        · have e : rh1 d = [rb0 d] ++ [rb1 d] := by unfold rh1; rw [hc]; rfl
          have E := Lib.hid e
          clear e
          have hp1 := HP.out
          generalize hx0 : (if d.hasPic then 128 else 0 : Nat) = x0 at *
          generalize hx1 : (if d.hasTl0 then 64 else 0 : Nat) = x1 at *
          generalize hx2 : (if d.hasTid then 32 else 0 : Nat) = x2 at *
          generalize hx3 : (if d.hasKey then 16 else 0 : Nat) = x3 at *
          have l0 : x0 ≤ 128 := by rw [← hx0]; split <;> omega
          have l1 : x1 ≤ 64 := by rw [← hx1]; split <;> omega
          have l2 : x2 ≤ 32 := by rw [← hx2]; split <;> omega
          have l3 : x3 ≤ 16 := by rw [← hx3]; split <;> omega
          have B0 := Lib.hid (rbit_now d.hasPic 128 128 rfl)
          have B1 := Lib.hid (rbit_now d.hasTl0 64 64 rfl)
          have B2 := Lib.hid (rbit_now d.hasTid 32 32 rfl)
          have B3 := Lib.hid (rbit_now d.hasKey 16 16 rfl)
          rw [hx0] at B0
          rw [hx1] at B1
          rw [hx2] at B2
          rw [hx3] at B3
          have eb : rb1 d = x0 + x1 + x2 + x3 := by unfold rb1; rw [hx0, hx1, hx2, hx3]
          have EB := Lib.hid eb
          have s1 : IntKind.u8.wrap ((x0 : Int) + (x1 : Int)) = (x0 : Int) + (x1 : Int) := by rw [IntKind.wrap_u8]; omega
          have s2 : IntKind.u8.wrap ((x0 : Int) + (x1 : Int) + (x2 : Int)) = (x0 : Int) + (x1 : Int) + (x2 : Int) := by rw [IntKind.wrap_u8]; omega
          have s3 : IntKind.u8.wrap ((x0 : Int) + (x1 : Int) + (x2 : Int) + (x3 : Int)) = (x0 : Int) + (x1 : Int) + (x2 : Int) + (x3 : Int) := by rw [IntKind.wrap_u8]; omega
          clear hx0 hx1 hx2 hx3 eb hp1
          go_upto_region 6 with (fail)
          have c3 := HP.out.is.cell 3
          have c6 := HP.out.is.cell 6
          have c8 := HP.out.is.cell 8
          have c11 := HP.out.is.cell 11
          simp [Dv.cells] at c3 c6 c8 c11
          have KF := Lib.hid (show ∀ w', Is w' db 27 d.cells → w'.cell? ⟨db, 3, none⟩ = some (.bool d.hasPic) ∧ w'.cell? ⟨db, 6, none⟩ = some (.bool d.hasTl0) ∧ w'.cell? ⟨db, 8, none⟩ = some (.bool d.hasTid) ∧ w'.cell? ⟨db, 11, none⟩ = some (.bool d.hasKey) from fun w' h => ⟨h.cell 3, h.cell 6, h.cell 8, h.cell 11⟩)
          go_region_held3 (fun w' => w'.cell? ⟨db, 3, none⟩ = some (.bool d.hasPic) ∧ w'.cell? ⟨db, 6, none⟩ = some (.bool d.hasTl0) ∧ w'.cell? ⟨db, 8, none⟩ = some (.bool d.hasTid) ∧ w'.cell? ⟨db, 11, none⟩ = some (.bool d.hasKey)) (first | go_keep | exact KF.out _ HP.out.drew.is | exact KF.out _ (HP.out.drew.is.alloc _) | exact KF.out _ hp2.is) (first | (go_at_call 29; first | (refine (B0.out _).mono ?_; rintro e wy ⟨rfl, rfl⟩) | (refine (B1.out _).mono ?_; rintro e wy ⟨rfl, rfl⟩) | (refine (B2.out _).mono ?_; rintro e wy ⟨rfl, rfl⟩) | (refine (B3.out _).mono ?_; rintro e wy ⟨rfl, rfl⟩)) | (refine step_append_lits _ (by rfl) (.tmp 40) (.tmp 56) (by rfl) HP.out.drew (by have := HLN.out; omega) [x0 + x1 + x2 + x3] (by simp) (by rfl) (by rfl) ?_; intro v2 w2 hp2))
          go_wp2_with fail
          go_meet
          rw [E.out, EB.out]
          obtain ⟨A2, kq2, rfl, _⟩ := own_slice hp2.row
          exact ⟨A2, kq2, rfl, hp2⟩
      case rest =>
        obtain ⟨A1, kq1, rfl, hp1⟩ := hcut
        generalize wc = w1 at *
        skip
        have HLN := Lib.hid (show (rh1 d).length ≤ 2 from HLX.out)
        have HP := Lib.hid hp1
        have HLX := Lib.hid (show (rh2 d).length ≤ 4 from by unfold rh2; rw [List.length_append]; have := HLN.out; split <;> simp <;> omega)
        have c3 := hp1.is.cell 3
        have c4 := hp1.is.cell 4
        simp [Dv.cells] at c3 c4
        clear hp1
        go_upto_region 7 with (fail)
        go_cut [63] (fun st wx => st = .bool (d.hasPic && d.long) ∧ wx = w1)
        case first =>
          obtain ⟨bx, hbx⟩ : ∃ b, d.hasPic = b := ⟨_, rfl⟩
          obtain ⟨by_, hby⟩ : ∃ b, d.long = b := ⟨_, rfl⟩
          have HA := Lib.hid (show (d.hasPic && d.long) = (bx && by_) from by rw [hbx, hby])
          rw [hbx] at c3
          rw [hby] at c4
          clear hbx hby
          cases bx <;> cases by_ <;> (go_wp2_with fail; go_meet; exact ⟨by rw [HA.out]; rfl, rfl⟩)
        case rest =>
          obtain ⟨rfl, hwc⟩ := hcut
          subst hwc
          generalize wc = w1 at *
          clear c3 c4
          go_upto_if 63 with (fail)
          go_cut [7] (fun s7 wx => ∃ A c, s7 = .slice A (rh2 d).length c ∧ Pt w db d (rh2 d) s7 wx)
          case first =>
            cases hc : (d.hasPic && d.long)
            · have e : rh2 d = rh1 d := by unfold rh2; rw [hc]; exact List.append_nil _
              have E := Lib.hid e
              clear e
              go_wp2_with fail
              go_meet
              rw [E.out]
              exact ⟨A1, kq1, rfl, HP.out⟩
            · have e : rh2 d = rh1 d ++ [128 + d.pic / 256, d.pic % 256] := by unfold rh2; rw [hc]; rfl
              have E := Lib.hid e
              clear e
              have hp1 := HP.out
              have c5 := hp1.is.cell 5
              simp [Dv.cells] at c5
              have s1 : IntKind.u8.wrap ((d.pic : Int) / 256) = (d.pic : Int) / 256 := by rw [IntKind.wrap_u8]; omega
              have s2 : IntKind.u8.wrap (128 + (d.pic : Int) / 256) = 128 + (d.pic : Int) / 256 := by rw [IntKind.wrap_u8]; omega
              have s3 : IntKind.u8.wrap ((d.pic : Int) % 256) = (d.pic : Int) % 256 := by rw [IntKind.wrap_u8]; omega
              clear hp1
              go_wp2_with (at_builtin; refine append_lits _ rfl _ _ rfl HP.out (by have := HLN.out; omega) [128 + d.pic / 256, d.pic % 256] (by simp) rfl rfl ?_; intro v2 w2 hp2)
              go_meet
              rw [E.out]
              obtain ⟨A2, kq2, rfl, _⟩ := own_slice hp2.row
              exact ⟨A2, kq2, rfl, hp2⟩
          case rest =>
            obtain ⟨A1, kq1, rfl, hp1⟩ := hcut
            generalize wc = w1 at *
            skip
            have HLN := Lib.hid (show (rh2 d).length ≤ 4 from HLX.out)
            have HP := Lib.hid hp1
            have HLX := Lib.hid (show (rh3 d).length ≤ 5 from by unfold rh3; rw [List.length_append]; have := HLN.out; split <;> simp <;> omega)
            have c3 := hp1.is.cell 3
            have c4 := hp1.is.cell 4
            simp [Dv.cells] at c3 c4
            clear hp1
            go_upto_region 9 with (fail)
            go_cut [82] (fun st wx => st = .bool (d.hasPic && !d.long) ∧ wx = w1)
            case first =>
              obtain ⟨bx, hbx⟩ : ∃ b, d.hasPic = b := ⟨_, rfl⟩
              obtain ⟨by_, hby⟩ : ∃ b, d.long = b := ⟨_, rfl⟩
              have HA := Lib.hid (show (d.hasPic && !d.long) = (bx && !by_) from by rw [hbx, hby])
              rw [hbx] at c3
              rw [hby] at c4
              clear hbx hby
              cases bx <;> cases by_ <;> (go_wp2_with fail; go_meet; exact ⟨by rw [HA.out]; rfl, rfl⟩)
            case rest =>
              obtain ⟨rfl, hwc⟩ := hcut
              subst hwc
              generalize wc = w1 at *
              clear c3 c4
              go_upto_if 82 with (fail)
              go_cut [7] (fun s7 wx => ∃ A c, s7 = .slice A (rh3 d).length c ∧ Pt w db d (rh3 d) s7 wx)
              case first =>
                cases hc : (d.hasPic && !d.long)
                · have e : rh3 d = rh2 d := by unfold rh3; rw [hc]; exact List.append_nil _
                  have E := Lib.hid e
                  clear e
                  go_wp2_with fail
                  go_meet
                  rw [E.out]
                  exact ⟨A1, kq1, rfl, HP.out⟩
                · have e : rh3 d = rh2 d ++ [d.pic] := by unfold rh3; rw [hc]; rfl
                  have E := Lib.hid e
                  clear e
                  have hp1 := HP.out
                  have c5 := hp1.is.cell 5
                  simp [Dv.cells] at c5
                  have hlg : d.long = false := by revert hc; cases d.hasPic <;> cases d.long <;> simp
                  have hps := h3 hlg
                  have s1 : IntKind.u8.wrap (d.pic : Int) = (d.pic : Int) := by rw [IntKind.wrap_u8]; omega
                  clear hp1
                  go_wp2_with (at_builtin; refine append_lits _ rfl _ _ rfl HP.out (by have := HLN.out; omega) [d.pic] (by simp) rfl rfl ?_; intro v2 w2 hp2)
                  go_meet
                  rw [E.out]
                  obtain ⟨A2, kq2, rfl, _⟩ := own_slice hp2.row
                  exact ⟨A2, kq2, rfl, hp2⟩
              case rest =>
                obtain ⟨A1, kq1, rfl, hp1⟩ := hcut
                generalize wc = w1 at *
                skip
                have HLN := Lib.hid (show (rh3 d).length ≤ 5 from HLX.out)
                have HP := Lib.hid hp1
                have HLX := Lib.hid (show (rh4 d).length ≤ 6 from by unfold rh4; rw [List.length_append]; have := HLN.out; split <;> simp <;> omega)
                have c6 := hp1.is.cell 6
                simp [Dv.cells] at c6
                clear hp1
                go_upto_if 90 with (fail)
                clear c6
                go_cut [7] (fun s7 wx => ∃ A c, s7 = .slice A (rh4 d).length c ∧ Pt w db d (rh4 d) s7 wx)
                case first =>
                  cases hc : d.hasTl0
                  · have e : rh4 d = rh3 d := by unfold rh4; rw [hc]; exact List.append_nil _
                    have E := Lib.hid e
                    clear e
                    go_wp2_with fail
                    go_meet
                    rw [E.out]
                    exact ⟨A1, kq1, rfl, HP.out⟩
                  · have e : rh4 d = rh3 d ++ [d.tl0] := by unfold rh4; rw [hc]; rfl
                    have E := Lib.hid e
                    clear e
                    have hp1 := HP.out
                    have c7 := hp1.is.cell 7
                    simp [Dv.cells] at c7
                    clear hp1
                    go_wp2_with (at_builtin; refine append_lits _ rfl _ _ rfl HP.out (by have := HLN.out; omega) [d.tl0] (by simp) rfl rfl ?_; intro v2 w2 hp2)
                    go_meet
                    rw [E.out]
                    obtain ⟨A2, kq2, rfl, _⟩ := own_slice hp2.row
                    exact ⟨A2, kq2, rfl, hp2⟩
                case rest =>
                  obtain ⟨A1, kq1, rfl, hp1⟩ := hcut
                  generalize wc = w1 at *
                  skip
                  have HLN := Lib.hid (show (rh4 d).length ≤ 6 from HLX.out)
                  have HP := Lib.hid hp1
                  have HLX := Lib.hid (show (refHead d).length ≤ 7 from by unfold refHead; rw [List.length_append]; have := HLN.out; split <;> simp <;> omega)
                  have c8 := hp1.is.cell 8
                  have c11 := hp1.is.cell 11
                  simp [Dv.cells] at c8 c11
                  clear hp1
                  go_upto_region 13 with (fail)
                  go_cut [101] (fun st wx => st = .bool (d.hasTid || d.hasKey) ∧ wx = w1)
                  case first =>
                    obtain ⟨bx, hbx⟩ : ∃ b, d.hasTid = b := ⟨_, rfl⟩
                    obtain ⟨by_, hby⟩ : ∃ b, d.hasKey = b := ⟨_, rfl⟩
                    have HA := Lib.hid (show (d.hasTid || d.hasKey) = (bx || by_) from by rw [hbx, hby])
                    rw [hbx] at c8
                    rw [hby] at c11
                    clear hbx hby
                    cases bx <;> cases by_ <;> (go_wp2_with fail; go_meet; exact ⟨by rw [HA.out]; rfl, rfl⟩)
                  case rest =>
                    obtain ⟨rfl, hwc⟩ := hcut
                    subst hwc
                    generalize wc = w1 at *
                    clear c8 c11
                    go_upto_if 101 with (fail)
                    go_cut [7] (fun s7 wx => ∃ A c, s7 = .slice A (refHead d).length c ∧ Pt w db d (refHead d) s7 wx)
                    case first =>
                      cases hc : (d.hasTid || d.hasKey)
                      · have e : refHead d = rh4 d := by unfold refHead; rw [hc]; exact List.append_nil _
                        have E := Lib.hid e
                        clear e
                        go_wp2_with fail
                        go_meet
                        rw [E.out]
                        exact ⟨A1, kq1, rfl, HP.out⟩
                      · have e : refHead d = rh4 d ++ [rbk d] := by unfold refHead; rw [hc]; rfl
                        have E := Lib.hid e
                        clear e
                        have hp1 := HP.out
                        generalize hx0 : (if d.sync then 32 else 0 : Nat) = x0 at *
                        have l0 : x0 ≤ 32 := by rw [← hx0]; split <;> omega
                        have B0 := Lib.hid (rbit_now d.sync 32 32 rfl)
                        rw [hx0] at B0
                        have eb : rbk d = d.tid * 64 + x0 + d.key := by unfold rbk; rw [hx0]
                        have EB := Lib.hid eb
                        have s1 : IntKind.u8.wrap ((d.tid : Int) * 64) = (d.tid : Int) * 64 := by rw [IntKind.wrap_u8]; omega
                        have s2 : IntKind.u8.wrap ((d.tid : Int) * 64 + (x0 : Int)) = (d.tid : Int) * 64 + (x0 : Int) := by rw [IntKind.wrap_u8]; omega
                        have s3 : IntKind.u8.wrap ((d.tid : Int) * 64 + (x0 : Int) + (d.key : Int)) = (d.tid : Int) * 64 + (x0 : Int) + (d.key : Int) := by rw [IntKind.wrap_u8]; omega
                        clear hx0 eb hp1
                        go_upto_region 14 with (fail)
                        have c9 := HP.out.is.cell 9
                        have c10 := HP.out.is.cell 10
                        have c12 := HP.out.is.cell 12
                        simp [Dv.cells] at c9 c10 c12
                        have KF := Lib.hid (show ∀ w', Is w' db 27 d.cells → w'.cell? ⟨db, 9, none⟩ = some (.int .u8 d.tid) ∧ w'.cell? ⟨db, 10, none⟩ = some (.bool d.sync) ∧ w'.cell? ⟨db, 12, none⟩ = some (.int .u8 d.key) from fun w' h => ⟨h.cell 9, h.cell 10, h.cell 12⟩)
                        go_region_held3 (fun w' => w'.cell? ⟨db, 9, none⟩ = some (.int .u8 d.tid) ∧ w'.cell? ⟨db, 10, none⟩ = some (.bool d.sync) ∧ w'.cell? ⟨db, 12, none⟩ = some (.int .u8 d.key)) (first | go_keep | exact KF.out _ HP.out.drew.is | exact KF.out _ (HP.out.drew.is.alloc _) | exact KF.out _ hp2.is) (first | (go_at_call 29; first | (refine (B0.out _).mono ?_; rintro e wy ⟨rfl, rfl⟩)) | (refine step_append_lits _ (by rfl) (.tmp 102) (.tmp 113) (by rfl) HP.out.drew (by have := HLN.out; omega) [d.tid * 64 + x0 + d.key] (by simp) (by rfl) (by rfl) ?_; intro v2 w2 hp2))
                        go_wp2_with fail
                        go_meet
                        rw [E.out, EB.out]
                        obtain ⟨A2, kq2, rfl, _⟩ := own_slice hp2.row
                        exact ⟨A2, kq2, rfl, hp2⟩
                    case rest =>
                      obtain ⟨A1, kq1, rfl, hp1⟩ := hcut
                      generalize wc = w1 at *
                      have HP := Lib.hid hp1
                      clear hp1
                      go_wp2_with (at_builtin; refine wpList_append_src _ rfl _ _ rfl w.heap.size _ _ rfl HP.out.row _ rest rfl (HS.out.only HP.out.pure (by simp)) (by have := HLX.out; have := HL.out; omega) HP.out.pure.size ?_; intro v2 w2 hown hg)
                      go_ret2
                      have ho : Only (fun k => (Value.slice A1 (refHead d).length kq1).ownBlock = some k) w1 w2 := (Only.refl _ w1).grown hg (fun i hi _ => hi)
                      refine ⟨_, rfl, ?_, only_row HP.out.pure HP.out.row (Nat.le_refl _) ho⟩
                      rw [List.length_append, cellsOf_append]
                      exact hown
                    
end Go.Proofs.Ytneogagainllnaa
