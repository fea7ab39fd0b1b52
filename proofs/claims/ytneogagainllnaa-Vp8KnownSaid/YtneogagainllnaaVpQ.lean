/- vp8's Key and Len; Parse of bytes that a literal laid; descriptors compared. Conditions: as each says. -/
import Derived.Test.YtneogagainllnaaVpP
import Derived.Test.YtneogagainllnaaSameB
set_option linter.unusedVariables false
namespace Go.Proofs.Ytneogagainllnaa
open Go.RowKit

section
variable {ops : Array Oper} {rest : List Oper} {o : Oper} {a : Act} {w : World} {Q : Exit → Act → World → Prop}
/-- Two descriptors are compared. -/
theorem wpList_eql_desc (hw : Region.wanted o (yielded ops a.tmps) = true) (x y : Operand) (ho : o.op = .binOp .eql 31 x y 31) (d e : Dv) (b : Bool) (hb : d.same e = b) (hx : a.eval x = .agg d.cells) (hy : a.eval y = .agg e.cells)
    (h : wpList Try.prog ops Q rest (a.put o.dst (.bool b)) w) : wpList Try.prog ops Q (o :: rest) a w :=
  wpList_want hw fun K hK => by
    unfold Oper.wp
    rw [run_eql_is w x y d.cells e.cells ho hx hy (eq_desc d e w), hb]
    simp only [Oper.upon]
    exact hK _ _ h
theorem ok_of_andThen {r : Result Bool} {v : Bool} {w : World} (h : (r.andThen fun b w' => .ok (Value.bool b) w') = .ok (.bool v) w) : r = .ok v w := by
  cases r <;> simp_all [Result.andThen]
theorem neq_desc (d e : Dv) (w : World) : (binOp .neq 31 (.agg d.cells) (.agg e.cells)).run Try.prog w = .ok (.bool (!d.same e)) w := by
  have h := eq_desc d e w
  rw [run_eql_struct] at h
  rw [run_neq_struct, ok_of_andThen h]
  rfl
theorem run_neq_is {o : Oper} {ρ : Operand → Value} (w : World) (x y : Operand) (xs ys : Array Value) {b : Bool} (ho : o.op = .binOp .neq 31 x y 31) (hx : ρ x = .agg xs) (hy : ρ y = .agg ys)
    (h : (binOp .neq 31 (.agg xs) (.agg ys)).run Try.prog w = .ok (.bool b) w) : (execOp ρ o).run Try.prog w = .ok (.value (.bool b)) w := by
  unfold execOp
  simp only [ho, hx, hy, Sem.run_bind, Sem.run_pure, Result.andThen_ok, run_eqGuard_agg (P := Try.prog) w .neq 31 x y xs ys (by kernel_rfl), h]
end
theorem same_self (d : Dv) : d.same d = true := (Dv.same_iff d d).2 rfl

theorem u8_and1 (x : Nat) (h : x < 256) : bits .and .u8 (x : Int) 1 = ((x % 2 : Nat) : Int) := by
  have : ∀ i : Fin 256, bits .and .u8 ((i.val : Nat) : Int) 1 = ((i.val % 2 : Nat) : Int) := by decide +kernel
  exact this ⟨x, h⟩
def Dv.begins (d : Dv) (xs : List Nat) : Bool := d.start && d.part == 0 && (match xs with | [] => false | x :: _ => x % 2 == 0)

set_option maxRecDepth 100000 in
set_option maxHeartbeats 1000000 in
theorem key_is (d : Dv) (v : Value) (xs : List Nat) (w : World) (hs : Src w v xs) (hx : ∀ x ∈ xs, x < 256) :
    Calls Try.prog 13 #[d.val, v] w fun e w' => e = .returned (.bool (d.begins xs)) ∧ Only (fun _ => False) w w' := by
  obtain ⟨n, start, part, a4, a5, a6, a7, a8, a9, a10, a11, a12, a13⟩ := d
  obtain ⟨b, hb⟩ : ∃ b, Dv.begins ⟨n, start, part, a4, a5, a6, a7, a8, a9, a10, a11, a12, a13⟩ xs = b := ⟨_, rfl⟩
  rw [hb]
  simp only [Dv.val]
  obtain ⟨A, c, rfl⟩ := hs.slice
  have HS := Lib.hid hs
  have HB := Lib.hid hb
  clear hs hb
  go_enter Try.func13, Try.ntmps13
  go_upto_region 1 with (fail)
  generalize hw0 : World.alloc _ _ = w0
  have HI : Is w0 w.heap.size 31 (Dv.cells ⟨n, start, part, a4, a5, a6, a7, a8, a9, a10, a11, a12, a13⟩) := by rw [← hw0]; exact Is.made w _ _
  have P0 := Lib.hid (show Only (fun _ => False) w w0 from by rw [← hw0]; exact (Only.refl _ w).alloc _)
  have hs0 := HS.out.only P0.out (by simp)
  clear hw0
  have c1 := HI.cell 1
  have c2 := HI.cell 2
  simp [Dv.cells] at c1 c2
  clear HI HS
  cases start
  · have hb : b = false := by rw [← HB.out]; rfl
    subst hb
    clear hs0 HB
    go_wp2
    go_ret
    exact ⟨rfl, P0.out⟩
  · by_cases hp : part = 0
    · subst hp
      cases xs with
      | nil =>
        have hb : b = false := by rw [← HB.out]; rfl
        subst hb
        clear hs0 HB
        go_wp2
        go_ret
        exact ⟨rfl, P0.out⟩
      | cons x r =>
        obtain ⟨g, o, c', e1, hc⟩ := hs0.at_ (by simp)
        injection e1 with e1 _ e3
        subst e1 e3
        have h0 := hc 0 (by simp)
        simp only [Nat.add_zero, List.getElem_cons_zero] at h0
        have hx0 := hx x (by simp)
        have e2 := u8_and1 x hx0
        have hlen : decide ((0 : Int) < ((x :: r).length : Int)) = true := decide_eq_true (by simp)
        have hlt : (0 : Int) < ((x :: r).length : Int) := by simp
        have hb : b = (((x % 2 : Nat) : Int) == 0) := by
          rw [← HB.out]
          show (x % 2 == 0) = _
          rw [Bool.eq_iff_iff]
          simp
          omega
        clear hc hx hs0
        generalize (x :: r).length = L at *
        cases b <;> (
          replace hb := hb.symm
          clear HB
          generalize ((x % 2 : Nat) : Int) = y at *
          go_wp2
          go_ret
          exact ⟨rfl, P0.out⟩)
    · have hb1 : (((part : Nat) : Int) == 0) = false := by simp; omega
      have hb : b = false := by
        rw [← HB.out]
        have hb2 : (part == 0) = false := by simpa using hp
        simp [Dv.begins, hb2]
      subst hb
      clear hs0 HB hp
      generalize (part : Int) = y at *
      go_wp2
      go_ret
      exact ⟨rfl, P0.out⟩

def Dv.len (d : Dv) : Nat := if d.right then d.digits.length / 8 else 0
set_option maxRecDepth 100000 in
set_option maxHeartbeats 1000000 in
theorem len_is (d : Dv) (w : World) (hf : d.Fit) :
    Calls Try.prog 21 #[d.val] w fun e w' => e = .returned (.int .i64 (d.len : Nat)) ∧ Only (fun _ => False) w w' := by
  unfold Dv.len
  have HP := Lib.hid (show ∀ w', Calls Try.prog 17 #[.agg d.cells, .slice none 0 0] w' fun e w'' => ∃ A c er, e = .returned (.tuple #[.slice A (if d.right then d.digits.length / 8 else 0 : Nat) c, .int .i64 er]) ∧ Only (fun _ => False) w' w'' from by
    intro w'
    cases hr : d.right
    · refine (put_no d none 0 0 w' hf hr).mono ?_
      rintro e w'' ⟨rfl, ho⟩
      exact ⟨none, 0, 50, rfl, ho⟩
    · refine (put_yes d (.slice none 0 0) [] w' hf hr (.inl ⟨rfl, rfl⟩) (by simp) (by simp)).mono ?_
      rintro e w'' ⟨A, c, out, rfl, hw, _, ho⟩
      obtain ⟨i, h1, _, _, h4, _, _⟩ := wrote_put hw (by simp)
      refine ⟨A, c, 0, ?_, ho⟩
      rw [h4, h1]
      simp)
  generalize (if d.right then d.digits.length / 8 else 0 : Nat) = L at *
  simp only [Dv.val]
  have HI := Lib.hid (Is.made w 31 d.cells)
  clear hf
  go_enter Try.func21, Try.ntmps21
  go_wp2_with (first | (refine wpList_load_want (o := ⟨some 6, _, _, _, _, _⟩) rfl _ _ rfl w.heap.size rfl _ _ _ HI.out Try.underlying31 rfl Try.sizeDesc ?_) | (go_at_call 17; refine (HP.out _).mono ?_; rintro e w1 ⟨A, c, er, rfl, ho1⟩; have O1 := Lib.hid ho1; clear ho1))
  go_ret
  exact ⟨rfl, ((Only.refl _ w).alloc _).trans O1.out (fun _ _ e => e)⟩

/-- Parse of bytes that are a literal's. -/
theorem parse_lit (w : World) (bs : List Nat) (d : Dv) (i : Nat) (r : List Nat) (n : Nat) (hr : bs.drop i = r) (hn : r.length = n) (hb : ∀ x ∈ bs, x < 256) (hl : bs.length ≤ 1000) (hg : Got bs = (d, (8 * i, 0))) :
    Calls Try.prog 10 #[.slice (some ⟨w.heap.size, 0, none⟩) bs.length bs.length] (w.alloc (.cells (cellsOf bs).toArray 5)) fun e w' =>
      ∃ A c, e = .returned (.tuple #[.agg d.cells, .slice A n c, .int .i64 0]) ∧ Src w' (.slice A n c) r ∧ Only (fun _ => False) w w' := by
  subst hr hn
  refine (parse_good _ bs _ (src_lit w bs) hb (by omega) i (by rw [hg]) (by rw [hg])).mono ?_
  rintro e w' ⟨u, rfl, hu, ho⟩
  obtain ⟨A, c, rfl, _⟩ := own_slice hu
  exact ⟨A, c, by rw [hg]; rfl, Src.of_own hu, only_more ((Only.refl _ w).alloc _) ho⟩
theorem parse_lit_bad (w : World) (bs : List Nat) (k : Int) (hb : ∀ x ∈ bs, x < 256) (hl : bs.length ≤ 1000) (hg : (Got bs).2.2 = k) (hk : k ≠ 0) :
    Calls Try.prog 10 #[.slice (some ⟨w.heap.size, 0, none⟩) bs.length bs.length] (w.alloc (.cells (cellsOf bs).toArray 5)) fun e w' =>
      e = .returned (.tuple #[.agg Dv.zero.cells, .slice none 0 0, .int .i64 k]) ∧ Only (fun _ => False) w w' := by
  refine (parse_bad _ bs _ (src_lit w bs) hb (by omega) (by rw [hg]; exact hk)).mono ?_
  rintro e w' ⟨rfl, ho⟩
  exact ⟨by rw [hg]; rfl, only_more ((Only.refl _ w).alloc _) ho⟩
end Go.Proofs.Ytneogagainllnaa
