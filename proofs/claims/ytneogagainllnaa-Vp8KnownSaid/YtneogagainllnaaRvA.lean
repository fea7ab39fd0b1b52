/- The reference of layer 5: whether a byte has that much, how many bytes are wanted, its Key; a descriptor as the reference has it. Conditions: as each says. -/
import Derived.Test.YtneogagainllnaaVpQ
import Derived.Test.YtneogagainllnaaRvP
set_option linter.unusedVariables false
namespace Go.Proofs.Ytneogagainllnaa
open Go.RowKit

/-- What is answered of a struct alone. -/
theorem results_one {P : Program} {fn : Func} {p : Tmp} {ty : TypeId} (h : fn.results = #[.cell p ty]) (tmps : Array Value) (w : World) (g : Nat) (t : TypeId) (cs : Array Value) (d : TypeDesc)
    (hp : tmps.getD p undef = .pointer (some ⟨g, 0, none⟩)) (hg : Is w g t cs)
    (hu : P.underlying ty = some d) (hd : (match d with | .struct _ | .array _ _ => true | _ => false) = true) (hi : (P.info? ty).map (·.size) = some cs.size) :
    (results fn tmps).run P w = .ok (.agg cs) w := by
  have hp' : tmps[p]?.getD undef = .pointer (some ⟨g, 0, none⟩) := by simpa using hp
  simp [results, h, hp', asAddr, run_loadVar_row w g t ty cs (0, 0) d hg hu hd hi]
theorem Try.sizeRef : (Try.prog.info? 27).map (·.size) = some 13 := by kernel_rfl

set_option maxRecDepth 100000 in
set_option maxHeartbeats 1000000 in
theorem ref_is (d : Dv) (w : World) : Calls Try.prog 11 #[.agg d.cells] w fun e w' => e = .returned (.agg d.cells) ∧ Only (fun _ => False) w w' := by
  have HV := Lib.hid (Dv.one d)
  go_enter Try.func11, Try.ntmps11
  go_upto_region 1 with (fail)
  generalize hw0 : World.alloc (World.alloc _ _) _ = w0
  have HI : Is w0 w.heap.size 31 d.cells := by rw [← hw0]; exact (Is.made w _ _).alloc _
  have HO := Lib.hid (show Is w0 (w.heap.size + 1) 27 Dv.zero.cells from by rw [← hw0]; have := Is.made (w.alloc (.cells d.cells 31)) 27 Dv.zero.cells; rw [World.size_alloc] at this; exact this)
  have P0 := Lib.hid (show Only (fun _ => False) w w0 from by rw [← hw0]; exact ((Only.refl _ w).alloc _).alloc _)
  clear hw0
  have c0 := HI.cell 0
  have c1 := HI.cell 1
  have c2 := HI.cell 2
  have c3 := HI.cell 3
  have c4 := HI.cell 4
  have c5 := HI.cell 5
  have c6 := HI.cell 6
  have c7 := HI.cell 7
  have c8 := HI.cell 8
  have c9 := HI.cell 9
  have c10 := HI.cell 10
  have c11 := HI.cell 11
  have c12 := HI.cell 12
  clear HI
  simp [Dv.cells] at c0 c1 c2 c3 c4 c5 c6 c7 c8 c9 c10 c11 c12
  go_wp2_with (refine wpList_store_is (o := ⟨none, _, _, _, _, _⟩) rfl 27 _ _ rfl (w.heap.size + 1) d.cells rfl rfl 27 Dv.zero.cells HO.out Try.sizeRef rfl HV.out ?_; intro w2 hi2 ho2)
  exact bodyPost_ret (results_one Try.results11 _ w2 (w.heap.size + 1) 27 d.cells _ rfl hi2 Try.underlying27 rfl Try.sizeRef) rfl ⟨rfl, P0.out.trans ho2 (fun i hi e => by omega)⟩

set_option maxHeartbeats 400000 in
theorem has_is (x m : Nat) (M : Int) (hM : M = m) (w : World) (hx : x < 256) (hm : m = 128 ∨ m = 64 ∨ m = 32 ∨ m = 16) :
    Calls Try.prog 24 #[.int .u8 x, .int .u8 M] w fun e w' => e = .returned (.bool (hasb x m)) ∧ w = w' := by
  subst hM
  obtain ⟨b, hb⟩ : ∃ b, hasb x m = b := ⟨_, rfl⟩
  rw [hb]
  go_enter Try.func24, Try.ntmps24
  have h1 : ((x : Int) / (m : Int) % 2 == 1) = b := by
    rw [← hb, hasb, Bool.eq_iff_iff]
    rcases hm with rfl | rfl | rfl | rfl <;> (simp; omega)
  rcases hm with rfl | rfl | rfl | rfl
  all_goals
    go_wp2
    go_ret
    exact ⟨congrArg (fun b => Ending.returned (Value.bool b)) h1, rfl⟩

end Go.Proofs.Ytneogagainllnaa
