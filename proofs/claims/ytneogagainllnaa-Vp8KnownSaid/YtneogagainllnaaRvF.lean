/- The reference's bit, Anew, Right. Conditions: as each says. -/
import Derived.Test.YtneogagainllnaaRvC
set_option linter.unusedVariables false
namespace Go.Proofs.Ytneogagainllnaa
open Go.RowKit

set_option maxHeartbeats 400000 in
theorem rbit_is (x : Bool) (m : Int) (w : World) : Calls Try.prog 29 #[.bool x, .int .u8 m] w fun e w' => e = .returned (.int .u8 (if x then m else 0)) ∧ w = w' := by
  cases x
  · go_enter Try.func29, Try.ntmps29
    go_wp2
    go_ret
    exact ⟨rfl, rfl⟩
  · go_enter Try.func29, Try.ntmps29
    go_wp2
    go_ret
    exact ⟨rfl, rfl⟩
set_option maxRecDepth 100000 in
set_option maxHeartbeats 1000000 in
theorem ranew_is (d : Dv) (pic tl0 tid : Nat) (sync : Bool) (w : World) (hp : pic < 65536) (ht : tid < 256) :
    Calls Try.prog 22 #[.agg d.cells, .int .u16 pic, .int .u8 tl0, .int .u8 tid, .bool sync] w fun e w' => e = .returned (.agg (d.anew pic tl0 tid sync).cells) ∧ Only (fun _ => False) w w' := by
  have HV := Lib.hid (Dv.one (d.anew pic tl0 tid sync))
  go_enter Try.func22, Try.ntmps22
  go_upto_region 1 with (fail)
  generalize hw0 : World.alloc (World.alloc _ _) _ = w0
  have HI : Is w0 w.heap.size 27 d.cells := by rw [← hw0]; exact (Is.made w _ _).alloc _
  have HO := Lib.hid (show Is w0 (w.heap.size + 1) 27 Dv.zero.cells from by rw [← hw0]; have := Is.made (w.alloc (.cells d.cells 27)) 27 Dv.zero.cells; rw [World.size_alloc] at this; exact this)
  have P0 := Lib.hid (show Only (fun _ => False) w w0 from by rw [← hw0]; exact ((Only.refl _ w).alloc _).alloc _)
  clear hw0
  have c0 := HI.cell 0
  have c1 := HI.cell 1
  have c2 := HI.cell 2
  have c11 := HI.cell 11
  have c12 := HI.cell 12
  clear HI
  simp [Dv.cells] at c0 c1 c2 c11 c12
  go_wp2_with (refine wpList_store_is (o := ⟨none, _, _, _, _, _⟩) rfl 27 _ _ rfl (w.heap.size + 1) (d.anew pic tl0 tid sync).cells rfl rfl 27 Dv.zero.cells HO.out Try.sizeRef rfl HV.out ?_; intro w2 hi2 ho2)
  exact bodyPost_ret (results_one Try.results22 _ w2 (w.heap.size + 1) 27 (d.anew pic tl0 tid sync).cells _ rfl hi2 Try.underlying27 rfl Try.sizeRef) rfl ⟨rfl, P0.out.trans ho2 (fun i hi e => by omega)⟩

set_option maxRecDepth 100000 in
set_option maxHeartbeats 8000000 in
theorem rright_is (d : Dv) (w : World) (hf : d.Fit) : Calls Try.prog 20 #[.agg d.cells] w fun e w' => e = .returned (.bool d.right) ∧ Only (fun _ => False) w w' := by
  obtain ⟨n, start, part, hasPic, long, pic, hasTl0, tl0, hasTid, tid, sync, hasKey, key⟩ := d
  obtain ⟨b, hb⟩ : ∃ b, Dv.right ⟨n, start, part, hasPic, long, pic, hasTl0, tl0, hasTid, tid, sync, hasKey, key⟩ = b := ⟨_, rfl⟩
  rw [hb]
  have HB := Lib.hid hb
  obtain ⟨f1, f2, f3, f4, f5⟩ := hf
  simp only at f1 f2 f3 f4 f5
  clear hb
  go_enter Try.func20, Try.ntmps20
  go_upto_region 1 with (fail)
  generalize hw0 : World.alloc _ _ = w0
  have HI : Is w0 w.heap.size 27 (Dv.cells ⟨n, start, part, hasPic, long, pic, hasTl0, tl0, hasTid, tid, sync, hasKey, key⟩) := by rw [← hw0]; exact Is.made w _ _
  have P0 := Lib.hid (show Only (fun _ => False) w w0 from by rw [← hw0]; exact (Only.refl _ w).alloc _)
  clear hw0
  have c2 := HI.cell 2
  have c3 := HI.cell 3
  have c4 := HI.cell 4
  have c5 := HI.cell 5
  have c6 := HI.cell 6
  have c7 := HI.cell 7
  have c8 := HI.cell 8
  have c9 := HI.cell 9
  have c10 := HI.cell 10
  have c11 := HI.cell 11
  have c12 := HI.cell 12
  clear HI
  simp [Dv.cells] at c2 c3 c4 c5 c6 c7 c8 c9 c10 c11 c12
  go_cut [30] (fun s30 wx => s30 = .bool (decide ((7 : Int) < (part : Int)) || decide ((32767 : Int) < (pic : Int)) || (!long && decide ((127 : Int) < (pic : Int))) || decide ((3 : Int) < (tid : Int)) || decide ((31 : Int) < (key : Int))) ∧ wx = w0)
  case first =>
    cases h1 : decide ((7 : Int) < (part : Int))
    · skip
      cases h2 : decide ((32767 : Int) < (pic : Int))
      · skip
        cases long
        · cases h3 : decide ((127 : Int) < (pic : Int))
          · skip
            cases h4 : decide ((3 : Int) < (tid : Int))
            · skip
              cases h5 : decide ((31 : Int) < (key : Int))
              · go_wp2_with fail
                go_meet
                exact ⟨by simp [h1, h2, h3, h4, h5], rfl⟩
              · go_wp2_with fail
                go_meet
                exact ⟨by simp [h1, h2, h3, h4, h5], rfl⟩
            · go_wp2_with fail
              go_meet
              exact ⟨by simp [h1, h2, h3, h4], rfl⟩
          · go_wp2_with fail
            go_meet
            exact ⟨by simp [h1, h2, h3], rfl⟩
        · skip
          cases h4 : decide ((3 : Int) < (tid : Int))
          · skip
            cases h5 : decide ((31 : Int) < (key : Int))
            · go_wp2_with fail
              go_meet
              exact ⟨by simp [h1, h2, h4, h5], rfl⟩
            · go_wp2_with fail
              go_meet
              exact ⟨by simp [h1, h2, h4, h5], rfl⟩
          · go_wp2_with fail
            go_meet
            exact ⟨by simp [h1, h2, h4], rfl⟩
      · go_wp2_with fail
        go_meet
        exact ⟨by simp [h1, h2], rfl⟩
    · go_wp2_with fail
      go_meet
      exact ⟨by simp [h1], rfl⟩
  case rest =>
    obtain ⟨rfl, rfl⟩ := hcut
    cases hbad : (decide ((7 : Int) < (part : Int)) || decide ((32767 : Int) < (pic : Int)) || (!long && decide ((127 : Int) < (pic : Int))) || decide ((3 : Int) < (tid : Int)) || decide ((31 : Int) < (key : Int)))
    · obtain ⟨⟨⟨⟨n1, n2⟩, n3⟩, n4⟩, n5⟩ : (((part ≤ 7 ∧ pic ≤ 32767) ∧ (long = false → pic ≤ 127)) ∧ tid ≤ 3) ∧ key ≤ 31 := by
        cases long <;> simp at hbad ⊢ <;> omega
      clear hbad
      cases hasPic
      · cases long
        · by_cases z1 : pic = 0
          · subst z1
            cases hasTl0
            · by_cases z2 : tl0 = 0
              · subst z2
                cases hasTid
                · by_cases z3 : tid = 0
                  · subst z3
                    cases sync
                    · skip
                      cases hasKey
                      · by_cases z5 : key = 0
                        · subst z5
                          skip
                          skip
                          go_wp2
                          go_ret
                          have hb : b = true := by
                            rw [← HB.out]
                            first
                              | (simp [Dv.right, Dv.same, Dv.fit]; done)
                              | (simp [Dv.right, Dv.same, Dv.fit] at *; omega)
                              | (simp [Dv.right, Dv.same, Dv.fit] at *; split <;> omega)
                              | (revert n3; cases long <;> intro n3 <;> simp [Dv.right, Dv.same, Dv.fit] at n3 ⊢ <;> omega)
                          subst hb
                          exact ⟨rfl, P0.out⟩
                        · have y5 : ((key : Int) == 0) = false := by simp; omega
                          go_wp2
                          go_ret
                          have hb : b = false := by
                            rw [← HB.out]
                            first
                              | (simp [Dv.right, Dv.same, Dv.fit, z5]; done)
                              | (simp [Dv.right, Dv.same, Dv.fit, z5] at *; omega)
                              | (simp [Dv.right, Dv.same, Dv.fit, z5] at *; split <;> omega)
                              | (revert n3; cases long <;> intro n3 <;> simp [Dv.right, Dv.same, Dv.fit] at n3 ⊢ <;> omega)
                          subst hb
                          exact ⟨rfl, P0.out⟩
                      · skip
                        go_wp2
                        go_ret
                        have hb : b = true := by
                          rw [← HB.out]
                          first
                            | (simp [Dv.right, Dv.same, Dv.fit]; done)
                            | (simp [Dv.right, Dv.same, Dv.fit] at *; omega)
                            | (simp [Dv.right, Dv.same, Dv.fit] at *; split <;> omega)
                            | (revert n3; cases long <;> intro n3 <;> simp [Dv.right, Dv.same, Dv.fit] at n3 ⊢ <;> omega)
                        subst hb
                        exact ⟨rfl, P0.out⟩
                    · skip
                      go_wp2
                      go_ret
                      have hb : b = false := by
                        rw [← HB.out]
                        first
                          | (simp [Dv.right, Dv.same, Dv.fit]; done)
                          | (simp [Dv.right, Dv.same, Dv.fit] at *; omega)
                          | (simp [Dv.right, Dv.same, Dv.fit] at *; split <;> omega)
                          | (revert n3; cases long <;> intro n3 <;> simp [Dv.right, Dv.same, Dv.fit] at n3 ⊢ <;> omega)
                      subst hb
                      exact ⟨rfl, P0.out⟩
                  · have y3 : ((tid : Int) == 0) = false := by simp; omega
                    go_wp2
                    go_ret
                    have hb : b = false := by
                      rw [← HB.out]
                      first
                        | (simp [Dv.right, Dv.same, Dv.fit, z3]; done)
                        | (simp [Dv.right, Dv.same, Dv.fit, z3] at *; omega)
                        | (simp [Dv.right, Dv.same, Dv.fit, z3] at *; split <;> omega)
                        | (revert n3; cases long <;> intro n3 <;> simp [Dv.right, Dv.same, Dv.fit] at n3 ⊢ <;> omega)
                    subst hb
                    exact ⟨rfl, P0.out⟩
                · skip
                  cases hasKey
                  · by_cases z5 : key = 0
                    · subst z5
                      skip
                      skip
                      go_wp2
                      go_ret
                      have hb : b = true := by
                        rw [← HB.out]
                        first
                          | (simp [Dv.right, Dv.same, Dv.fit]; done)
                          | (simp [Dv.right, Dv.same, Dv.fit] at *; omega)
                          | (simp [Dv.right, Dv.same, Dv.fit] at *; split <;> omega)
                          | (revert n3; cases long <;> intro n3 <;> simp [Dv.right, Dv.same, Dv.fit] at n3 ⊢ <;> omega)
                      subst hb
                      exact ⟨rfl, P0.out⟩
                    · have y5 : ((key : Int) == 0) = false := by simp; omega
                      go_wp2
                      go_ret
                      have hb : b = false := by
                        rw [← HB.out]
                        first
                          | (simp [Dv.right, Dv.same, Dv.fit, z5]; done)
                          | (simp [Dv.right, Dv.same, Dv.fit, z5] at *; omega)
                          | (simp [Dv.right, Dv.same, Dv.fit, z5] at *; split <;> omega)
                          | (revert n3; cases long <;> intro n3 <;> simp [Dv.right, Dv.same, Dv.fit] at n3 ⊢ <;> omega)
                      subst hb
                      exact ⟨rfl, P0.out⟩
                  · skip
                    go_wp2
                    go_ret
                    have hb : b = true := by
                      rw [← HB.out]
                      first
                        | (simp [Dv.right, Dv.same, Dv.fit]; done)
                        | (simp [Dv.right, Dv.same, Dv.fit] at *; omega)
                        | (simp [Dv.right, Dv.same, Dv.fit] at *; split <;> omega)
                        | (revert n3; cases long <;> intro n3 <;> simp [Dv.right, Dv.same, Dv.fit] at n3 ⊢ <;> omega)
                    subst hb
                    exact ⟨rfl, P0.out⟩
              · have y2 : ((tl0 : Int) == 0) = false := by simp; omega
                go_wp2
                go_ret
                have hb : b = false := by
                  rw [← HB.out]
                  first
                    | (simp [Dv.right, Dv.same, Dv.fit, z2]; done)
                    | (simp [Dv.right, Dv.same, Dv.fit, z2] at *; omega)
                    | (simp [Dv.right, Dv.same, Dv.fit, z2] at *; split <;> omega)
                    | (revert n3; cases long <;> intro n3 <;> simp [Dv.right, Dv.same, Dv.fit] at n3 ⊢ <;> omega)
                subst hb
                exact ⟨rfl, P0.out⟩
            · skip
              cases hasTid
              · by_cases z3 : tid = 0
                · subst z3
                  cases sync
                  · skip
                    cases hasKey
                    · by_cases z5 : key = 0
                      · subst z5
                        skip
                        skip
                        go_wp2
                        go_ret
                        have hb : b = true := by
                          rw [← HB.out]
                          first
                            | (simp [Dv.right, Dv.same, Dv.fit]; done)
                            | (simp [Dv.right, Dv.same, Dv.fit] at *; omega)
                            | (simp [Dv.right, Dv.same, Dv.fit] at *; split <;> omega)
                            | (revert n3; cases long <;> intro n3 <;> simp [Dv.right, Dv.same, Dv.fit] at n3 ⊢ <;> omega)
                        subst hb
                        exact ⟨rfl, P0.out⟩
                      · have y5 : ((key : Int) == 0) = false := by simp; omega
                        go_wp2
                        go_ret
                        have hb : b = false := by
                          rw [← HB.out]
                          first
                            | (simp [Dv.right, Dv.same, Dv.fit, z5]; done)
                            | (simp [Dv.right, Dv.same, Dv.fit, z5] at *; omega)
                            | (simp [Dv.right, Dv.same, Dv.fit, z5] at *; split <;> omega)
                            | (revert n3; cases long <;> intro n3 <;> simp [Dv.right, Dv.same, Dv.fit] at n3 ⊢ <;> omega)
                        subst hb
                        exact ⟨rfl, P0.out⟩
                    · skip
                      go_wp2
                      go_ret
                      have hb : b = true := by
                        rw [← HB.out]
                        first
                          | (simp [Dv.right, Dv.same, Dv.fit]; done)
                          | (simp [Dv.right, Dv.same, Dv.fit] at *; omega)
                          | (simp [Dv.right, Dv.same, Dv.fit] at *; split <;> omega)
                          | (revert n3; cases long <;> intro n3 <;> simp [Dv.right, Dv.same, Dv.fit] at n3 ⊢ <;> omega)
                      subst hb
                      exact ⟨rfl, P0.out⟩
                  · skip
                    go_wp2
                    go_ret
                    have hb : b = false := by
                      rw [← HB.out]
                      first
                        | (simp [Dv.right, Dv.same, Dv.fit]; done)
                        | (simp [Dv.right, Dv.same, Dv.fit] at *; omega)
                        | (simp [Dv.right, Dv.same, Dv.fit] at *; split <;> omega)
                        | (revert n3; cases long <;> intro n3 <;> simp [Dv.right, Dv.same, Dv.fit] at n3 ⊢ <;> omega)
                    subst hb
                    exact ⟨rfl, P0.out⟩
                · have y3 : ((tid : Int) == 0) = false := by simp; omega
                  go_wp2
                  go_ret
                  have hb : b = false := by
                    rw [← HB.out]
                    first
                      | (simp [Dv.right, Dv.same, Dv.fit, z3]; done)
                      | (simp [Dv.right, Dv.same, Dv.fit, z3] at *; omega)
                      | (simp [Dv.right, Dv.same, Dv.fit, z3] at *; split <;> omega)
                      | (revert n3; cases long <;> intro n3 <;> simp [Dv.right, Dv.same, Dv.fit] at n3 ⊢ <;> omega)
                  subst hb
                  exact ⟨rfl, P0.out⟩
              · skip
                cases hasKey
                · by_cases z5 : key = 0
                  · subst z5
                    skip
                    skip
                    go_wp2
                    go_ret
                    have hb : b = true := by
                      rw [← HB.out]
                      first
                        | (simp [Dv.right, Dv.same, Dv.fit]; done)
                        | (simp [Dv.right, Dv.same, Dv.fit] at *; omega)
                        | (simp [Dv.right, Dv.same, Dv.fit] at *; split <;> omega)
                        | (revert n3; cases long <;> intro n3 <;> simp [Dv.right, Dv.same, Dv.fit] at n3 ⊢ <;> omega)
                    subst hb
                    exact ⟨rfl, P0.out⟩
                  · have y5 : ((key : Int) == 0) = false := by simp; omega
                    go_wp2
                    go_ret
                    have hb : b = false := by
                      rw [← HB.out]
                      first
                        | (simp [Dv.right, Dv.same, Dv.fit, z5]; done)
                        | (simp [Dv.right, Dv.same, Dv.fit, z5] at *; omega)
                        | (simp [Dv.right, Dv.same, Dv.fit, z5] at *; split <;> omega)
                        | (revert n3; cases long <;> intro n3 <;> simp [Dv.right, Dv.same, Dv.fit] at n3 ⊢ <;> omega)
                    subst hb
                    exact ⟨rfl, P0.out⟩
                · skip
                  go_wp2
                  go_ret
                  have hb : b = true := by
                    rw [← HB.out]
                    first
                      | (simp [Dv.right, Dv.same, Dv.fit]; done)
                      | (simp [Dv.right, Dv.same, Dv.fit] at *; omega)
                      | (simp [Dv.right, Dv.same, Dv.fit] at *; split <;> omega)
                      | (revert n3; cases long <;> intro n3 <;> simp [Dv.right, Dv.same, Dv.fit] at n3 ⊢ <;> omega)
                  subst hb
                  exact ⟨rfl, P0.out⟩
          · have y1 : ((pic : Int) == 0) = false := by simp; omega
            go_wp2
            go_ret
            have hb : b = false := by
              rw [← HB.out]
              first
                | (simp [Dv.right, Dv.same, Dv.fit, z1]; done)
                | (simp [Dv.right, Dv.same, Dv.fit, z1] at *; omega)
                | (simp [Dv.right, Dv.same, Dv.fit, z1] at *; split <;> omega)
                | (revert n3; cases long <;> intro n3 <;> simp [Dv.right, Dv.same, Dv.fit] at n3 ⊢ <;> omega)
            subst hb
            exact ⟨rfl, P0.out⟩
        · skip
          go_wp2
          go_ret
          have hb : b = false := by
            rw [← HB.out]
            first
              | (simp [Dv.right, Dv.same, Dv.fit]; done)
              | (simp [Dv.right, Dv.same, Dv.fit] at *; omega)
              | (simp [Dv.right, Dv.same, Dv.fit] at *; split <;> omega)
              | (revert n3; cases long <;> intro n3 <;> simp [Dv.right, Dv.same, Dv.fit] at n3 ⊢ <;> omega)
          subst hb
          exact ⟨rfl, P0.out⟩
      · skip
        cases hasTl0
        · by_cases z2 : tl0 = 0
          · subst z2
            cases hasTid
            · by_cases z3 : tid = 0
              · subst z3
                cases sync
                · skip
                  cases hasKey
                  · by_cases z5 : key = 0
                    · subst z5
                      skip
                      skip
                      go_wp2
                      go_ret
                      have hb : b = true := by
                        rw [← HB.out]
                        first
                          | (simp [Dv.right, Dv.same, Dv.fit]; done)
                          | (simp [Dv.right, Dv.same, Dv.fit] at *; omega)
                          | (simp [Dv.right, Dv.same, Dv.fit] at *; split <;> omega)
                          | (revert n3; cases long <;> intro n3 <;> simp [Dv.right, Dv.same, Dv.fit] at n3 ⊢ <;> omega)
                      subst hb
                      exact ⟨rfl, P0.out⟩
                    · have y5 : ((key : Int) == 0) = false := by simp; omega
                      go_wp2
                      go_ret
                      have hb : b = false := by
                        rw [← HB.out]
                        first
                          | (simp [Dv.right, Dv.same, Dv.fit, z5]; done)
                          | (simp [Dv.right, Dv.same, Dv.fit, z5] at *; omega)
                          | (simp [Dv.right, Dv.same, Dv.fit, z5] at *; split <;> omega)
                          | (revert n3; cases long <;> intro n3 <;> simp [Dv.right, Dv.same, Dv.fit] at n3 ⊢ <;> omega)
                      subst hb
                      exact ⟨rfl, P0.out⟩
                  · skip
                    go_wp2
                    go_ret
                    have hb : b = true := by
                      rw [← HB.out]
                      first
                        | (simp [Dv.right, Dv.same, Dv.fit]; done)
                        | (simp [Dv.right, Dv.same, Dv.fit] at *; omega)
                        | (simp [Dv.right, Dv.same, Dv.fit] at *; split <;> omega)
                        | (revert n3; cases long <;> intro n3 <;> simp [Dv.right, Dv.same, Dv.fit] at n3 ⊢ <;> omega)
                    subst hb
                    exact ⟨rfl, P0.out⟩
                · skip
                  go_wp2
                  go_ret
                  have hb : b = false := by
                    rw [← HB.out]
                    first
                      | (simp [Dv.right, Dv.same, Dv.fit]; done)
                      | (simp [Dv.right, Dv.same, Dv.fit] at *; omega)
                      | (simp [Dv.right, Dv.same, Dv.fit] at *; split <;> omega)
                      | (revert n3; cases long <;> intro n3 <;> simp [Dv.right, Dv.same, Dv.fit] at n3 ⊢ <;> omega)
                  subst hb
                  exact ⟨rfl, P0.out⟩
              · have y3 : ((tid : Int) == 0) = false := by simp; omega
                go_wp2
                go_ret
                have hb : b = false := by
                  rw [← HB.out]
                  first
                    | (simp [Dv.right, Dv.same, Dv.fit, z3]; done)
                    | (simp [Dv.right, Dv.same, Dv.fit, z3] at *; omega)
                    | (simp [Dv.right, Dv.same, Dv.fit, z3] at *; split <;> omega)
                    | (revert n3; cases long <;> intro n3 <;> simp [Dv.right, Dv.same, Dv.fit] at n3 ⊢ <;> omega)
                subst hb
                exact ⟨rfl, P0.out⟩
            · skip
              cases hasKey
              · by_cases z5 : key = 0
                · subst z5
                  skip
                  skip
                  go_wp2
                  go_ret
                  have hb : b = true := by
                    rw [← HB.out]
                    first
                      | (simp [Dv.right, Dv.same, Dv.fit]; done)
                      | (simp [Dv.right, Dv.same, Dv.fit] at *; omega)
                      | (simp [Dv.right, Dv.same, Dv.fit] at *; split <;> omega)
                      | (revert n3; cases long <;> intro n3 <;> simp [Dv.right, Dv.same, Dv.fit] at n3 ⊢ <;> omega)
                  subst hb
                  exact ⟨rfl, P0.out⟩
                · have y5 : ((key : Int) == 0) = false := by simp; omega
                  go_wp2
                  go_ret
                  have hb : b = false := by
                    rw [← HB.out]
                    first
                      | (simp [Dv.right, Dv.same, Dv.fit, z5]; done)
                      | (simp [Dv.right, Dv.same, Dv.fit, z5] at *; omega)
                      | (simp [Dv.right, Dv.same, Dv.fit, z5] at *; split <;> omega)
                      | (revert n3; cases long <;> intro n3 <;> simp [Dv.right, Dv.same, Dv.fit] at n3 ⊢ <;> omega)
                  subst hb
                  exact ⟨rfl, P0.out⟩
              · skip
                go_wp2
                go_ret
                have hb : b = true := by
                  rw [← HB.out]
                  first
                    | (simp [Dv.right, Dv.same, Dv.fit]; done)
                    | (simp [Dv.right, Dv.same, Dv.fit] at *; omega)
                    | (simp [Dv.right, Dv.same, Dv.fit] at *; split <;> omega)
                    | (revert n3; cases long <;> intro n3 <;> simp [Dv.right, Dv.same, Dv.fit] at n3 ⊢ <;> omega)
                subst hb
                exact ⟨rfl, P0.out⟩
          · have y2 : ((tl0 : Int) == 0) = false := by simp; omega
            go_wp2
            go_ret
            have hb : b = false := by
              rw [← HB.out]
              first
                | (simp [Dv.right, Dv.same, Dv.fit, z2]; done)
                | (simp [Dv.right, Dv.same, Dv.fit, z2] at *; omega)
                | (simp [Dv.right, Dv.same, Dv.fit, z2] at *; split <;> omega)
                | (revert n3; cases long <;> intro n3 <;> simp [Dv.right, Dv.same, Dv.fit] at n3 ⊢ <;> omega)
            subst hb
            exact ⟨rfl, P0.out⟩
        · skip
          cases hasTid
          · by_cases z3 : tid = 0
            · subst z3
              cases sync
              · skip
                cases hasKey
                · by_cases z5 : key = 0
                  · subst z5
                    skip
                    skip
                    go_wp2
                    go_ret
                    have hb : b = true := by
                      rw [← HB.out]
                      first
                        | (simp [Dv.right, Dv.same, Dv.fit]; done)
                        | (simp [Dv.right, Dv.same, Dv.fit] at *; omega)
                        | (simp [Dv.right, Dv.same, Dv.fit] at *; split <;> omega)
                        | (revert n3; cases long <;> intro n3 <;> simp [Dv.right, Dv.same, Dv.fit] at n3 ⊢ <;> omega)
                    subst hb
                    exact ⟨rfl, P0.out⟩
                  · have y5 : ((key : Int) == 0) = false := by simp; omega
                    go_wp2
                    go_ret
                    have hb : b = false := by
                      rw [← HB.out]
                      first
                        | (simp [Dv.right, Dv.same, Dv.fit, z5]; done)
                        | (simp [Dv.right, Dv.same, Dv.fit, z5] at *; omega)
                        | (simp [Dv.right, Dv.same, Dv.fit, z5] at *; split <;> omega)
                        | (revert n3; cases long <;> intro n3 <;> simp [Dv.right, Dv.same, Dv.fit] at n3 ⊢ <;> omega)
                    subst hb
                    exact ⟨rfl, P0.out⟩
                · skip
                  go_wp2
                  go_ret
                  have hb : b = true := by
                    rw [← HB.out]
                    first
                      | (simp [Dv.right, Dv.same, Dv.fit]; done)
                      | (simp [Dv.right, Dv.same, Dv.fit] at *; omega)
                      | (simp [Dv.right, Dv.same, Dv.fit] at *; split <;> omega)
                      | (revert n3; cases long <;> intro n3 <;> simp [Dv.right, Dv.same, Dv.fit] at n3 ⊢ <;> omega)
                  subst hb
                  exact ⟨rfl, P0.out⟩
              · skip
                go_wp2
                go_ret
                have hb : b = false := by
                  rw [← HB.out]
                  first
                    | (simp [Dv.right, Dv.same, Dv.fit]; done)
                    | (simp [Dv.right, Dv.same, Dv.fit] at *; omega)
                    | (simp [Dv.right, Dv.same, Dv.fit] at *; split <;> omega)
                    | (revert n3; cases long <;> intro n3 <;> simp [Dv.right, Dv.same, Dv.fit] at n3 ⊢ <;> omega)
                subst hb
                exact ⟨rfl, P0.out⟩
            · have y3 : ((tid : Int) == 0) = false := by simp; omega
              go_wp2
              go_ret
              have hb : b = false := by
                rw [← HB.out]
                first
                  | (simp [Dv.right, Dv.same, Dv.fit, z3]; done)
                  | (simp [Dv.right, Dv.same, Dv.fit, z3] at *; omega)
                  | (simp [Dv.right, Dv.same, Dv.fit, z3] at *; split <;> omega)
                  | (revert n3; cases long <;> intro n3 <;> simp [Dv.right, Dv.same, Dv.fit] at n3 ⊢ <;> omega)
              subst hb
              exact ⟨rfl, P0.out⟩
          · skip
            cases hasKey
            · by_cases z5 : key = 0
              · subst z5
                skip
                skip
                go_wp2
                go_ret
                have hb : b = true := by
                  rw [← HB.out]
                  first
                    | (simp [Dv.right, Dv.same, Dv.fit]; done)
                    | (simp [Dv.right, Dv.same, Dv.fit] at *; omega)
                    | (simp [Dv.right, Dv.same, Dv.fit] at *; split <;> omega)
                    | (revert n3; cases long <;> intro n3 <;> simp [Dv.right, Dv.same, Dv.fit] at n3 ⊢ <;> omega)
                subst hb
                exact ⟨rfl, P0.out⟩
              · have y5 : ((key : Int) == 0) = false := by simp; omega
                go_wp2
                go_ret
                have hb : b = false := by
                  rw [← HB.out]
                  first
                    | (simp [Dv.right, Dv.same, Dv.fit, z5]; done)
                    | (simp [Dv.right, Dv.same, Dv.fit, z5] at *; omega)
                    | (simp [Dv.right, Dv.same, Dv.fit, z5] at *; split <;> omega)
                    | (revert n3; cases long <;> intro n3 <;> simp [Dv.right, Dv.same, Dv.fit] at n3 ⊢ <;> omega)
                subst hb
                exact ⟨rfl, P0.out⟩
            · skip
              go_wp2
              go_ret
              have hb : b = true := by
                rw [← HB.out]
                first
                  | (simp [Dv.right, Dv.same, Dv.fit]; done)
                  | (simp [Dv.right, Dv.same, Dv.fit] at *; omega)
                  | (simp [Dv.right, Dv.same, Dv.fit] at *; split <;> omega)
                  | (revert n3; cases long <;> intro n3 <;> simp [Dv.right, Dv.same, Dv.fit] at n3 ⊢ <;> omega)
              subst hb
              exact ⟨rfl, P0.out⟩
    · skip
      go_wp2
      go_ret
      have hb : b = false := by
        rw [← HB.out]
        cases hr : Dv.right ⟨n, start, part, hasPic, long, pic, hasTl0, tl0, hasTid, tid, sync, hasKey, key⟩
        · rfl
        · exfalso
          have hfit := right_fit hr
          simp only [Dv.fit, Dv.mk.injEq] at hfit
          obtain ⟨_, _, e3, _, e5, e6, _, e8, _, e10, e11, _, e13⟩ := hfit
          revert hbad
          cases hasPic <;> cases hasTid <;> cases hasKey <;> cases long <;> simp at * <;> omega
      subst hb
      exact ⟨rfl, P0.out⟩
end Go.Proofs.Ytneogagainllnaa
