/- Vp8Known's walk. Conditions: none. -/
import Derived.Test.YtneogagainllnaaRvI
import Derived.Test.YtneogagainllnaaRvD
set_option linter.unusedVariables false
namespace Go.Proofs.Ytneogagainllnaa
open Go.RowKit

theorem u8_range (z : Int) : 0 ≤ IntKind.u8.wrap z ∧ IntKind.u8.wrap z < 256 := by rw [IntKind.wrap_u8]; omega
theorem u16_range (z : Int) : 0 ≤ IntKind.u16.wrap z ∧ IntKind.u16.wrap z < 65536 := by rw [IntKind.wrap_u16]; omega
theorem src_bytes (w : World) (es : List Int) (h : ∀ e ∈ es, 0 ≤ e ∧ e < 256) : ∃ bs : List Nat, bs.length = es.length ∧ (∀ x ∈ bs, x < 256) ∧ Src (w.alloc (.cells (es.map (Value.int .u8)).toArray 5)) (.slice (some ⟨w.heap.size, 0, none⟩) es.length es.length) bs := by
  refine ⟨es.map Int.toNat, by simp, ?_, ?_⟩
  · intro x hx
    obtain ⟨e, he, rfl⟩ := List.mem_map.1 hx
    have := h e he
    omega
  · have e : es.map (Value.int .u8) = cellsOf (es.map Int.toNat) := by
      simp only [cellsOf, List.map_map]
      refine List.map_congr_left fun e he => ?_
      show Value.int .u8 e = Value.int .u8 ((e.toNat : Nat) : Int)
      rw [Int.toNat_of_nonneg (h e he).1]
    rw [e]
    have := src_lit w (es.map Int.toNat)
    simpa using this
theorem src_take {w : World} {g o n c : Nat} {bs : List Nat} (h : Src w (.slice (some ⟨g, o, none⟩) n c) bs) (m : Nat) (hm : m ≤ bs.length) : Src w (.slice (some ⟨g, o, none⟩) m c) (bs.take m) := by
  have hc : bs.length ≤ c := by
    rcases h with ⟨e, _⟩ | ⟨a, c', e, h2, _⟩
    · simp at e
    · injection e with _ _ e3
      omega
  refine src_of (by rw [List.length_take]; omega) (by rw [List.length_take]; omega) fun j hj => ?_
  rw [List.length_take] at hj
  rw [h.cells_at j (by omega)]
  simp

def odds : List Dv := [⟨false, false, 0, false, true, 0, false, 0, false, 0, false, false, 0⟩, ⟨false, false, 0, false, false, 1, false, 0, false, 0, false, false, 0⟩, ⟨false, false, 0, false, false, 0, false, 1, false, 0, false, false, 0⟩, ⟨false, false, 0, false, false, 0, false, 0, false, 1, false, false, 0⟩, ⟨false, false, 0, false, false, 0, false, 0, false, 0, true, false, 0⟩, ⟨false, false, 0, false, false, 0, false, 0, false, 0, false, false, 1⟩, ⟨false, false, 0, false, false, 0, false, 0, false, 1, false, true, 0⟩, ⟨false, false, 0, false, false, 0, false, 0, true, 0, false, false, 1⟩, ⟨false, false, 255, false, false, 0, false, 0, false, 0, false, false, 0⟩]
theorem odds_at (k : Nat) (h : k < 9) : ∃ d, odds[k]? = some d ∧ d.Fit := by
  have h9 : odds.length = 9 := rfl
  refine ⟨odds[k], List.getElem?_eq_getElem (by omega), ?_⟩
  have all : ∀ d ∈ odds, d.part < 256 ∧ d.pic < 65536 ∧ d.tl0 < 256 ∧ d.tid < 256 ∧ d.key < 256 := by decide
  obtain ⟨a1, a2, a3, a4, a5⟩ := all odds[k] (List.getElem_mem _)
  exact ⟨a1, a2, a3, a4, a5⟩
theorem flat_at : ∀ (l : List Dv) (i j : Nat) (d : Dv), l[i]? = some d → j < 13 → (l.flatMap (fun d => d.cells.toList))[13 * i + j]? = d.cells[j]?
  | [], i, j, d, h, _ => by simp at h
  | e :: l, 0, j, d, h, hj => by
    simp at h
    subst h
    rw [List.flatMap_cons, List.getElem?_append_left (by simp [Dv.cells]; omega)]
    simp
  | e :: l, i + 1, j, d, h, hj => by
    rw [List.flatMap_cons, List.getElem?_append_right (by simp [Dv.cells]; omega)]
    have e13 : e.cells.toList.length = 13 := rfl
    rw [e13, show 13 * (i + 1) + j - 13 = 13 * i + j from by omega]
    exact flat_at l i j d (by simpa using h) hj

set_option maxRecDepth 100000 in
set_option maxHeartbeats 8000000 in
theorem known_any (w : World) : Calls Try.prog 6 #[] w fun e w' => e = .returned (.bool true) ∧ Only (fun _ => False) w w' := by
  go_enter Try.func6, Try.ntmps6
  go_wp2
  go_loopw [1] (fun i wr => ∃ n : Nat, n ≤ 256 ∧ i = .int .i64 n ∧ Only (fun _ => False) w wr) (fun i _ => 256 - (intOf i).toNat)
  case atStart => exact ⟨0, by omega, rfl, Only.refl _ _⟩
  case round =>
    obtain ⟨n, hn, rfl, hpw⟩ := hrel
    have HPW := Lib.hid hpw
    clear hpw
    by_cases hlt : n < 256
    · have zn : (n : Int) < 256 := by omega
      go_wp2
      go_loopw [2] (fun i wx => ∃ k : Nat, k ≤ 16 ∧ i = .int .i64 k ∧ Only (fun _ => False) wr wx) (fun i _ => 16 - (intOf i).toNat)
      case atStart => exact ⟨0, by omega, rfl, Only.refl _ _⟩
      case round =>
        obtain ⟨k, hk, rfl, hpk⟩ := hrel
        have HPK := Lib.hid hpk
        clear hpk
        by_cases hkt : k < 16
        · have zk : (k : Int) < 16 := by omega
          go_upto_region 8 with (fail)
          obtain ⟨g, hg⟩ : ∃ g, wr.heap.size = g := ⟨_, rfl⟩
          generalize hw1 : World.alloc _ _ = w1
          have hsr : ∃ bs : List Nat, bs.length = 7 ∧ (∀ x ∈ bs, x < 256) ∧ Src w1 (.slice (some ⟨wr.heap.size, 0, none⟩) 7 7) bs := by
            rw [← hw1]
            refine src_bytes _ [_, _, _, _, _, _, _] ?_
            intro e he
            simp only [List.mem_cons, List.mem_nil_iff, or_false] at he
            rcases he with rfl | rfl | rfl | rfl | rfl | rfl | rfl <;> omega
          obtain ⟨bs, hbl, hbb, hsrc⟩ := hsr
          have O1 := Lib.hid (only_more HPK.out (show Only (fun _ => False) wr w1 from by rw [← hw1]; exact (Only.refl _ _).alloc _))
          clear hw1
          rw [hg] at hsrc ⊢
          have HS := Lib.hid hsrc
          have HBB := Lib.hid hbb
          have HBL := Lib.hid hbl
          clear hg hsrc hbb hbl
          have l2 : k / 2 ≤ 7 := by omega
          go_wp2_with fail
          refine (reads_any _ bs w1 HS.out HBB.out).mono ?_
          rintro e w2 ⟨rfl, ho2⟩
          have O2 := Lib.hid ho2
          clear ho2
          go_wp2_with fail
          refine (reads_any _ (bs.take (k / 2)) w2 ((src_take HS.out (k / 2) (by have := HBL.out; omega)).only O2.out (by simp)) (fun x hx => HBB.out x (List.mem_of_mem_take hx))).mono ?_
          rintro e w3 ⟨rfl, ho3⟩
          have O3 := Lib.hid (only_more O2.out ho3)
          clear ho3 l2
          by_cases h4 : n % 4 = 0
          · have b4 : ((n : Int) % 4 == 0) = true := by rw [beq_iff_eq]; omega
            have l7 : 1 + k % 7 ≤ 7 := by omega
            go_wp2_with fail
            refine (back_any Dv.zero _ (bs.take (1 + k % 7)) 1 2 3 w3 zero_fit ((src_take HS.out (1 + k % 7) (by have := HBL.out; omega)).only O3.out (by simp)) (fun x hx => HBB.out x (List.mem_of_mem_take hx)) (by decide) (by decide) (by decide)).mono ?_
            rintro e w4 ⟨rfl, ho4⟩
            have O4 := Lib.hid (only_more O1.out (only_more O3.out ho4))
            clear ho4
            go_wp2
            exact ⟨⟨k + 1, by omega, by go_num, O4.out⟩, by simp [intOf]; omega⟩
          · have b4 : ((n : Int) % 4 == 0) = false := by rw [beq_eq_false_iff_ne]; omega
            go_wp2
            exact ⟨⟨k + 1, by omega, by go_num, only_more O1.out O3.out⟩, by simp [intOf]; omega⟩
        · obtain rfl : k = 16 := by omega
          go_wp2
          exact ⟨⟨n + 1, by omega, by go_num, only_more HPW.out HPK.out⟩, by simp [intOf]; omega⟩
    · obtain rfl : n = 256 := by omega
      have T1 := HPW
      go_wp2
      go_loopw [4] (fun i wx => ∃ n : Nat, n ≤ 512 ∧ i = .int .i64 n ∧ Only (fun _ => False) w wx) (fun i _ => 512 - (intOf i).toNat)
      case atStart => exact ⟨0, by omega, rfl, T1.out⟩
      case round =>
        obtain ⟨n, hn, rfl, hpw⟩ := hrel
        have HP3 := Lib.hid hpw
        clear hpw HPW T1
        by_cases hlt : n < 512
        · have zn : (n : Int) < 512 := by omega
          go_upto_region 14 with (fail)
          obtain ⟨db, hdb⟩ : ∃ db, wr.heap.size = db := ⟨_, rfl⟩
          generalize hw1 : World.alloc _ _ = w1
          have hd : ∃ d : Dv, d.Fit ∧ Is w1 wr.heap.size 31 d.cells := by
            rw [← hw1]
            exact ⟨⟨_, _, n % 9, _, false, 0, _, 0, _, 0, false, _, 0⟩, ⟨by show n % 9 < 256; omega, (by decide : (0 : Nat) < 65536), (by decide : (0 : Nat) < 256), (by decide : (0 : Nat) < 256), (by decide : (0 : Nat) < 256)⟩, Is.made _ _ _⟩
          obtain ⟨d, hf, hi⟩ := hd
          have hO := only_more HP3.out (show Only (fun _ => False) wr w1 from by rw [← hw1]; exact (Only.refl _ _).alloc _)
          have HDB := Lib.hid (show w.heap.size ≤ db from by have := HP3.out.size; omega)
          rw [hdb] at hi ⊢
          clear hw1 hdb HP3
          have c3 := hi.cell 3
          simp [Dv.cells] at c3
          go_upto_if 96 with (fail)
          go_cut [] (fun wx => ∃ d : Dv, d.Fit ∧ Is wx db 31 d.cells ∧ Only (fun _ => False) w wx)
          case first =>
            cases hp : d.hasPic
            · go_wp2_with fail
              go_meet
              exact ⟨d, hf, hi, hO⟩
            · clear c3
              have q4 := hi.cell 4
              have f4 := hi.free 4
              simp [Dv.cells] at q4
              go_upto_region 16 with (fail)
              generalize hwk : World.setCell w1 _ _ = w2
              have hL : ∃ l : Bool, Is w2 db 31 (Dv.cells { d with long := l }) := by rw [← hwk]; exact ⟨(n : Int) / 64 % 2 == 1, hi.put 4 _⟩
              obtain ⟨l, hi2⟩ := hL
              have hO2 : Only (fun _ => False) w w2 := by rw [← hwk]; exact Only.set (S := fun _ => False) (p := ⟨db, 4, none⟩) hO (fun h => by have := HDB.out; exact absurd h (by show ¬ db < w.heap.size; omega)) _
              clear hwk q4 f4
              have hdbl := hi2.lt
              have q5 := hi2.cell 5
              have f5 := hi2.free 5
              simp [Dv.cells] at q5
              have h6 : n % 6 = 0 ∨ n % 6 = 1 ∨ n % 6 = 2 ∨ n % 6 = 3 ∨ n % 6 = 4 ∨ n % 6 = 5 := by omega
              have HN2 := Lib.hid hi2
              have HO2 := Lib.hid hO2
              have HFF := Lib.hid hf
              have HDL := Lib.hid hdbl
              clear hi hi2 hO hO2 hf
              rcases h6 with h6 | h6 | h6 | h6 | h6 | h6
              · have z6 : (n : Int) % 6 = ((n % 6 : Nat) : Int) := by omega
                rw [h6] at z6
                go_wp2_with fail
                go_meet
                exact ⟨{ d with long := l, pic := 0 }, ⟨HFF.out.part, (by decide : (0 : Nat) < 65536), HFF.out.tl0, HFF.out.tid, HFF.out.key⟩, (HN2.out.put 5 _).alloc _, Only.alloc (Only.set (S := fun _ => False) (p := ⟨db, 5, none⟩) HO2.out (fun h => by have := HDB.out; exact absurd h (by show ¬ db < w.heap.size; omega)) _) _⟩
              · have z6 : (n : Int) % 6 = ((n % 6 : Nat) : Int) := by omega
                rw [h6] at z6
                go_wp2_with fail
                go_meet
                exact ⟨{ d with long := l, pic := 127 }, ⟨HFF.out.part, (by decide : (127 : Nat) < 65536), HFF.out.tl0, HFF.out.tid, HFF.out.key⟩, (HN2.out.put 5 _).alloc _, Only.alloc (Only.set (S := fun _ => False) (p := ⟨db, 5, none⟩) HO2.out (fun h => by have := HDB.out; exact absurd h (by show ¬ db < w.heap.size; omega)) _) _⟩
              · have z6 : (n : Int) % 6 = ((n % 6 : Nat) : Int) := by omega
                rw [h6] at z6
                go_wp2_with fail
                go_meet
                exact ⟨{ d with long := l, pic := 128 }, ⟨HFF.out.part, (by decide : (128 : Nat) < 65536), HFF.out.tl0, HFF.out.tid, HFF.out.key⟩, (HN2.out.put 5 _).alloc _, Only.alloc (Only.set (S := fun _ => False) (p := ⟨db, 5, none⟩) HO2.out (fun h => by have := HDB.out; exact absurd h (by show ¬ db < w.heap.size; omega)) _) _⟩
              · have z6 : (n : Int) % 6 = ((n % 6 : Nat) : Int) := by omega
                rw [h6] at z6
                go_wp2_with fail
                go_meet
                exact ⟨{ d with long := l, pic := 32767 }, ⟨HFF.out.part, (by decide : (32767 : Nat) < 65536), HFF.out.tl0, HFF.out.tid, HFF.out.key⟩, (HN2.out.put 5 _).alloc _, Only.alloc (Only.set (S := fun _ => False) (p := ⟨db, 5, none⟩) HO2.out (fun h => by have := HDB.out; exact absurd h (by show ¬ db < w.heap.size; omega)) _) _⟩
              · have z6 : (n : Int) % 6 = ((n % 6 : Nat) : Int) := by omega
                rw [h6] at z6
                go_wp2_with fail
                go_meet
                exact ⟨{ d with long := l, pic := 32768 }, ⟨HFF.out.part, (by decide : (32768 : Nat) < 65536), HFF.out.tl0, HFF.out.tid, HFF.out.key⟩, (HN2.out.put 5 _).alloc _, Only.alloc (Only.set (S := fun _ => False) (p := ⟨db, 5, none⟩) HO2.out (fun h => by have := HDB.out; exact absurd h (by show ¬ db < w.heap.size; omega)) _) _⟩
              · have z6 : (n : Int) % 6 = ((n % 6 : Nat) : Int) := by omega
                rw [h6] at z6
                go_wp2_with fail
                go_meet
                exact ⟨{ d with long := l, pic := 5 }, ⟨HFF.out.part, (by decide : (5 : Nat) < 65536), HFF.out.tl0, HFF.out.tid, HFF.out.key⟩, (HN2.out.put 5 _).alloc _, Only.alloc (Only.set (S := fun _ => False) (p := ⟨db, 5, none⟩) HO2.out (fun h => by have := HDB.out; exact absurd h (by show ¬ db < w.heap.size; omega)) _) _⟩
          case rest =>
            obtain ⟨d, hf, hi, hO⟩ := hcut
            generalize wc = w1 at *
            have c6 := hi.cell 6
            simp [Dv.cells] at c6
            go_upto_if 109 with (fail)
            go_cut [] (fun wx => ∃ d : Dv, d.Fit ∧ Is wx db 31 d.cells ∧ Only (fun _ => False) w wx)
            case first =>
              cases hp : d.hasTl0
              · go_wp2_with fail
                go_meet
                exact ⟨d, hf, hi, hO⟩
              · clear c6
                have q7 := hi.cell 7
                have f7 := hi.free 7
                simp [Dv.cells] at q7
                go_wp2_with fail
                go_meet
                exact ⟨{ d with tl0 := n % 256 }, ⟨hf.part, hf.pic, by show n % 256 < 256; omega, hf.tid, hf.key⟩, hi.put 7 _, Only.set (S := fun _ => False) (p := ⟨db, 7, none⟩) hO (fun h => by have := HDB.out; exact absurd h (by show ¬ db < w.heap.size; omega)) _⟩
            case rest =>
              obtain ⟨d, hf, hi, hO⟩ := hcut
              generalize wc = w1 at *
              have c8 := hi.cell 8
              simp [Dv.cells] at c8
              go_upto_if 114 with (fail)
              go_cut [] (fun wx => ∃ d : Dv, d.Fit ∧ Is wx db 31 d.cells ∧ Only (fun _ => False) w wx)
              case first =>
                cases hp : d.hasTid
                · go_wp2_with fail
                  go_meet
                  exact ⟨d, hf, hi, hO⟩
                · clear c8
                  have q9 := hi.cell 9
                  have f9 := hi.free 9
                  simp [Dv.cells] at q9
                  go_upto_region 21 with (fail)
                  generalize hwk : World.setCell w1 _ _ = w2
                  have hi2 : Is w2 db 31 (Dv.cells { d with tid := n % 5 }) := by rw [← hwk]; exact hi.put 9 _
                  have hO2 : Only (fun _ => False) w w2 := by rw [← hwk]; exact Only.set (S := fun _ => False) (p := ⟨db, 9, none⟩) hO (fun h => by have := HDB.out; exact absurd h (by show ¬ db < w.heap.size; omega)) _
                  clear hwk q9 f9
                  have q10 := hi2.cell 10
                  have f10 := hi2.free 10
                  simp [Dv.cells] at q10
                  go_wp2_with fail
                  go_meet
                  exact ⟨{ d with tid := n % 5, sync := (n : Int) / 128 % 2 == 1 }, ⟨hf.part, hf.pic, hf.tl0, by show n % 5 < 256; omega, hf.key⟩, hi2.put 10 _, Only.set (S := fun _ => False) (p := ⟨db, 10, none⟩) hO2 (fun h => by have := HDB.out; exact absurd h (by show ¬ db < w.heap.size; omega)) _⟩
              case rest =>
                obtain ⟨d, hf, hi, hO⟩ := hcut
                generalize wc = w1 at *
                have c11 := hi.cell 11
                simp [Dv.cells] at c11
                go_upto_if 125 with (fail)
                go_cut [] (fun wx => ∃ d : Dv, d.Fit ∧ Is wx db 31 d.cells ∧ Only (fun _ => False) w wx)
                case first =>
                  cases hp : d.hasKey
                  · go_wp2_with fail
                    go_meet
                    exact ⟨d, hf, hi, hO⟩
                  · clear c11
                    have q12 := hi.cell 12
                    have f12 := hi.free 12
                    simp [Dv.cells] at q12
                    go_wp2_with fail
                    go_meet
                    exact ⟨{ d with key := n % 33 }, ⟨hf.part, hf.pic, hf.tl0, hf.tid, by show n % 33 < 256; omega⟩, hi.put 12 _, Only.set (S := fun _ => False) (p := ⟨db, 12, none⟩) hO (fun h => by have := HDB.out; exact absurd h (by show ¬ db < w.heap.size; omega)) _⟩
                case rest =>
                  obtain ⟨d, hf, hi, hO⟩ := hcut
                  generalize wc = w1 at *
                  have HI := Lib.hid hi
                  have HO := Lib.hid hO
                  have HF := Lib.hid hf
                  clear hi hO hf
                  obtain ⟨m, hm, hm8⟩ : ∃ m : Nat, IntKind.u8.wrap (n : Int) = (m : Int) ∧ m < 256 := ⟨(IntKind.u8.wrap (n : Int)).toNat, by have := u8_range (n : Int); omega, by have := u8_range (n : Int); omega⟩
                  obtain ⟨y, hy, hy16⟩ : ∃ y : Nat, IntKind.u16.wrap (IntKind.i64.wrap ((n : Int) * 129)) = (y : Int) ∧ y < 65536 := ⟨(IntKind.u16.wrap (IntKind.i64.wrap ((n : Int) * 129))).toNat, by have := u16_range (IntKind.i64.wrap ((n : Int) * 129)); omega, by have := u16_range (IntKind.i64.wrap ((n : Int) * 129)); omega⟩
                  have M8 := Lib.hid hm8
                  have SL1 := Lib.hid (show ∀ w1 : World, Src (w1.alloc (.cells #[.int .u8 (IntKind.u8.wrap (n : Int))] 5)) (.slice (some ⟨w1.heap.size, 0, none⟩) 1 1) [m] from fun w1 => by rw [hm]; exact src_lit w1 [m])
                  have SL3 := Lib.hid (show ∀ w1 : World, Src (w1.alloc (.cells #[.int .u8 (IntKind.u8.wrap (n : Int)), .int .u8 1, .int .u8 2] 5)) (.slice (some ⟨w1.heap.size, 0, none⟩) 3 3) [m, 1, 2] from fun w1 => by rw [hm]; exact src_lit w1 [m, 1, 2])
                  have T2 := Lib.hid (show (0 ≤ (n : Int).tmod 2 ∧ (n : Int).tmod 2 ≤ 1) ∧ ((n : Int).tmod 2).toNat ≤ [m].length from by rw [Int.tmod_eq_emod_of_nonneg (by omega)]; simp only [List.length_singleton]; omega)
                  have HPU := Lib.hid (show ∀ v r wx (b : Bool), Src wx v r → (∀ z ∈ r, z < 256) → Calls Try.prog 4 #[.agg d.cells, v, .int .u16 (IntKind.u16.wrap (IntKind.i64.wrap ((n : Int) * 129))), .int .u8 (IntKind.u8.wrap (n : Int)), .int .u8 (IntKind.u8.wrap (n : Int)), .bool b] wx fun e w' => e = .returned (.bool true) ∧ Only (fun _ => False) wx w' from fun v r wx b hs hb => by rw [hm, hy]; exact puts_any d v r y m m b wx HF.out hs hb hy16 hm8 hm8)
                  have HBK := Lib.hid (show ∀ v r wx, Src wx v r → (∀ z ∈ r, z < 256) → Calls Try.prog 5 #[.agg d.cells, v, .int .u16 (IntKind.u16.wrap (IntKind.i64.wrap ((n : Int) * 129))), .int .u8 (IntKind.u8.wrap (n : Int)), .int .u8 (IntKind.u8.wrap (n : Int))] wx fun e w' => e = .returned (.bool true) ∧ Only (fun _ => False) wx w' from fun v r wx hs hb => by rw [hm, hy]; exact back_any d v r y m m wx HF.out hs hb hy16 hm8 hm8)
                  clear hm hm8 hy hy16
                  go_upto_region 24 with (fail)
                  refine wp_region_posts [[], [], [1], [2, 1], [], [4], [3, 5, 2, 1, 4], [], [7], [8, 7], [], [10], [], [12], [], [14], [15, 14], [0, 6, 9, 11, 13, 16, 3, 5, 2, 1, 4, 8, 7, 10, 12, 15, 14], [17, 0, 6, 9, 11, 13, 16, 3, 5, 2, 1, 4, 8, 7, 10, 12, 15, 14], [18, 17, 0, 6, 9, 11, 13, 16, 3, 5, 2, 1, 4, 8, 7, 10, 12, 15, 14], [19, 18, 17, 0, 6, 9, 11, 13, 16, 3, 5, 2, 1, 4, 8, 7, 10, 12, 15, 14], [19, 18, 17, 0, 6, 9, 11, 13, 16, 3, 5, 2, 1, 4, 8, 7, 10, 12, 15, 14], [21, 19, 18, 17, 0, 6, 9, 11, 13, 16, 3, 5, 2, 1, 4, 8, 7, 10, 12, 15, 14], [22, 19, 21, 18, 17, 0, 6, 9, 11, 13, 16, 3, 5, 2, 1, 4, 8, 7, 10, 12, 15, 14], [19, 18, 17, 0, 6, 9, 11, 13, 16, 3, 5, 2, 1, 4, 8, 7, 10, 12, 15, 14], [24, 19, 18, 17, 0, 6, 9, 11, 13, 16, 3, 5, 2, 1, 4, 8, 7, 10, 12, 15, 14], [25, 19, 24, 18, 17, 0, 6, 9, 11, 13, 16, 3, 5, 2, 1, 4, 8, 7, 10, 12, 15, 14], [19, 18, 17, 0, 6, 9, 11, 13, 16, 3, 5, 2, 1, 4, 8, 7, 10, 12, 15, 14], [27, 19, 18, 17, 0, 6, 9, 11, 13, 16, 3, 5, 2, 1, 4, 8, 7, 10, 12, 15, 14], [19, 18, 17, 0, 6, 9, 11, 13, 16, 3, 5, 2, 1, 4, 8, 7, 10, 12, 15, 14], [29, 19, 18, 17, 0, 6, 9, 11, 13, 16, 3, 5, 2, 1, 4, 8, 7, 10, 12, 15, 14], [20, 23, 26, 28, 30, 19, 18, 17, 0, 6, 9, 11, 13, 16, 3, 5, 2, 1, 4, 8, 7, 10, 12, 15, 14, 22, 21, 25, 24, 27, 29], [31, 19, 20, 23, 26, 28, 30, 18, 17, 0, 6, 9, 11, 13, 16, 3, 5, 2, 1, 4, 8, 7, 10, 12, 15, 14, 22, 21, 25, 24, 27, 29], [19, 32, 18, 17, 0, 6, 9, 11, 13, 16, 3, 5, 2, 1, 4, 8, 7, 10, 12, 15, 14, 31, 20, 23, 26, 28, 30, 22, 21, 25, 24, 27, 29]] [3, 17, 23, 31] [3, 6, 23] [[], [], [], [], [], [], [], [], [], [], [], [], [], [], [], [], [], [], [], [], [], [], [], [], [], [], [], [], [], [], [], [], [], []] [[], [], [], [], [], [], [3], [], [], [], [], [], [], [], [], [], [], [6], [], [], [], [], [], [], [], [], [], [], [], [], [], [23], [], []] [] [] [] []
                      [some (.agg d.cells), some ?v1, some ?v2, none, some ?v4, some ?v5, none, some ?v7, some ?v8, some ?v9, some ?v10, some ?v11, some ?v12, some ?v13, some ?v14, some ?v15, some ?v16, some (.bool true), some ?v18, some ?v19, some (.agg d.cells), some ?v21, some ?v22, none, some ?v24, some ?v25, some ?v26, some ?v27, some ?v28, some ?v29, some ?v30, some (.bool true), some ?v32, some ?v33]
                      ?T (fun wx => Is wx db 31 d.cells ∧ Only (fun _ => False) w wx) ?W ?E (by kernel_rfl) (by kernel_rfl) (by kernel_rfl) (fun x => ?hT) ?hF ?hini (Reg.all_ops ?runs) ?pres ?fin
                  case W => exact fun j x w' => match j with | 3 => ∃ g, x 3 = .slice (some ⟨g, 0, none⟩) 1 1 ∧ Src w' (x 3) [m] | 6 => Src w' (x 6) ([m].take ((n : Int).tmod 2).toNat) | 23 => Src w' (x 23) [m, 1, 2] | _ => True
                  case E => exact fun _ w' w'' => Only (fun _ => False) w' w''
                  case hT =>
                    simp only [Reg.fillV, Act.put, List.setIfInBounds_toArray, List.set_cons_zero, List.set_cons_succ]
                    rfl
                  case runs =>
                    refine And.intro ?_ ?_
                    · refine Reg.ob_pure (fun _ => rfl) rfl rfl rfl rfl (fun x w1 hF => ?_)
                      exact run_load_is 31 _ (by rfl) db (by rfl) 31 _ _ hF.1 Try.underlying31 rfl Try.sizeDesc
                    refine And.intro ?_ ?_
                    · refine Reg.ob_pure (fun _ => rfl) rfl rfl rfl rfl (fun x w1 hF => ?_)
                      obtain ⟨hI, hO⟩ := hF
                      go_simp
                      with_reducible rfl
                    refine And.intro ?_ ?_
                    · refine Reg.ob_pure (fun _ => rfl) rfl rfl rfl rfl (fun x w1 hF => ?_)
                      obtain ⟨hI, hO⟩ := hF
                      go_simp
                      with_reducible rfl
                    refine And.intro ?_ ?_
                    · refine Reg.ob_some (fun _ => rfl) rfl (fun x w1 hF hU K hK => ?_)
                      obtain ⟨hI, hO⟩ := hF rfl
                      go_simp
                      exact hK _ _ (fun _ _ _ => ⟨hI.alloc _, hO.alloc _⟩) ((Only.refl _ w1).alloc _) ⟨_, rfl, SL1.out w1⟩
                    refine And.intro ?_ ?_
                    · refine Reg.ob_pure (fun _ => rfl) rfl rfl rfl rfl (fun x w1 hF => ?_)
                      obtain ⟨hI, hO⟩ := hF
                      go_simp
                      with_reducible rfl
                    refine And.intro ?_ ?_
                    · refine Reg.ob_pure (fun _ => rfl) rfl rfl rfl rfl (fun x w1 hF => ?_)
                      obtain ⟨hI, hO⟩ := hF
                      go_simp
                      with_reducible rfl
                    refine And.intro ?_ ?_
                    · refine Reg.ob_some (fun _ => rfl) rfl (fun x w1 hF hU K hK => ?_)
                      obtain ⟨⟨g, h3, hS⟩, -⟩ := hU
                      have h3 : x 3 = .slice (some ⟨g, 0, none⟩) 1 1 := h3
                      have hS : Src w1 (x 3) [m] := hS
                      rw [h3] at hS
                      revert hK
                      simp only [Nat.reduceAdd, h3]
                      intro hK
                      go_simp
                      rw [if_pos T2.out.1]
                      simp only [Oper.upon]
                      exact hK _ _ (fun h => by cases h) rfl (src_take hS _ T2.out.2)
                    refine And.intro ?_ ?_
                    · refine Reg.ob_pure (fun _ => rfl) rfl rfl rfl rfl (fun x w1 hF => ?_)
                      obtain ⟨hI, hO⟩ := hF
                      go_simp
                      with_reducible rfl
                    refine And.intro ?_ ?_
                    · refine Reg.ob_pure (fun _ => rfl) rfl rfl rfl rfl (fun x w1 hF => ?_)
                      obtain ⟨hI, hO⟩ := hF
                      go_simp
                      with_reducible rfl
                    refine And.intro ?_ ?_
                    · refine Reg.ob_pure (fun _ => rfl) rfl rfl rfl rfl (fun x w1 hF => ?_)
                      obtain ⟨hI, hO⟩ := hF
                      go_simp
                      with_reducible rfl
                    refine And.intro ?_ ?_
                    · refine Reg.ob_pure (fun _ => rfl) rfl rfl rfl rfl (fun x w1 hF => ?_)
                      obtain ⟨hI, hO⟩ := hF
                      go_simp
                      with_reducible rfl
                    refine And.intro ?_ ?_
                    · refine Reg.ob_pure (fun _ => rfl) rfl rfl rfl rfl (fun x w1 hF => ?_)
                      obtain ⟨hI, hO⟩ := hF
                      go_simp
                      with_reducible rfl
                    refine And.intro ?_ ?_
                    · refine Reg.ob_pure (fun _ => rfl) rfl rfl rfl rfl (fun x w1 hF => ?_)
                      obtain ⟨hI, hO⟩ := hF
                      go_simp
                      with_reducible rfl
                    refine And.intro ?_ ?_
                    · refine Reg.ob_pure (fun _ => rfl) rfl rfl rfl rfl (fun x w1 hF => ?_)
                      obtain ⟨hI, hO⟩ := hF
                      go_simp
                      with_reducible rfl
                    refine And.intro ?_ ?_
                    · refine Reg.ob_pure (fun _ => rfl) rfl rfl rfl rfl (fun x w1 hF => ?_)
                      obtain ⟨hI, hO⟩ := hF
                      go_simp
                      with_reducible rfl
                    refine And.intro ?_ ?_
                    · refine Reg.ob_pure (fun _ => rfl) rfl rfl rfl rfl (fun x w1 hF => ?_)
                      obtain ⟨hI, hO⟩ := hF
                      go_simp
                      with_reducible rfl
                    refine And.intro ?_ ?_
                    · refine Reg.ob_pure (fun _ => rfl) rfl rfl rfl rfl (fun x w1 hF => ?_)
                      obtain ⟨hI, hO⟩ := hF
                      go_simp
                      with_reducible rfl
                    refine And.intro ?_ ?_
                    · refine Reg.ob_known (fun _ => rfl) rfl rfl (fun x w1 hF hU K hK => ?_)
                      obtain ⟨hI, hO⟩ := hF rfl
                      obtain ⟨hS, -⟩ := hU
                      have hS : Src w1 (x 6) ([m].take ((n : Int).tmod 2).toNat) := hS
                      go_simp
                      refine (HPU.out _ _ w1 _ hS (fun y hy => by have := List.mem_of_mem_take hy; simp at this; have := M8.out; omega)).mono ?_
                      rintro e w3 ⟨rfl, ho⟩
                      exact hK w3 (fun _ _ _ => ⟨hI.only ho (by simp), only_more hO ho⟩) ho
                    refine And.intro ?_ ?_
                    · refine Reg.ob_pure (fun _ => rfl) rfl rfl rfl rfl (fun x w1 hF => ?_)
                      obtain ⟨hI, hO⟩ := hF
                      go_simp
                      with_reducible rfl
                    refine And.intro ?_ ?_
                    · refine Reg.ob_pure (fun _ => rfl) rfl rfl rfl rfl (fun x w1 hF => ?_)
                      obtain ⟨hI, hO⟩ := hF
                      go_simp
                      with_reducible rfl
                    refine And.intro ?_ ?_
                    · refine Reg.ob_pure (fun _ => rfl) rfl rfl rfl rfl (fun x w1 hF => ?_)
                      exact run_load_is 31 _ (by rfl) db (by rfl) 31 _ _ hF.1 Try.underlying31 rfl Try.sizeDesc
                    refine And.intro ?_ ?_
                    · refine Reg.ob_pure (fun _ => rfl) rfl rfl rfl rfl (fun x w1 hF => ?_)
                      obtain ⟨hI, hO⟩ := hF
                      go_simp
                      with_reducible rfl
                    refine And.intro ?_ ?_
                    · refine Reg.ob_pure (fun _ => rfl) rfl rfl rfl rfl (fun x w1 hF => ?_)
                      obtain ⟨hI, hO⟩ := hF
                      go_simp
                      with_reducible rfl
                    refine And.intro ?_ ?_
                    · refine Reg.ob_some (fun _ => rfl) rfl (fun x w1 hF hU K hK => ?_)
                      obtain ⟨hI, hO⟩ := hF rfl
                      go_simp
                      exact hK _ _ (fun _ _ _ => ⟨hI.alloc _, hO.alloc _⟩) ((Only.refl _ w1).alloc _) (SL3.out w1)
                    refine And.intro ?_ ?_
                    · refine Reg.ob_pure (fun _ => rfl) rfl rfl rfl rfl (fun x w1 hF => ?_)
                      obtain ⟨hI, hO⟩ := hF
                      go_simp
                      with_reducible rfl
                    refine And.intro ?_ ?_
                    · refine Reg.ob_pure (fun _ => rfl) rfl rfl rfl rfl (fun x w1 hF => ?_)
                      obtain ⟨hI, hO⟩ := hF
                      go_simp
                      with_reducible rfl
                    refine And.intro ?_ ?_
                    · refine Reg.ob_pure (fun _ => rfl) rfl rfl rfl rfl (fun x w1 hF => ?_)
                      obtain ⟨hI, hO⟩ := hF
                      go_simp
                      with_reducible rfl
                    refine And.intro ?_ ?_
                    · refine Reg.ob_pure (fun _ => rfl) rfl rfl rfl rfl (fun x w1 hF => ?_)
                      obtain ⟨hI, hO⟩ := hF
                      go_simp
                      with_reducible rfl
                    refine And.intro ?_ ?_
                    · refine Reg.ob_pure (fun _ => rfl) rfl rfl rfl rfl (fun x w1 hF => ?_)
                      obtain ⟨hI, hO⟩ := hF
                      go_simp
                      with_reducible rfl
                    refine And.intro ?_ ?_
                    · refine Reg.ob_pure (fun _ => rfl) rfl rfl rfl rfl (fun x w1 hF => ?_)
                      obtain ⟨hI, hO⟩ := hF
                      go_simp
                      with_reducible rfl
                    refine And.intro ?_ ?_
                    · refine Reg.ob_pure (fun _ => rfl) rfl rfl rfl rfl (fun x w1 hF => ?_)
                      obtain ⟨hI, hO⟩ := hF
                      go_simp
                      with_reducible rfl
                    refine And.intro ?_ ?_
                    · refine Reg.ob_known (fun _ => rfl) rfl rfl (fun x w1 hF hU K hK => ?_)
                      obtain ⟨hI, hO⟩ := hF rfl
                      obtain ⟨hS, -⟩ := hU
                      have hS : Src w1 (x 23) [m, 1, 2] := hS
                      go_simp
                      refine (HBK.out _ _ w1 hS (fun y hy => by simp at hy; have := M8.out; omega)).mono ?_
                      rintro e w3 ⟨rfl, ho⟩
                      exact hK w3 (fun _ _ _ => ⟨hI.only ho (by simp), only_more hO ho⟩) ho
                    refine And.intro ?_ ?_
                    · refine Reg.ob_pure (fun _ => rfl) rfl rfl rfl rfl (fun x w1 hF => ?_)
                      obtain ⟨hI, hO⟩ := hF
                      go_simp
                      with_reducible rfl
                    refine And.intro ?_ ?_
                    · refine Reg.ob_pure (fun _ => rfl) rfl rfl rfl rfl (fun x w1 hF => ?_)
                      obtain ⟨hI, hO⟩ := hF
                      go_simp
                      with_reducible rfl
                    exact trivial
                  case hF =>
                    exact ⟨HI.out, HO.out.drew⟩
                  case hini =>
                    exact trivial
                  case pres =>
                    intro i hi j hj hc x w1 w2 hF hE hW
                    replace hE : Only (fun _ => False) w1 w2 := by
                      simp only [List.mem_cons, List.mem_nil_iff, or_false] at hi
                      rcases hi with rfl | rfl | rfl | rfl <;> exact hE
                    simp only [List.mem_cons, List.mem_nil_iff, or_false] at hj
                    rcases hj with rfl | rfl | rfl
                    · obtain ⟨g, h3, hS⟩ := hW
                      exact ⟨g, h3, Src.only hS hE (by simp)⟩
                    · exact Src.only hW hE (by simp)
                    · exact Src.only hW hE (by simp)
                  case fin =>
                    rintro x wz hF -
                    obtain ⟨hI, hO⟩ := hF rfl
                    go_wp2
                    exact ⟨⟨n + 1, by omega, by go_num, hO⟩, by simp [intOf]; omega⟩
        · obtain rfl : n = 512 := by omega
          go_upto_region 27 with (fail)
          obtain ⟨g, hg⟩ : ∃ g, wr.heap.size = g := ⟨_, rfl⟩
          generalize hw1 : World.alloc _ _ = w1
          have hi : Is w1 wr.heap.size 31 (odds.flatMap (fun d => d.cells.toList)).toArray := by rw [← hw1]; exact Is.made _ _ _
          have O1 := Lib.hid (only_more HP3.out (show Only (fun _ => False) wr w1 from by rw [← hw1]; exact (Only.refl _ _).alloc _))
          rw [hg] at hi ⊢
          have HI := Lib.hid hi
          clear hw1 hg hi
          go_wp2
          go_loopw [7] (fun i wx => ∃ k : Nat, k ≤ 9 ∧ i = .int .i64 k ∧ Only (fun _ => False) w1 wx) (fun i _ => 9 - (intOf i).toNat)
          case atStart => exact ⟨0, by omega, rfl, Only.refl _ _⟩
          case round =>
            obtain ⟨k, hk, rfl, hpk⟩ := hrel
            have HPK := Lib.hid hpk
            clear hpk
            by_cases hkt : k < 9
            · have zk : (k : Int) < 9 := by omega
              obtain ⟨d, hdk, hdf⟩ := odds_at k hkt
              have hI := HI.out.only HPK.out (by simp)
              have hcl : ∀ j, j < 13 → wr.cell? ⟨g, k * 13 + j, none⟩ = d.cells[j]? := fun j hj => by rw [Nat.mul_comm k 13, hI.cell, ← flat_at odds k j d hdk hj]; simp
              have HCL := Lib.hid hcl
              have c0 := hcl 0 (by decide)
              have c1 := hcl 1 (by decide)
              have c2 := hcl 2 (by decide)
              have c3 := hcl 3 (by decide)
              have c4 := hcl 4 (by decide)
              have c5 := hcl 5 (by decide)
              have c6 := hcl 6 (by decide)
              have c7 := hcl 7 (by decide)
              have c8 := hcl 8 (by decide)
              have c9 := hcl 9 (by decide)
              have c10 := hcl 10 (by decide)
              have c11 := hcl 11 (by decide)
              have c12 := hcl 12 (by decide)
              simp [Dv.cells] at c0 c1 c2 c3 c4 c5 c6 c7 c8 c9 c10 c11 c12
              clear hI hcl
              go_wp2_with fail
              refine (puts_any d (.slice none 0 0) [] 1 2 3 true wr hdf (.inl ⟨rfl, rfl⟩) (by simp) (by decide) (by decide) (by decide)).mono ?_
              rintro e w2 ⟨rfl, ho2⟩
              have O2 := Lib.hid ho2
              clear ho2 c0 c1 c2 c3 c4 c5 c6 c7 c8 c9 c10 c11 c12
              have hI := HI.out.only (only_more HPK.out O2.out) (by simp)
              have hcl : ∀ j, j < 13 → w2.cell? ⟨g, k * 13 + j, none⟩ = d.cells[j]? := fun j hj => by rw [Nat.mul_comm k 13, hI.cell, ← flat_at odds k j d hdk hj]; simp
              have c0 := hcl 0 (by decide)
              have c1 := hcl 1 (by decide)
              have c2 := hcl 2 (by decide)
              have c3 := hcl 3 (by decide)
              have c4 := hcl 4 (by decide)
              have c5 := hcl 5 (by decide)
              have c6 := hcl 6 (by decide)
              have c7 := hcl 7 (by decide)
              have c8 := hcl 8 (by decide)
              have c9 := hcl 9 (by decide)
              have c10 := hcl 10 (by decide)
              have c11 := hcl 11 (by decide)
              have c12 := hcl 12 (by decide)
              simp [Dv.cells] at c0 c1 c2 c3 c4 c5 c6 c7 c8 c9 c10 c11 c12
              clear hI hcl
              go_wp2_with fail
              refine (back_any d (.slice none 0 0) [] 65535 255 255 w2 hdf (.inl ⟨rfl, rfl⟩) (by simp) (by decide) (by decide) (by decide)).mono ?_
              rintro e w3 ⟨rfl, ho3⟩
              have O3 := Lib.hid (only_more O2.out ho3)
              clear ho3 c0 c1 c2 c3 c4 c5 c6 c7 c8 c9 c10 c11 c12
              go_wp2
              go_roundw
              case rel =>
                (repeat apply Exists.intro)
                exact ⟨⟨k + 1, by omega, by go_num, only_more HPK.out O3.out⟩, rfl⟩
              case measure => simp [intOf]; omega
            · obtain rfl : k = 9 := by omega
              go_wp2_with fail
              refine (reads_any (.slice none 0 0) [] wr (.inl ⟨rfl, rfl⟩) (by simp)).mono ?_
              rintro e w2 ⟨rfl, ho2⟩
              have O2 := Lib.hid ho2
              clear ho2
              go_wp2_with fail
              refine (works_any w2).mono ?_
              rintro e w3 ⟨rfl, ho3⟩
              have O3 := Lib.hid ho3
              clear ho3
              go_wp2
              go_ret
              exact ⟨rfl, only_more O1.out (only_more HPK.out (only_more O2.out O3.out))⟩
end Go.Proofs.Ytneogagainllnaa
