/- MarkKnown's walk. Conditions: none. -/
import Derived.Test.YtcgfmjdlningpaaMkL
import Derived.Test.YtcgfmjdlningpaaMkI
import Derived.Test.YtcgfmjdlningpaaLit
set_option linter.unusedVariables false
namespace Go.Proofs.Ytcgfmjdlningpaa
open Go.RowKit

/-- What a round has. -/
structure Rnd (m : Mk) (p : Pk) (mb pb g : Nat) (ve : Value) (bs : List Nat) (w wx : World) : Prop where
  im : Is wx mb 69 m.cells
  ip : Is wx pb 33 (p.cls (.slice none 0 0) ve (.slice none 0 0))
  sb : Src wx (.slice (some ⟨g, 0, none⟩) 4 4) bs
  se : Src wx ve p.ext
  pure : Only (fun _ => False) w wx
theorem Rnd.go {m : Mk} {p : Pk} {mb pb g : Nat} {ve : Value} {bs : List Nat} {w wx wy : World} (h : Rnd m p mb pb g ve bs w wx) (ho : Only (fun _ => False) wx wy) : Rnd m p mb pb g ve bs w wy :=
  ⟨h.im.only ho (by simp), h.ip.only ho (by simp), h.sb.of_only ho, h.se.of_only ho, only_more h.pure ho⟩
theorem rd_none (w : World) : Rd .u32 w (.slice none 0 0) (nats []) := Rd.nil _ _
theorem src_none0 (w : World) : Src w (.slice none 0 0) [] := .inl ⟨rfl, rfl⟩
def Pk.bare (x : Nat) : Pk := ⟨false, 0, 0, 0, 0, [], false, x, [], [], 0⟩
theorem Pk.bare_fit (x : Nat) (h : x < 65536) : (Pk.bare x).Fit := ⟨Nat.succ_pos _, Nat.succ_pos _, Nat.succ_pos _, Nat.succ_pos _, by simp [Pk.bare], h, by simp [Pk.bare], by simp [Pk.bare], Nat.succ_pos _⟩
theorem finds_bare (x ix : Nat) (m : Mk) (w : World) (hx : x < 65536) (hm : m.Fit) (hix : ix < 256) :
    Calls Try.prog 10 #[.agg ((Pk.bare x).cls (.slice none 0 0) (.slice none 0 0) (.slice none 0 0)), .int .u8 ix, .agg m.cells] w fun e w' => e = .returned (.bool true) ∧ Only (fun _ => False) w w' :=
  mfinds_any (Pk.bare x) _ _ _ ix m w hm (Pk.bare_fit x hx) hix (.inl rfl) ⟨rd_none w, src_none0 w, src_none0 w, ⟨_, _, _, rfl⟩⟩
def Pk.some (q x : Nat) (es : List Nat) : Pk := ⟨false, 0, q, 0, 0, [], true, x, es, [], 0⟩
def prof4 : Array Value := #[.int .u16 48862, .int .u16 4096, .int .u16 4111, .int .u16 5]
theorem prof4_at {w : World} {pb : Nat} (h : Is w pb 25 prof4) (k : Nat) (hk : k < 4) : ∃ p : Nat, p < 65536 ∧ w.cell? ⟨pb, k, none⟩ = some (.int .u16 (p : Nat)) := by
  have hc := h.cell k
  match k, hk with
  | 0, _ => exact ⟨48862, by decide, hc⟩
  | 1, _ => exact ⟨4096, by decide, hc⟩
  | 2, _ => exact ⟨4111, by decide, hc⟩
  | 3, _ => exact ⟨5, by decide, hc⟩
theorem mk_is (w : World) (a b c d e f : Bool) (x y z : Int) (hx : 0 ≤ x ∧ x < 256) (hy : 0 ≤ y ∧ y < 256) (hz : 0 ≤ z ∧ z < 256) :
    ∃ m : Mk, m.Fit ∧ Is (w.alloc (.cells #[.bool a, .bool b, .bool c, .bool d, .bool e, .bool f, .int .u8 x, .int .u8 y, .int .u8 z] 69)) w.heap.size 69 m.cells := by
  refine ⟨⟨a, b, c, d, e, f, x.toNat, y.toNat, z.toNat⟩, ⟨by show x.toNat < 256; omega, by show y.toNat < 256; omega, by show z.toNat < 256; omega⟩, ?_⟩
  have h := Is.made w 69 #[.bool a, .bool b, .bool c, .bool d, .bool e, .bool f, .int .u8 x, .int .u8 y, .int .u8 z]
  rw [show #[Value.bool a, .bool b, .bool c, .bool d, .bool e, .bool f, .int .u8 x, .int .u8 y, .int .u8 z] = Mk.cells ⟨a, b, c, d, e, f, x.toNat, y.toNat, z.toNat⟩ from by
    show _ = #[Value.bool a, .bool b, .bool c, .bool d, .bool e, .bool f, .int .u8 ((x.toNat : Nat) : Int), .int .u8 ((y.toNat : Nat) : Int), .int .u8 ((z.toNat : Nat) : Int)]
    rw [Int.toNat_of_nonneg hx.1, Int.toNat_of_nonneg hy.1, Int.toNat_of_nonneg hz.1]] at h ⊢
  exact h

set_option maxRecDepth 100000 in
set_option maxHeartbeats 4000000 in
theorem mknown_any (w : World) : Calls Try.prog 12 #[] w fun e w' => e = .returned (.bool true) ∧ Only (fun _ => False) w w' := by
  go_enter Try.func12, Try.ntmps12
  go_wp2
  go_loopw [1] (fun i wr => ∃ n : Nat, n ≤ 256 ∧ i = .int .i64 n ∧ Only (fun _ => False) w wr) (fun i _ => 256 - (intOf i).toNat)
  case atStart => exact ⟨0, by omega, rfl, Only.refl _ _⟩
  case round =>
    obtain ⟨n, hn, rfl, hpw⟩ := hrel
    have HPW := Lib.hid hpw
    clear hpw
    by_cases hlt : n < 256
    · have zn : (n : Int) < 256 := by omega
      go_upto_region 5 with (fail)
      obtain ⟨mb, hmb⟩ : ∃ g, wr.heap.size = g := ⟨_, rfl⟩
      generalize hw1 : World.alloc _ _ = w1
      have hM : ∃ m : Mk, m.Fit ∧ Is w1 wr.heap.size 69 m.cells := by
        rw [← hw1]
        exact mk_is wr _ _ _ _ _ _ _ _ _ (by omega) (by omega) (by omega)
      obtain ⟨m0, hm0, him0⟩ := hM
      have O1 := Lib.hid (show Only (fun _ => False) wr w1 from by rw [← hw1]; exact (Only.refl _ _).alloc _)
      have HMB := Lib.hid hmb
      rw [hmb] at him0 ⊢
      have M1 := Lib.hid him0
      have HF0 := Lib.hid hm0
      clear hw1 him0 hm0 hmb
      go_cut [51] (fun v wx => (∃ b : Bool, v = .bool b) ∧ wx = w1)
      case first =>
        go_wp2
        all_goals go_meet
        all_goals exact ⟨⟨_, rfl⟩, rfl⟩
      case rest =>
        obtain ⟨⟨b, rfl⟩, hx⟩ := hcut
        rw [hx]
        clear hx
        go_upto_if 51 with (fail)
        go_cut [] (fun wx => ∃ m : Mk, m.Fit ∧ Is wx mb 69 m.cells ∧ Only (fun k => k = mb) w1 wx)
        case first =>
          cases b
          · go_wp2
            go_meet
            exact ⟨m0, HF0.out, M1.out, Only.refl _ _⟩
          · have c5 := M1.out.cell 5
            have c6 := M1.out.cell 6
            have c7 := M1.out.cell 7
            have c8 := M1.out.cell 8
            have g5 := M1.out.free 5
            have g6 := M1.out.free 6
            have g7 := M1.out.free 7
            have g8 := M1.out.free 8
            simp [Mk.cells] at c5 c6 c7 c8
            go_wp2
            go_meet
            exact ⟨{ m0 with ba := false, tid := 0, lid := 0, tl := 0 }, ⟨Nat.succ_pos _, Nat.succ_pos _, Nat.succ_pos _⟩, (((M1.out.put 5 (.bool false)).put 6 (.int .u8 0)).put 7 (.int .u8 0)).put 8 (.int .u8 0), ((((Only.refl (fun k => k = mb) w1).set (p := ⟨mb, 5, none⟩) (fun _ => rfl) _).set (p := ⟨mb, 6, none⟩) (fun _ => rfl) _).set (p := ⟨mb, 7, none⟩) (fun _ => rfl) _).set (p := ⟨mb, 8, none⟩) (fun _ => rfl) _⟩
        case rest =>
          obtain ⟨m, hm, him, ho2⟩ := hcut
          have M2 := Lib.hid him
          have HFM := Lib.hid hm
          have O2 := Lib.hid (O1.out.trans ho2 (fun i hi e => by have := HMB.out; omega))
          clear hm him ho2 M1 O1 HF0
          go_upto_region 11 with (fail)
          generalize hg : Array.size (World.heap _) = g
          generalize hw3 : World.alloc _ _ = w3
          have hsr : ∃ bs : List Nat, bs.length = 4 ∧ (∀ x ∈ bs, x < 256) ∧ Src w3 (.slice (some ⟨g, 0, none⟩) 4 4) bs := by
            rw [← hw3, ← hg]
            refine src_bytes _ [_, _, _, _] ?_
            intro e he
            simp only [List.mem_cons, List.mem_nil_iff, or_false] at he
            rcases he with rfl | rfl | rfl | rfl <;> omega
          obtain ⟨bs, hbl, hbb, hsrc⟩ := hsr
          have O23 := Lib.hid (show Only (fun _ => False) _ w3 from by rw [← hw3]; exact (Only.refl _ _).alloc _)
          have M3 := Lib.hid (M2.out.only O23.out (by simp))
          have O3 := Lib.hid (only_more O2.out O23.out)
          have HS := Lib.hid hsrc
          have HBB := Lib.hid hbb
          have HBL := Lib.hid hbl
          clear hw3 hg hsrc hbb hbl M2 O2 O23
          obtain ⟨p, hp, hcp⟩ := prof4_at (Is.made w3 25 prof4) (n % 4) (by omega)
          unfold prof4 at hcp
          have HP := Lib.hid hp
          clear hp
          go_upto_region 12 with (fail)
          obtain ⟨eb, heb⟩ : ∃ k, w3.heap.size + 1 = k := ⟨_, rfl⟩
          obtain ⟨pb, hpb⟩ : ∃ k, w3.heap.size + 1 + 1 = k := ⟨_, rfl⟩
          generalize hw4 : World.alloc _ _ = w4
          have A4 : Only (fun _ => False) w3 w4 := by rw [← hw4]; exact (((Only.refl _ w3).alloc _).alloc _).alloc _
          have hse : ∃ es : List Nat, (∀ x ∈ es, x < 256) ∧ Src w4 (.slice (some ⟨w3.heap.size + 1, 0, none⟩) 12 12) es := by
            rw [← hw4]
            obtain ⟨es, h1, h2, h3⟩ := src_bytes (w3.alloc (.cells prof4 25)) [16, bits BinOp.andNot IntKind.i64 (n : Int) 15 % 256, 34, (n : Int), 5, (n : Int), 2, 1, bits BinOp.andNot IntKind.i64 (n : Int) 15 % 256, 0, 0, 0] (by
              intro e he
              simp only [List.mem_cons, List.mem_nil_iff, or_false] at he
              rcases he with rfl | rfl | rfl | rfl | rfl | rfl | rfl | rfl | rfl | rfl | rfl | rfl <;> omega)
            rw [World.size_alloc] at h3
            exact ⟨es, h2, Src.of_only h3 ((Only.refl _ _).alloc _)⟩
          obtain ⟨es, hes, hsre⟩ := hse
          have hip : Is w4 (w3.heap.size + 1 + 1) 33 ((Pk.some n p es).cls (.slice none 0 0) (.slice (some ⟨w3.heap.size + 1, 0, none⟩) 12 12) (.slice none 0 0)) := by
            have h := Is.made ((w3.alloc (.cells prof4 25)).alloc (.cells #[.int .u8 16, .int .u8 (bits BinOp.andNot IntKind.i64 (n : Int) 15 % 256), .int .u8 34, .int .u8 (n : Int), .int .u8 5, .int .u8 (n : Int), .int .u8 2, .int .u8 1, .int .u8 (bits BinOp.andNot IntKind.i64 (n : Int) 15 % 256), .int .u8 0, .int .u8 0, .int .u8 0] 5)) 33 ((Pk.some n p es).cls (.slice none 0 0) (.slice (some ⟨w3.heap.size + 1, 0, none⟩) 12 12) (.slice none 0 0))
            rw [World.size_alloc, World.size_alloc] at h
            rw [← hw4]
            exact h
          rw [heb] at hsre hip ⊢
          rw [show eb + 1 = pb from by omega] at hip ⊢
          have HR := Lib.hid (show Rnd m (Pk.some n p es) mb pb g (.slice (some ⟨eb, 0, none⟩) 12 12) bs wr w4 from ⟨M3.out.only A4 (by simp), hip, HS.out.of_only A4, hsre, only_more O3.out A4⟩)
          have HFP := Lib.hid (show (Pk.some n p es).Fit from ⟨Nat.succ_pos _, by show n < 65536; omega, Nat.succ_pos _, Nat.succ_pos _, by simp [Pk.some], HP.out, hes, by simp [Pk.some], Nat.succ_pos _⟩)
          have HN := Lib.hid hlt
          have HBT := Lib.hid (fun k => (fun x hx => HBB.out x (List.mem_of_mem_take hx) : ∀ x ∈ bs.take k, x < 256))
          obtain ⟨r, hr⟩ : ∃ r, n % 5 = r := ⟨_, rfl⟩
          obtain ⟨s, hs4⟩ : ∃ s, n % 4 = s := ⟨_, rfl⟩
          have e5 : (n : Int).tmod 5 = (r : Int) := by rw [Int.tmod_eq_emod_of_nonneg (by omega)]; omega
          have e4 : (n : Int).tmod 4 = (s : Int) := by rw [Int.tmod_eq_emod_of_nonneg (by omega)]; omega
          have l5 : r ≤ 4 := by omega
          have l6 : (r : Int) ≤ 4 := by omega
          have l8 : s < 256 := by omega
          have en8 : IntKind.u8.wrap (n : Int) = (n : Int) := by rw [IntKind.wrap_u8]; omega
          have es8 : IntKind.u8.wrap (s : Int) = (s : Int) := by rw [IntKind.wrap_u8]; omega
          have LN := Lib.hid (show r ≤ bs.length ∧ 1 ≤ bs.length from by have := HBL.out; omega)
          have HS8 := Lib.hid l8
          clear hr hs4 l8
          clear hw4 A4 hes hsre hip heb hpb hcp M3 O3 HS
          refine wp_region_posts [[], [0], [1, 0], [2, 1, 0], [3, 2, 1, 0], [3, 2, 1, 0], [5, 3, 2, 1, 0], [4, 6, 3, 2, 1, 0, 5], [7, 3, 4, 6, 2, 1, 0, 5], [8, 3, 7, 4, 6, 2, 1, 0, 5], [3, 9, 2, 1, 0, 8, 7, 4, 6, 5], [10, 8, 3, 9, 2, 1, 0, 7, 4, 6, 5], [11, 10, 8, 3, 9, 2, 1, 0, 7, 4, 6, 5], [12, 11, 10, 8, 3, 9, 2, 1, 0, 7, 4, 6, 5], [13, 11, 12, 10, 8, 3, 9, 2, 1, 0, 7, 4, 6, 5], [14, 11, 13, 12, 10, 8, 3, 9, 2, 1, 0, 7, 4, 6, 5], [11, 15, 10, 8, 3, 9, 2, 1, 0, 7, 4, 6, 5, 14, 13, 12], [16, 14, 11, 15, 10, 8, 3, 9, 2, 1, 0, 7, 4, 6, 5, 13, 12], [17, 16, 14, 11, 15, 10, 8, 3, 9, 2, 1, 0, 7, 4, 6, 5, 13, 12], [17, 16, 14, 11, 15, 10, 8, 3, 9, 2, 1, 0, 7, 4, 6, 5, 13, 12], [17, 16, 14, 11, 15, 10, 8, 3, 9, 2, 1, 0, 7, 4, 6, 5, 13, 12], [20, 17, 16, 14, 11, 15, 10, 8, 3, 9, 2, 1, 0, 7, 4, 6, 5, 13, 12], [19, 21, 17, 16, 14, 11, 15, 10, 8, 3, 9, 2, 1, 0, 7, 4, 6, 5, 13, 12, 20], [17, 16, 14, 11, 15, 10, 8, 3, 9, 2, 1, 0, 7, 4, 6, 5, 13, 12], [17, 16, 14, 11, 15, 10, 8, 3, 9, 2, 1, 0, 7, 4, 6, 5, 13, 12], [24, 17, 16, 14, 11, 15, 10, 8, 3, 9, 2, 1, 0, 7, 4, 6, 5, 13, 12], [18, 22, 23, 25, 17, 16, 14, 11, 15, 10, 8, 3, 9, 2, 1, 0, 7, 4, 6, 5, 13, 12, 19, 21, 20, 24], [26, 17, 18, 22, 23, 25, 16, 14, 11, 15, 10, 8, 3, 9, 2, 1, 0, 7, 4, 6, 5, 13, 12, 19, 21, 20, 24], [17, 27, 16, 14, 11, 15, 10, 8, 3, 9, 2, 1, 0, 7, 4, 6, 5, 13, 12, 26, 18, 22, 23, 25, 19, 21, 20, 24], [28, 26, 17, 27, 16, 14, 11, 15, 10, 8, 3, 9, 2, 1, 0, 7, 4, 6, 5, 13, 12, 18, 22, 23, 25, 19, 21, 20, 24], [29, 28, 26, 17, 27, 16, 14, 11, 15, 10, 8, 3, 9, 2, 1, 0, 7, 4, 6, 5, 13, 12, 18, 22, 23, 25, 19, 21, 20, 24], [29, 28, 26, 17, 27, 16, 14, 11, 15, 10, 8, 3, 9, 2, 1, 0, 7, 4, 6, 5, 13, 12, 18, 22, 23, 25, 19, 21, 20, 24], [31, 29, 28, 26, 17, 27, 16, 14, 11, 15, 10, 8, 3, 9, 2, 1, 0, 7, 4, 6, 5, 13, 12, 18, 22, 23, 25, 19, 21, 20, 24], [32, 29, 31, 28, 26, 17, 27, 16, 14, 11, 15, 10, 8, 3, 9, 2, 1, 0, 7, 4, 6, 5, 13, 12, 18, 22, 23, 25, 19, 21, 20, 24], [29, 28, 26, 17, 27, 16, 14, 11, 15, 10, 8, 3, 9, 2, 1, 0, 7, 4, 6, 5, 13, 12, 18, 22, 23, 25, 19, 21, 20, 24], [30, 33, 34, 29, 28, 26, 17, 27, 16, 14, 11, 15, 10, 8, 3, 9, 2, 1, 0, 7, 4, 6, 5, 13, 12, 18, 22, 23, 25, 19, 21, 20, 24, 32, 31], [35, 29, 30, 33, 34, 28, 26, 17, 27, 16, 14, 11, 15, 10, 8, 3, 9, 2, 1, 0, 7, 4, 6, 5, 13, 12, 18, 22, 23, 25, 19, 21, 20, 24, 32, 31], [29, 36, 28, 26, 17, 27, 16, 14, 11, 15, 10, 8, 3, 9, 2, 1, 0, 7, 4, 6, 5, 13, 12, 18, 22, 23, 25, 19, 21, 20, 24, 35, 30, 33, 34, 32, 31], [37, 35, 29, 36, 28, 26, 17, 27, 16, 14, 11, 15, 10, 8, 3, 9, 2, 1, 0, 7, 4, 6, 5, 13, 12, 18, 22, 23, 25, 19, 21, 20, 24, 30, 33, 34, 32, 31], [38, 37, 35, 29, 36, 28, 26, 17, 27, 16, 14, 11, 15, 10, 8, 3, 9, 2, 1, 0, 7, 4, 6, 5, 13, 12, 18, 22, 23, 25, 19, 21, 20, 24, 30, 33, 34, 32, 31], [38, 37, 35, 29, 36, 28, 26, 17, 27, 16, 14, 11, 15, 10, 8, 3, 9, 2, 1, 0, 7, 4, 6, 5, 13, 12, 18, 22, 23, 25, 19, 21, 20, 24, 30, 33, 34, 32, 31], [39, 40, 38, 37, 35, 29, 36, 28, 26, 17, 27, 16, 14, 11, 15, 10, 8, 3, 9, 2, 1, 0, 7, 4, 6, 5, 13, 12, 18, 22, 23, 25, 19, 21, 20, 24, 30, 33, 34, 32, 31], [41, 38, 39, 40, 37, 35, 29, 36, 28, 26, 17, 27, 16, 14, 11, 15, 10, 8, 3, 9, 2, 1, 0, 7, 4, 6, 5, 13, 12, 18, 22, 23, 25, 19, 21, 20, 24, 30, 33, 34, 32, 31], [38, 42, 37, 35, 29, 36, 28, 26, 17, 27, 16, 14, 11, 15, 10, 8, 3, 9, 2, 1, 0, 7, 4, 6, 5, 13, 12, 18, 22, 23, 25, 19, 21, 20, 24, 30, 33, 34, 32, 31, 41, 39, 40]] [1, 8, 14, 26, 35, 41] [] [[], [], [], [], [], [], [], [], [], [], [], [], [], [], [], [], [], [], [], [], [], [], [], [], [], [], [], [], [], [], [], [], [], [], [], [], [], [], [], [], [], [], [], []] [[], [], [], [], [], [], [], [], [], [], [], [], [], [], [], [], [], [], [], [], [], [], [], [], [], [], [], [], [], [], [], [], [], [], [], [], [], [], [], [], [], [], [], []] [] [] [] []
              [some (.agg m.cells), some (.bool true), some ?v2, some ?v3, some ?v4, some ?v5, some ?v6, some ?v7, some (.bool true), some ?v9, some ?v10, some ?v11, some ?v12, some ?v13, some (.bool true), some ?v15, some ?v16, some ?v17, some (.agg m.cells), some ?v19, some ?v20, some ?v21, some ?v22, some (.agg ((Pk.some n p es).cls (.slice none 0 0) (.slice (some ⟨eb, 0, none⟩) 12 12) (.slice none 0 0))), some ?v24, some ?v25, some (.bool true), some ?v27, some ?v28, some ?v29, some (.agg ((Pk.some n p es).cls (.slice none 0 0) (.slice (some ⟨eb, 0, none⟩) 12 12) (.slice none 0 0))), some ?v31, some ?v32, some ?v33, some (.agg m.cells), some (.bool true), some ?v36, some ?v37, some ?v38, some ?v39, some (.agg m.cells), some (.bool true), some ?v42, some ?v43]
              ?T (fun wx => Rnd m (Pk.some n p es) mb pb g (.slice (some ⟨eb, 0, none⟩) 12 12) bs wr wx) ?W ?E (by kernel_rfl) (by kernel_rfl) (by kernel_rfl) (fun x => ?hT) ?hF ?hini (Reg.all_ops ?runs) ?pres ?fin
          case W => exact fun j x w' => True
          case E => exact fun _ w' w'' => True
          case hT =>
            simp only [Reg.fillV, Act.put, List.setIfInBounds_toArray, List.set_cons_zero, List.set_cons_succ]
            rfl
          case runs =>
            refine And.intro ?_ ?_
            · refine Reg.ob_pure (fun _ => rfl) rfl rfl rfl rfl (fun x w1 hF => ?_)
              exact run_load_at 69 _ (by rfl) mb (by rfl) 69 _ _ hF.im Try.underlying69 rfl Try.sizeMk
            refine And.intro ?_ ?_
            · refine Reg.ob_known (fun _ => rfl) rfl rfl (fun x w1 hF hU K hK => ?_)
              replace hF := hF rfl
              go_simp
              refine (mputs_any m w1).mono ?_
              rintro e w5 ⟨rfl, ho⟩
              exact hK w5 (fun _ _ _ => hF.go ho) trivial
            refine And.intro ?_ ?_
            · refine Reg.ob_pure (fun _ => rfl) rfl rfl rfl rfl (fun x w1 hF => ?_)
              go_simp
              with_reducible rfl
            refine And.intro ?_ ?_
            · refine Reg.ob_pure (fun _ => rfl) rfl rfl rfl rfl (fun x w1 hF => ?_)
              go_simp
              with_reducible rfl
            refine And.intro ?_ ?_
            · refine Reg.ob_pure (fun _ => rfl) rfl rfl rfl rfl (fun x w1 hF => ?_)
              go_simp
              with_reducible rfl
            refine And.intro ?_ ?_
            · refine Reg.ob_pure (fun _ => rfl) rfl rfl rfl rfl (fun x w1 hF => ?_)
              go_simp
              with_reducible rfl
            refine And.intro ?_ ?_
            · refine Reg.ob_pure (fun _ => rfl) rfl rfl rfl rfl (fun x w1 hF => ?_)
              go_simp
              with_reducible rfl
            refine And.intro ?_ ?_
            · refine Reg.ob_pure (fun _ => rfl) rfl rfl rfl rfl (fun x w1 hF => ?_)
              go_simp
              with_reducible rfl
            refine And.intro ?_ ?_
            · refine Reg.ob_known (fun _ => rfl) rfl rfl (fun x w1 hF hU K hK => ?_)
              replace hF := hF rfl
              go_simp
              refine (mreads_any _ (bs.take r) w1 (src_take hF.sb r LN.out.1) (HBT.out _)).mono ?_
              rintro e w5 ⟨rfl, ho⟩
              exact hK w5 (fun _ _ _ => hF.go ho) trivial
            refine And.intro ?_ ?_
            · refine Reg.ob_pure (fun _ => rfl) rfl rfl rfl rfl (fun x w1 hF => ?_)
              go_simp
              with_reducible rfl
            refine And.intro ?_ ?_
            · refine Reg.ob_pure (fun _ => rfl) rfl rfl rfl rfl (fun x w1 hF => ?_)
              go_simp
              with_reducible rfl
            refine And.intro ?_ ?_
            · refine Reg.ob_pure (fun _ => rfl) rfl rfl rfl rfl (fun x w1 hF => ?_)
              go_simp
              with_reducible rfl
            refine And.intro ?_ ?_
            · refine Reg.ob_pure (fun _ => rfl) rfl rfl rfl rfl (fun x w1 hF => ?_)
              go_simp
              with_reducible rfl
            refine And.intro ?_ ?_
            · refine Reg.ob_pure (fun _ => rfl) rfl rfl rfl rfl (fun x w1 hF => ?_)
              go_simp
              with_reducible rfl
            refine And.intro ?_ ?_
            · refine Reg.ob_known (fun _ => rfl) rfl rfl (fun x w1 hF hU K hK => ?_)
              replace hF := hF rfl
              go_simp
              refine (mreads_any _ (bs.take 1) w1 (src_take hF.sb 1 LN.out.2) (HBT.out _)).mono ?_
              rintro e w5 ⟨rfl, ho⟩
              exact hK w5 (fun _ _ _ => hF.go ho) trivial
            refine And.intro ?_ ?_
            · refine Reg.ob_pure (fun _ => rfl) rfl rfl rfl rfl (fun x w1 hF => ?_)
              go_simp
              with_reducible rfl
            refine And.intro ?_ ?_
            · refine Reg.ob_pure (fun _ => rfl) rfl rfl rfl rfl (fun x w1 hF => ?_)
              go_simp
              with_reducible rfl
            refine And.intro ?_ ?_
            · refine Reg.ob_pure (fun _ => rfl) rfl rfl rfl rfl (fun x w1 hF => ?_)
              go_simp
              with_reducible rfl
            refine And.intro ?_ ?_
            · refine Reg.ob_pure (fun _ => rfl) rfl rfl rfl rfl (fun x w1 hF => ?_)
              exact run_load_at 69 _ (by rfl) mb (by rfl) 69 _ _ hF.im Try.underlying69 rfl Try.sizeMk
            refine And.intro ?_ ?_
            · refine Reg.ob_pure (fun _ => rfl) rfl rfl rfl rfl (fun x w1 hF => ?_)
              go_simp
              with_reducible rfl
            refine And.intro ?_ ?_
            · refine Reg.ob_pure (fun _ => rfl) rfl rfl rfl rfl (fun x w1 hF => ?_)
              go_simp
              with_reducible rfl
            refine And.intro ?_ ?_
            · refine Reg.ob_pure (fun _ => rfl) rfl rfl rfl rfl (fun x w1 hF => ?_)
              go_simp
              with_reducible rfl
            refine And.intro ?_ ?_
            · refine Reg.ob_pure (fun _ => rfl) rfl rfl rfl rfl (fun x w1 hF => ?_)
              go_simp
              with_reducible rfl
            refine And.intro ?_ ?_
            · refine Reg.ob_pure (fun _ => rfl) rfl rfl rfl rfl (fun x w1 hF => ?_)
              exact run_load_at 33 _ (by rfl) pb (by rfl) 33 _ _ hF.ip Try.underlying33 rfl Try.sizePq
            refine And.intro ?_ ?_
            · refine Reg.ob_pure (fun _ => rfl) rfl rfl rfl rfl (fun x w1 hF => ?_)
              go_simp
              with_reducible rfl
            refine And.intro ?_ ?_
            · refine Reg.ob_pure (fun _ => rfl) rfl rfl rfl rfl (fun x w1 hF => ?_)
              go_simp
              with_reducible rfl
            refine And.intro ?_ ?_
            · refine Reg.ob_known (fun _ => rfl) rfl rfl (fun x w1 hF hU K hK => ?_)
              replace hF := hF rfl
              go_simp
              refine (mback_any m _ (bs.take r) (Pk.some n p es) _ _ _ n w1 HFM.out (src_take hF.sb r LN.out.1) (HBT.out _) HFP.out HN.out (rd_none w1) (.inl rfl) hF.se (src_none0 w1)).mono ?_
              rintro e w5 ⟨rfl, ho⟩
              exact hK w5 (fun _ _ _ => hF.go ho) trivial
            refine And.intro ?_ ?_
            · refine Reg.ob_pure (fun _ => rfl) rfl rfl rfl rfl (fun x w1 hF => ?_)
              go_simp
              with_reducible rfl
            refine And.intro ?_ ?_
            · refine Reg.ob_pure (fun _ => rfl) rfl rfl rfl rfl (fun x w1 hF => ?_)
              go_simp
              with_reducible rfl
            refine And.intro ?_ ?_
            · refine Reg.ob_pure (fun _ => rfl) rfl rfl rfl rfl (fun x w1 hF => ?_)
              go_simp
              with_reducible rfl
            refine And.intro ?_ ?_
            · refine Reg.ob_pure (fun _ => rfl) rfl rfl rfl rfl (fun x w1 hF => ?_)
              exact run_load_at 33 _ (by rfl) pb (by rfl) 33 _ _ hF.ip Try.underlying33 rfl Try.sizePq
            refine And.intro ?_ ?_
            · refine Reg.ob_pure (fun _ => rfl) rfl rfl rfl rfl (fun x w1 hF => ?_)
              go_simp
              with_reducible rfl
            refine And.intro ?_ ?_
            · refine Reg.ob_pure (fun _ => rfl) rfl rfl rfl rfl (fun x w1 hF => ?_)
              go_simp
              with_reducible rfl
            refine And.intro ?_ ?_
            · refine Reg.ob_pure (fun _ => rfl) rfl rfl rfl rfl (fun x w1 hF => ?_)
              go_simp
              with_reducible rfl
            refine And.intro ?_ ?_
            · refine Reg.ob_pure (fun _ => rfl) rfl rfl rfl rfl (fun x w1 hF => ?_)
              exact run_load_at 69 _ (by rfl) mb (by rfl) 69 _ _ hF.im Try.underlying69 rfl Try.sizeMk
            refine And.intro ?_ ?_
            · refine Reg.ob_known (fun _ => rfl) rfl rfl (fun x w1 hF hU K hK => ?_)
              replace hF := hF rfl
              go_simp
              refine (mfinds_any (Pk.some n p es) _ _ _ s m w1 HFM.out HFP.out HS8.out (.inl rfl) ⟨rd_none w1, hF.se, src_none0 w1, ⟨_, _, _, rfl⟩⟩).mono ?_
              rintro e w5 ⟨rfl, ho⟩
              exact hK w5 (fun _ _ _ => hF.go ho) trivial
            refine And.intro ?_ ?_
            · refine Reg.ob_pure (fun _ => rfl) rfl rfl rfl rfl (fun x w1 hF => ?_)
              go_simp
              with_reducible rfl
            refine And.intro ?_ ?_
            · refine Reg.ob_pure (fun _ => rfl) rfl rfl rfl rfl (fun x w1 hF => ?_)
              go_simp
              with_reducible rfl
            refine And.intro ?_ ?_
            · refine Reg.ob_pure (fun _ => rfl) rfl rfl rfl rfl (fun x w1 hF => ?_)
              go_simp
              with_reducible rfl
            refine And.intro ?_ ?_
            · refine Reg.ob_pure (fun _ => rfl) rfl rfl rfl rfl (fun x w1 hF => ?_)
              go_simp
              with_reducible rfl
            refine And.intro ?_ ?_
            · refine Reg.ob_pure (fun _ => rfl) rfl rfl rfl rfl (fun x w1 hF => ?_)
              exact run_load_at 69 _ (by rfl) mb (by rfl) 69 _ _ hF.im Try.underlying69 rfl Try.sizeMk
            refine And.intro ?_ ?_
            · refine Reg.ob_known (fun _ => rfl) rfl rfl (fun x w1 hF hU K hK => ?_)
              replace hF := hF rfl
              go_simp
              refine (finds_bare 48862 1 m w1 (by decide) HFM.out (by decide)).mono ?_
              rintro e w5 ⟨rfl, ho⟩
              exact hK w5 (fun _ _ _ => hF.go ho) trivial
            refine And.intro ?_ ?_
            · refine Reg.ob_pure (fun _ => rfl) rfl rfl rfl rfl (fun x w1 hF => ?_)
              go_simp
              with_reducible rfl
            refine And.intro ?_ ?_
            · refine Reg.ob_pure (fun _ => rfl) rfl rfl rfl rfl (fun x w1 hF => ?_)
              go_simp
              with_reducible rfl
            exact trivial
          case hF =>
            exact HR.out.go (only_drewN _ 1)
          case hini =>
            exact trivial
          case pres =>
            intro i hi j hj hc x w1 w2 hF hE hW
            trivial
          case fin =>
            rintro x w9 hF -
            have PU := Lib.hid (hF rfl).pure
            clear hF
            go_wp2
            exact ⟨⟨n + 1, by omega, by go_num, only_more HPW.out PU.out⟩, by simp [intOf]; omega⟩
    · obtain rfl : n = 256 := by omega
      go_wp2_with fail
      refine (mworks_any _).mono ?_
      rintro e w9 ⟨rfl, ho9⟩
      have O9 := Lib.hid ho9
      clear ho9
      go_wp2
      go_ret
      exact ⟨rfl, only_more HPW.out O9.out⟩
theorem mknown_args {W : World} : Calls Try.prog 12 #[] W fun e w' => e = .returned (.bool true) ∧ Below W.heap.size W w' := by
  refine (mknown_any W).mono ?_
  rintro e w' ⟨rfl, ho⟩
  exact ⟨rfl, Only.below ho (fun i hi => hi.elim) (Nat.le_refl _)⟩
end Go.Proofs.Ytcgfmjdlningpaa
