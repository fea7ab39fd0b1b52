/- The chapter's examples, as the statements' own function works has them: it answers true, and writes nothing that was there. Conditions: none. -/
import Derived.Test.YtcgfmjdlningpaaRtpN
import Derived.Test.YtcgfmjdlningpaaRtpD
import Derived.Test.YtcgfmjdlningpaaFew
import Derived.Test.YtcgfmjdlningpaaConvA
set_option linter.unusedVariables false
namespace Go.Proofs.Ytcgfmjdlningpaa
open Go.RowKit

theorem rd_lit (w : World) (zs : List Int) : Rd .u32 (w.alloc (.cells (zs.map (Value.int .u32)).toArray 26)) (.slice (some ⟨w.heap.size, 0, none⟩) zs.length zs.length) zs := by
  refine ⟨_, zs.length, rfl, Nat.le_refl _, fun h => ⟨_, _, rfl, fun j hj => ?_⟩⟩
  have := (Is.made w 26 (zs.map (Value.int .u32)).toArray).cell j
  rw [Nat.zero_add, this]
  simp [hj]
def pk1 : Pk := ⟨true, 96, 258, 1, 2, [], false, 0, [], [9], 0⟩
def pk2 : Pk := ⟨false, 96, 258, 1, 2, [3], false, 0, [], [9], 2⟩
theorem pk1_fit : pk1.Fit := ⟨by decide, by decide, by decide, by decide, by decide, by decide, by decide, by decide, by decide⟩
theorem pk2_fit : pk2.Fit := ⟨by decide, by decide, by decide, by decide, by decide, by decide, by decide, by decide, by decide⟩
theorem pk1_str : strOfNums (nats pk1.enc) = { data := #[128, 224, 1, 2, 0, 0, 0, 1, 0, 0, 0, 2, 9] } := by rfl
theorem pk2_str : strOfNums (nats pk2.enc) = { data := #[161, 96, 1, 2, 0, 0, 0, 1, 0, 0, 0, 2, 0, 0, 0, 3, 9, 0, 2] } := by rfl
theorem pk1_len : pk1.enc.length = 13 := by rfl
theorem pk2_len : pk2.enc.length = 19 := by rfl

set_option maxRecDepth 100000 in
set_option maxHeartbeats 400000 in
theorem works_one (w : World) : Calls Try.prog 52 #[.agg #[.bool true, .int .u8 96, .int .u16 258, .int .u32 1, .int .u32 2, .slice none 0 0, .bool false, .int .u16 0, .slice none 0 0, .slice (some ⟨w.heap.size, 0, none⟩) 1 1, .int .u8 0]] (w.alloc (.cells #[.int .u8 9] 5)) fun e w' =>
    ∃ A c, e = .returned (.tuple #[.slice A 13 c, .int .i64 0]) ∧ Src w' (.slice A 13 c) pk1.enc ∧ Pure w w' := by
  refine (put_right pk1 (.slice none 0 0) (.slice none 0 0) (.slice (some ⟨w.heap.size, 0, none⟩) 1 1) _ pk1_fit rfl (Rd.nil _ _) (.inl ⟨rfl, rfl⟩) (src_lit w [9]) (by decide)).mono ?_
  rintro e w' ⟨v, rfl, hv, ho⟩
  have hs := Src.of_own hv
  obtain ⟨A, c, rfl⟩ := hs.slice
  exact ⟨A, c, rfl, hs, Pure.trans' ((Only.refl _ w).alloc _) ho⟩
set_option maxRecDepth 100000 in
set_option maxHeartbeats 400000 in
theorem works_two (w : World) : Calls Try.prog 52 #[.agg #[.bool false, .int .u8 96, .int .u16 258, .int .u32 1, .int .u32 2, .slice (some ⟨w.heap.size, 0, none⟩) 1 1, .bool false, .int .u16 0, .slice none 0 0, .slice (some ⟨w.heap.size + 1, 0, none⟩) 1 1, .int .u8 2]] ((w.alloc (.cells #[.int .u32 3] 26)).alloc (.cells #[.int .u8 9] 5)) fun e w' =>
    ∃ A c, e = .returned (.tuple #[.slice A 19 c, .int .i64 0]) ∧ Src w' (.slice A 19 c) pk2.enc ∧ Pure w w' := by
  have h2 := src_lit (w.alloc (.cells #[.int .u32 3] 26)) [9]
  simp only [World.size_alloc] at h2
  refine (put_right pk2 (.slice (some ⟨w.heap.size, 0, none⟩) 1 1) (.slice none 0 0) (.slice (some ⟨w.heap.size + 1, 0, none⟩) 1 1) _ pk2_fit rfl ((rd_lit w [3]).pure ((Only.refl _ _).alloc _)) (.inl ⟨rfl, rfl⟩) h2 (by decide)).mono ?_
  rintro e w' ⟨v, rfl, hv, ho⟩
  have hs := Src.of_own hv
  obtain ⟨A, c, rfl⟩ := hs.slice
  exact ⟨A, c, rfl, hs, Pure.trans' (((Only.refl _ w).alloc _).alloc _) ho⟩

theorem rtcp_lit (w : World) (bs : List Nat) (r : Bool) (hr : isRtcp bs = r) (hb : ∀ x ∈ bs, x < 256) : Calls Try.prog 19 #[.slice (some ⟨w.heap.size, 0, none⟩) bs.length bs.length] (w.alloc (.cells (cellsOf bs).toArray 5)) fun e w' => e = .returned (.bool r) ∧ Pure w w' := by
  refine (rtcp_is _ bs _ (src_lit w bs) hb).mono ?_
  rintro e w' ⟨rfl, rfl⟩
  exact ⟨by rw [hr], (Only.refl _ w).alloc _⟩
theorem stored_made {w w1 : World} {o : Obj} (h : Only (fun k => k = w.heap.size) (w.alloc o) w1) : Pure w w1 :=
  ((Only.refl _ w).alloc o).trans h (fun i hi e => by omega)
set_option maxRecDepth 100000 in
set_option maxHeartbeats 2000000 in
theorem works_any (w : World) : Calls Try.prog 13 #[] w fun e w' => e = .returned (.bool true) ∧ Pure w w' := by
  go_enter Try.func13, Try.ntmps13
  go_wp2_with fail
  refine (works_one _).mono ?_
  rintro e w1 ⟨A1, c1, rfl, hs1, ho1⟩
  have S1 := Lib.hid hs1
  have O1 := Lib.hid ho1
  clear hs1 ho1
  go_wp2_with fail
  refine (works_two _).mono ?_
  rintro e w2 ⟨A2, c2, rfl, hs2, ho2⟩
  have S2 := Lib.hid hs2
  have O2 := Lib.hid ho2
  clear hs2 ho2
  obtain ⟨i0, hi, hz0, hz1, hz2⟩ := info_parts Try.infoU8
  go_wp2_with (at_make; refine wpList_make_full _ rfl _ _ 22 rfl w2.heap.size 5 i0 (.int .u8 0) 1 Try.underlying22 hi hz0 hz1 .i64 .i64 _ _ 11 rfl rfl rfl rfl (by rw [hz2]; omega) (by unfold maxLen; omega) (Nat.le_refl _) ?_)
  intro w3 hown3 hg3
  rw [madeU8] at hown3
  have O3 := Lib.hid (show Pure w2 w3 from Only.grown (Only.refl (fun _ => False) w2) hg3 (by simp))
  clear hown3 hg3
  go_wp2_with fail
  refine (parse_short _ 11 _ _ (by decide)).mono ?_
  rintro e w4 ⟨rfl, ho4⟩
  have O4 := Lib.hid ho4
  clear ho4
  rw [zero_val]
  go_wp2_with (first | (refine wpList_store_is rfl 33 _ _ rfl w4.heap.size zeros rfl rfl 33 _ (Is.made w4 _ zeros) Try.sizePk rfl zeros_one ?_; intro w5 hi5 hp5; have O5 := Lib.hid (stored_made hp5); clear hi5 hp5) | (at_make; refine wpList_make_full _ rfl _ _ 22 rfl w5.heap.size 5 i0 (.int .u8 0) 1 Try.underlying22 hi hz0 hz1 .i64 .i64 _ _ 12 rfl rfl rfl rfl (by rw [hz2]; omega) (by unfold maxLen; omega) (Nat.le_refl _) ?_))
  intro w6 hown6 hg6
  rw [madeU8] at hown6
  have S6 := Lib.hid (Src.of_own (bs := List.replicate 12 0) hown6)
  have O6 := Lib.hid (show Pure w5 w6 from Only.grown (Only.refl (fun _ => False) w5) hg6 (by simp))
  clear hown6 hg6
  go_wp2_with fail
  refine (parse_any _ (List.replicate 12 0) _ S6.out (by decide) (by decide)).mono ?_
  rintro e w7 ⟨ho7, ⟨_, rfl⟩ | ⟨h, _⟩⟩
  case inr => exact absurd h (by decide)
  have O7 := Lib.hid ho7
  clear ho7
  rw [zero_val, show parseErr (List.replicate 12 0) = 20 from rfl]
  go_wp2_with (refine wpList_store_is rfl 33 _ _ rfl w7.heap.size zeros rfl rfl 33 _ (Is.made w7 _ zeros) Try.sizePk rfl zeros_one ?_; intro w8 hi8 hp8; have O8 := Lib.hid (stored_made hp8); clear hi8 hp8)
  refine (parse_any _ [160, 0, 0, 0, 0, 0, 0, 0, 0, 0, 0, 0] _ (src_lit w8 [160, 0, 0, 0, 0, 0, 0, 0, 0, 0, 0, 0]) (by decide) (by decide)).mono ?_
  rintro e w9 ⟨ho9, ⟨_, rfl⟩ | ⟨h, _⟩⟩
  case inr => exact absurd h (by decide)
  have O9 := Lib.hid ho9
  clear ho9
  rw [zero_val, show parseErr [160, 0, 0, 0, 0, 0, 0, 0, 0, 0, 0, 0] = 21 from rfl]
  go_upto_region 6 with (refine wpList_store_is rfl 33 _ _ rfl w9.heap.size zeros rfl rfl 33 _ (Is.made w9 _ zeros) Try.sizePk rfl zeros_one ?_; intro wa hia hpa; have Oa := Lib.hid (stored_made hpa); clear hia hpa)
  have o1a : Pure w1 wa := O2.out.trans' (O3.out.trans' (O4.out.trans' (Pure.trans' O5.out (O6.out.trans' (O7.out.trans' (Pure.trans' O8.out (Pure.trans' (Pure.trans' ((Only.refl _ _).alloc _) O9.out) Oa.out)))))))
  have o2a : Pure w2 wa := O3.out.trans' (O4.out.trans' (Pure.trans' O5.out (O6.out.trans' (O7.out.trans' (Pure.trans' O8.out (Pure.trans' (Pure.trans' ((Only.refl _ _).alloc _) O9.out) Oa.out))))))
  have q1 := conv_src (S1.out.pure o1a) pk1_len
  have q2 := conv_src (S2.out.pure o2a) pk2_len
  have hs1 : ((strOfNums (nats pk1.enc)).toList == [128, 224, 1, 2, 0, 0, 0, 1, 0, 0, 0, 2, 9]) = true := by rw [pk1_str, ByteArray.toList_eq]; rfl
  have hs2 : ((strOfNums (nats pk2.enc)).toList == [161, 96, 1, 2, 0, 0, 0, 1, 0, 0, 0, 2, 0, 0, 0, 3, 9, 0, 2]) = true := by rw [pk2_str, ByteArray.toList_eq]; rfl
  generalize strOfNums (nats pk1.enc) = s1 at q1 hs1
  generalize strOfNums (nats pk2.enc) = s2 at q2 hs2
  have OW := Lib.hid (O1.out.trans' o1a)
  clear o1a o2a
  go_wp2_with fail
  refine (rtcp_lit wa [0, 200] true rfl (by decide)).mono ?_
  rintro e wb ⟨rfl, ob⟩
  have Ob := Lib.hid ob
  clear ob q1 q2 hs1 hs2
  go_wp2_with fail
  refine (rtcp_lit wb [0, 96] false rfl (by decide)).mono ?_
  rintro e wc ⟨rfl, oc⟩
  have Oc := Lib.hid oc
  clear oc
  go_wp2_with fail
  refine (rtcp_lit wc [200] false rfl (by decide)).mono ?_
  rintro e wd ⟨rfl, od⟩
  have Od := Lib.hid od
  clear od
  go_wp2
  go_ret
  exact ⟨rfl, OW.out.trans' (Pure.trans' Ob.out (Pure.trans' Oc.out Od.out))⟩
end Go.Proofs.Ytcgfmjdlningpaa
