/- feedback.Right. Conditions: as it says. -/
import Derived.Test.YtefcimkopgcagaaFbZ
import Derived.Test.YtefcimkopgcagaaFbM
set_option linter.unusedVariables false
namespace Go.Proofs.Ytefcimkopgcagaa
open Go.RowKit

set_option maxRecDepth 100000 in
set_option maxHeartbeats 1000000 in
theorem holds_is (a b n : Int) (w : World) : Calls Try.prog 49 #[.agg #[.int .i64 a, .int .i64 b], .int .i64 n] w fun e w' => e = .returned (.bool (decide (a ≤ n) && decide (n ≤ b))) ∧ Only (fun _ => False) w w' := by
  by_cases h1 : a ≤ n
  · by_cases h2 : n ≤ b
    · rw [decide_eq_true h1, decide_eq_true h2]
      exact holds_yes a b n w h1 h2
    · rw [decide_eq_true h1, decide_eq_false h2]
      go_enter Try.func49, Try.ntmps49
      go_wp2
      go_ret
      exact ⟨rfl, (Only.refl _ w).alloc _⟩
  · rw [decide_eq_false h1]
    go_enter Try.func49, Try.ntmps49
    go_wp2
    go_ret
    exact ⟨rfl, (Only.refl _ w).alloc _⟩
set_option maxRecDepth 100000 in
set_option maxHeartbeats 4000000 in
theorem fright_1 (m : Ms) (p1 o1 s1 : Value) (w : World) (h1 : RdM m p1 o1 s1 w) (hs : m.sort = 1) (hl : m.pairs.length ≤ 1000000 ∧ m.orders.length ≤ 1000000 ∧ m.srcs.length ≤ 1000000) (hm : m.mant < 4294967296) (he : m.exp < 256) :
    Calls Try.prog 15 #[.agg (m.cls p1 o1 s1)] w fun e w' => e = .returned (.bool (rightMs m)) ∧ Only (fun _ => False) w w' := by
  obtain ⟨P1, d1, rfl, -, -⟩ := h1.p
  obtain ⟨O1, e1, rfl, -, -⟩ := h1.o
  obtain ⟨S1, f1, rfl, -, -⟩ := h1.s
  rw [nats_length]
  have HSO := Lib.hid (fun w => sortof_is 1 w (by omega) (by omega))
  have HC := Lib.hid (fun b wx => @cls_cells m (.slice P1 m.pairs.length d1) (.slice O1 m.orders.length e1) (.slice S1 m.srcs.length f1) wx b 27)
  obtain ⟨r, hr⟩ : ∃ r, rightMs m = r := ⟨_, rfl⟩
  rw [hr]
  unfold rightMs at hr
  rw [hs] at HC hr
  obtain ⟨A, hA⟩ : ∃ a, m.cls (.slice P1 m.pairs.length d1) (.slice O1 m.orders.length e1) (.slice S1 m.srcs.length f1) = a := ⟨_, rfl⟩
  rw [hA] at HC ⊢
  clear hA h1 hs
  generalize m.pairs.length = P at *
  generalize m.orders.length = O at *
  generalize m.srcs.length = S at *
  generalize m.exp = e at *
  generalize m.mant = t at *
  obtain ⟨hP, hO, hS⟩ := hl
  have HT := Lib.hid (fun (h : okMs 1 P O S e t) => (show true = r from by rw [← hr]; exact (decide_eq_true h).symm))
  have HF := Lib.hid (fun (h : ¬ okMs 1 P O S e t) => (show false = r from by rw [← hr]; exact (decide_eq_false h).symm))
  clear hr
  have wt : IntKind.i64.wrap (t : Int) = (t : Int) := by rw [IntKind.wrap_i64]; omega
  have we : IntKind.i64.wrap (e : Int) = (e : Int) := by rw [IntKind.wrap_i64]; omega
  go_enter Try.func15, Try.ntmps15
  go_upto_region 1 with (fail)
  generalize hw0 : World.alloc _ _ = w0
  have I0 := Lib.hid (show Is w0 w.heap.size 27 A from by rw [← hw0]; exact Is.made _ _ _)
  have T0 := Lib.hid (show Only (fun _ => False) w w0 from by rw [← hw0]; exact (Only.refl _ w).alloc _)
  obtain ⟨mb, hmb⟩ : ∃ k, w.heap.size = k := ⟨_, rfl⟩
  rw [hmb] at I0 ⊢
  clear hw0 hmb
  obtain ⟨m0, -, -, -, -, -, -, -⟩ := HC.out mb w0 I0.out
  go_upto_region 2 with (first
    | (go_at_call 43; refine (HSO.out _).mono ?_; rintro e w1 ⟨rfl, ho1⟩; have O1' := Lib.hid ho1; clear ho1)
    | (refine wpList_store_is rfl 93 _ _ rfl w1.heap.size (srtV 1) rfl rfl 93 (srtV 0) (Is.made w1 _ (srtV 0)) (srt_size 1 (by omega) (by omega)) (srt_hold 1 (by omega) (by omega)) (srt_one 1 (by omega) (by omega)) ?_; intro w2 hi2 ho2; have O2' := Lib.hid (fb_made ho2); have S2 := Lib.hid hi2; clear hi2 ho2))
  clear m0
  have I2 := Lib.hid (I0.out.only (only_more O1'.out O2'.out) (by simp))
  have P2 := Lib.hid (only_more T0.out (only_more O1'.out O2'.out))
  generalize w1.heap.size = sb at *
  have HE := Lib.hid (fun wx (ho : Only (fun _ => False) w2 wx) => HC.out mb wx (I2.out.only ho (by simp)))
  have HG := Lib.hid (fun wx (ho : Only (fun _ => False) w2 wx) => (show wx.cell? ⟨sb, 3, none⟩ = some (.int .i64 1) ∧ wx.cell? ⟨sb, 4, none⟩ = some (.int .i64 65533) ∧ wx.cell? ⟨sb, 5, none⟩ = some (.int .i64 0) ∧ wx.cell? ⟨sb, 6, none⟩ = some (.int .i64 0) ∧ wx.cell? ⟨sb, 7, none⟩ = some (.int .i64 0) ∧ wx.cell? ⟨sb, 8, none⟩ = some (.int .i64 0) ∧ wx.cell? ⟨sb, 9, none⟩ = some (.int .i64 0) ∧ wx.cell? ⟨sb, 10, none⟩ = some (.int .i64 0) ∧ wx.cell? ⟨sb, 11, none⟩ = some (.int .i64 0) ∧ wx.cell? ⟨sb, 12, none⟩ = some (.int .i64 0) from
    have h := S2.out.only ho (by simp)
    ⟨h.cell 3, h.cell 4, h.cell 5, h.cell 6, h.cell 7, h.cell 8, h.cell 9, h.cell 10, h.cell 11, h.cell 12⟩))
  have OA := Lib.hid (Only.refl (fun _ => False) w2)
  clear I0 T0 O1' O2' S2 I2 HC HSO
  obtain ⟨-, -, -, m3, m4, m5, m6, m7⟩ := HE.out _ OA.out
  obtain ⟨c3, c4, c5, c6, c7, c8, c9, c10, c11, c12⟩ := HG.out _ OA.out
  generalize ht : (t : Int) = T at *
  go_wp2_with (go_at_call 49; refine (holds_is _ _ _ _).mono ?_; rintro e w9 ⟨rfl, ho9⟩; have OA := Lib.hid (only_more OA.out ho9); clear m3 m4 m5 m6 m7 c3 c4 c5 c6 c7 c8 c9 c10 c11 c12 ho9; obtain ⟨-, -, -, m3, m4, m5, m6, m7⟩ := HE.out _ OA.out; obtain ⟨c3, c4, c5, c6, c7, c8, c9, c10, c11, c12⟩ := HG.out _ OA.out)
  all_goals first
    | (go_ret; rw [← HF.out (by unfold okMs; omega)]; exact ⟨rfl, only_more P2.out OA.out⟩)
    | (go_ret
       refine ⟨?_, only_more P2.out OA.out⟩
       show Ending.returned (Value.bool (decide (0 ≤ T) && decide (T ≤ 0))) = _
       by_cases gT : T ≤ 0
       · rw [← HT.out (by unfold okMs; omega), decide_eq_true (show 0 ≤ T by omega), decide_eq_true gT]
         rfl
       · rw [← HF.out (by unfold okMs; omega), decide_eq_true (show 0 ≤ T by omega), decide_eq_false gT]
         rfl)
set_option maxRecDepth 100000 in
set_option maxHeartbeats 4000000 in
theorem fright_2 (m : Ms) (p1 o1 s1 : Value) (w : World) (h1 : RdM m p1 o1 s1 w) (hs : m.sort = 2) (hl : m.pairs.length ≤ 1000000 ∧ m.orders.length ≤ 1000000 ∧ m.srcs.length ≤ 1000000) (hm : m.mant < 4294967296) (he : m.exp < 256) :
    Calls Try.prog 15 #[.agg (m.cls p1 o1 s1)] w fun e w' => e = .returned (.bool (rightMs m)) ∧ Only (fun _ => False) w w' := by
  obtain ⟨P1, d1, rfl, -, -⟩ := h1.p
  obtain ⟨O1, e1, rfl, -, -⟩ := h1.o
  obtain ⟨S1, f1, rfl, -, -⟩ := h1.s
  rw [nats_length]
  have HSO := Lib.hid (fun w => sortof_is 2 w (by omega) (by omega))
  have HC := Lib.hid (fun b wx => @cls_cells m (.slice P1 m.pairs.length d1) (.slice O1 m.orders.length e1) (.slice S1 m.srcs.length f1) wx b 27)
  obtain ⟨r, hr⟩ : ∃ r, rightMs m = r := ⟨_, rfl⟩
  rw [hr]
  unfold rightMs at hr
  rw [hs] at HC hr
  obtain ⟨A, hA⟩ : ∃ a, m.cls (.slice P1 m.pairs.length d1) (.slice O1 m.orders.length e1) (.slice S1 m.srcs.length f1) = a := ⟨_, rfl⟩
  rw [hA] at HC ⊢
  clear hA h1 hs
  generalize m.pairs.length = P at *
  generalize m.orders.length = O at *
  generalize m.srcs.length = S at *
  generalize m.exp = e at *
  generalize m.mant = t at *
  obtain ⟨hP, hO, hS⟩ := hl
  have HT := Lib.hid (fun (h : okMs 2 P O S e t) => (show true = r from by rw [← hr]; exact (decide_eq_true h).symm))
  have HF := Lib.hid (fun (h : ¬ okMs 2 P O S e t) => (show false = r from by rw [← hr]; exact (decide_eq_false h).symm))
  clear hr
  have wt : IntKind.i64.wrap (t : Int) = (t : Int) := by rw [IntKind.wrap_i64]; omega
  have we : IntKind.i64.wrap (e : Int) = (e : Int) := by rw [IntKind.wrap_i64]; omega
  go_enter Try.func15, Try.ntmps15
  go_upto_region 1 with (fail)
  generalize hw0 : World.alloc _ _ = w0
  have I0 := Lib.hid (show Is w0 w.heap.size 27 A from by rw [← hw0]; exact Is.made _ _ _)
  have T0 := Lib.hid (show Only (fun _ => False) w w0 from by rw [← hw0]; exact (Only.refl _ w).alloc _)
  obtain ⟨mb, hmb⟩ : ∃ k, w.heap.size = k := ⟨_, rfl⟩
  rw [hmb] at I0 ⊢
  clear hw0 hmb
  obtain ⟨m0, -, -, -, -, -, -, -⟩ := HC.out mb w0 I0.out
  go_upto_region 2 with (first
    | (go_at_call 43; refine (HSO.out _).mono ?_; rintro e w1 ⟨rfl, ho1⟩; have O1' := Lib.hid ho1; clear ho1)
    | (refine wpList_store_is rfl 93 _ _ rfl w1.heap.size (srtV 2) rfl rfl 93 (srtV 0) (Is.made w1 _ (srtV 0)) (srt_size 2 (by omega) (by omega)) (srt_hold 2 (by omega) (by omega)) (srt_one 2 (by omega) (by omega)) ?_; intro w2 hi2 ho2; have O2' := Lib.hid (fb_made ho2); have S2 := Lib.hid hi2; clear hi2 ho2))
  clear m0
  have I2 := Lib.hid (I0.out.only (only_more O1'.out O2'.out) (by simp))
  have P2 := Lib.hid (only_more T0.out (only_more O1'.out O2'.out))
  generalize w1.heap.size = sb at *
  have HE := Lib.hid (fun wx (ho : Only (fun _ => False) w2 wx) => HC.out mb wx (I2.out.only ho (by simp)))
  have HG := Lib.hid (fun wx (ho : Only (fun _ => False) w2 wx) => (show wx.cell? ⟨sb, 3, none⟩ = some (.int .i64 0) ∧ wx.cell? ⟨sb, 4, none⟩ = some (.int .i64 0) ∧ wx.cell? ⟨sb, 5, none⟩ = some (.int .i64 0) ∧ wx.cell? ⟨sb, 6, none⟩ = some (.int .i64 0) ∧ wx.cell? ⟨sb, 7, none⟩ = some (.int .i64 0) ∧ wx.cell? ⟨sb, 8, none⟩ = some (.int .i64 0) ∧ wx.cell? ⟨sb, 9, none⟩ = some (.int .i64 0) ∧ wx.cell? ⟨sb, 10, none⟩ = some (.int .i64 0) ∧ wx.cell? ⟨sb, 11, none⟩ = some (.int .i64 0) ∧ wx.cell? ⟨sb, 12, none⟩ = some (.int .i64 0) from
    have h := S2.out.only ho (by simp)
    ⟨h.cell 3, h.cell 4, h.cell 5, h.cell 6, h.cell 7, h.cell 8, h.cell 9, h.cell 10, h.cell 11, h.cell 12⟩))
  have OA := Lib.hid (Only.refl (fun _ => False) w2)
  clear I0 T0 O1' O2' S2 I2 HC HSO
  obtain ⟨-, -, -, m3, m4, m5, m6, m7⟩ := HE.out _ OA.out
  obtain ⟨c3, c4, c5, c6, c7, c8, c9, c10, c11, c12⟩ := HG.out _ OA.out
  generalize ht : (t : Int) = T at *
  go_wp2_with (go_at_call 49; refine (holds_is _ _ _ _).mono ?_; rintro e w9 ⟨rfl, ho9⟩; have OA := Lib.hid (only_more OA.out ho9); clear m3 m4 m5 m6 m7 c3 c4 c5 c6 c7 c8 c9 c10 c11 c12 ho9; obtain ⟨-, -, -, m3, m4, m5, m6, m7⟩ := HE.out _ OA.out; obtain ⟨c3, c4, c5, c6, c7, c8, c9, c10, c11, c12⟩ := HG.out _ OA.out)
  all_goals first
    | (go_ret; rw [← HF.out (by unfold okMs; omega)]; exact ⟨rfl, only_more P2.out OA.out⟩)
    | (go_ret
       refine ⟨?_, only_more P2.out OA.out⟩
       show Ending.returned (Value.bool (decide (0 ≤ T) && decide (T ≤ 0))) = _
       by_cases gT : T ≤ 0
       · rw [← HT.out (by unfold okMs; omega), decide_eq_true (show 0 ≤ T by omega), decide_eq_true gT]
         rfl
       · rw [← HF.out (by unfold okMs; omega), decide_eq_true (show 0 ≤ T by omega), decide_eq_false gT]
         rfl)
set_option maxRecDepth 100000 in
set_option maxHeartbeats 4000000 in
theorem fright_3 (m : Ms) (p1 o1 s1 : Value) (w : World) (h1 : RdM m p1 o1 s1 w) (hs : m.sort = 3) (hl : m.pairs.length ≤ 1000000 ∧ m.orders.length ≤ 1000000 ∧ m.srcs.length ≤ 1000000) (hm : m.mant < 4294967296) (he : m.exp < 256) :
    Calls Try.prog 15 #[.agg (m.cls p1 o1 s1)] w fun e w' => e = .returned (.bool (rightMs m)) ∧ Only (fun _ => False) w w' := by
  obtain ⟨P1, d1, rfl, -, -⟩ := h1.p
  obtain ⟨O1, e1, rfl, -, -⟩ := h1.o
  obtain ⟨S1, f1, rfl, -, -⟩ := h1.s
  rw [nats_length]
  have HSO := Lib.hid (fun w => sortof_is 3 w (by omega) (by omega))
  have HC := Lib.hid (fun b wx => @cls_cells m (.slice P1 m.pairs.length d1) (.slice O1 m.orders.length e1) (.slice S1 m.srcs.length f1) wx b 27)
  obtain ⟨r, hr⟩ : ∃ r, rightMs m = r := ⟨_, rfl⟩
  rw [hr]
  unfold rightMs at hr
  rw [hs] at HC hr
  obtain ⟨A, hA⟩ : ∃ a, m.cls (.slice P1 m.pairs.length d1) (.slice O1 m.orders.length e1) (.slice S1 m.srcs.length f1) = a := ⟨_, rfl⟩
  rw [hA] at HC ⊢
  clear hA h1 hs
  generalize m.pairs.length = P at *
  generalize m.orders.length = O at *
  generalize m.srcs.length = S at *
  generalize m.exp = e at *
  generalize m.mant = t at *
  obtain ⟨hP, hO, hS⟩ := hl
  have HT := Lib.hid (fun (h : okMs 3 P O S e t) => (show true = r from by rw [← hr]; exact (decide_eq_true h).symm))
  have HF := Lib.hid (fun (h : ¬ okMs 3 P O S e t) => (show false = r from by rw [← hr]; exact (decide_eq_false h).symm))
  clear hr
  have wt : IntKind.i64.wrap (t : Int) = (t : Int) := by rw [IntKind.wrap_i64]; omega
  have we : IntKind.i64.wrap (e : Int) = (e : Int) := by rw [IntKind.wrap_i64]; omega
  go_enter Try.func15, Try.ntmps15
  go_upto_region 1 with (fail)
  generalize hw0 : World.alloc _ _ = w0
  have I0 := Lib.hid (show Is w0 w.heap.size 27 A from by rw [← hw0]; exact Is.made _ _ _)
  have T0 := Lib.hid (show Only (fun _ => False) w w0 from by rw [← hw0]; exact (Only.refl _ w).alloc _)
  obtain ⟨mb, hmb⟩ : ∃ k, w.heap.size = k := ⟨_, rfl⟩
  rw [hmb] at I0 ⊢
  clear hw0 hmb
  obtain ⟨m0, -, -, -, -, -, -, -⟩ := HC.out mb w0 I0.out
  go_upto_region 2 with (first
    | (go_at_call 43; refine (HSO.out _).mono ?_; rintro e w1 ⟨rfl, ho1⟩; have O1' := Lib.hid ho1; clear ho1)
    | (refine wpList_store_is rfl 93 _ _ rfl w1.heap.size (srtV 3) rfl rfl 93 (srtV 0) (Is.made w1 _ (srtV 0)) (srt_size 3 (by omega) (by omega)) (srt_hold 3 (by omega) (by omega)) (srt_one 3 (by omega) (by omega)) ?_; intro w2 hi2 ho2; have O2' := Lib.hid (fb_made ho2); have S2 := Lib.hid hi2; clear hi2 ho2))
  clear m0
  have I2 := Lib.hid (I0.out.only (only_more O1'.out O2'.out) (by simp))
  have P2 := Lib.hid (only_more T0.out (only_more O1'.out O2'.out))
  generalize w1.heap.size = sb at *
  have HE := Lib.hid (fun wx (ho : Only (fun _ => False) w2 wx) => HC.out mb wx (I2.out.only ho (by simp)))
  have HG := Lib.hid (fun wx (ho : Only (fun _ => False) w2 wx) => (show wx.cell? ⟨sb, 3, none⟩ = some (.int .i64 0) ∧ wx.cell? ⟨sb, 4, none⟩ = some (.int .i64 0) ∧ wx.cell? ⟨sb, 5, none⟩ = some (.int .i64 1) ∧ wx.cell? ⟨sb, 6, none⟩ = some (.int .i64 32766) ∧ wx.cell? ⟨sb, 7, none⟩ = some (.int .i64 0) ∧ wx.cell? ⟨sb, 8, none⟩ = some (.int .i64 0) ∧ wx.cell? ⟨sb, 9, none⟩ = some (.int .i64 0) ∧ wx.cell? ⟨sb, 10, none⟩ = some (.int .i64 0) ∧ wx.cell? ⟨sb, 11, none⟩ = some (.int .i64 0) ∧ wx.cell? ⟨sb, 12, none⟩ = some (.int .i64 0) from
    have h := S2.out.only ho (by simp)
    ⟨h.cell 3, h.cell 4, h.cell 5, h.cell 6, h.cell 7, h.cell 8, h.cell 9, h.cell 10, h.cell 11, h.cell 12⟩))
  have OA := Lib.hid (Only.refl (fun _ => False) w2)
  clear I0 T0 O1' O2' S2 I2 HC HSO
  obtain ⟨-, -, -, m3, m4, m5, m6, m7⟩ := HE.out _ OA.out
  obtain ⟨c3, c4, c5, c6, c7, c8, c9, c10, c11, c12⟩ := HG.out _ OA.out
  generalize ht : (t : Int) = T at *
  go_wp2_with (go_at_call 49; refine (holds_is _ _ _ _).mono ?_; rintro e w9 ⟨rfl, ho9⟩; have OA := Lib.hid (only_more OA.out ho9); clear m3 m4 m5 m6 m7 c3 c4 c5 c6 c7 c8 c9 c10 c11 c12 ho9; obtain ⟨-, -, -, m3, m4, m5, m6, m7⟩ := HE.out _ OA.out; obtain ⟨c3, c4, c5, c6, c7, c8, c9, c10, c11, c12⟩ := HG.out _ OA.out)
  all_goals first
    | (go_ret; rw [← HF.out (by unfold okMs; omega)]; exact ⟨rfl, only_more P2.out OA.out⟩)
    | (go_ret
       refine ⟨?_, only_more P2.out OA.out⟩
       show Ending.returned (Value.bool (decide (0 ≤ T) && decide (T ≤ 0))) = _
       by_cases gT : T ≤ 0
       · rw [← HT.out (by unfold okMs; omega), decide_eq_true (show 0 ≤ T by omega), decide_eq_true gT]
         rfl
       · rw [← HF.out (by unfold okMs; omega), decide_eq_true (show 0 ≤ T by omega), decide_eq_false gT]
         rfl)
set_option maxRecDepth 100000 in
set_option maxHeartbeats 4000000 in
theorem fright_4 (m : Ms) (p1 o1 s1 : Value) (w : World) (h1 : RdM m p1 o1 s1 w) (hs : m.sort = 4) (hl : m.pairs.length ≤ 1000000 ∧ m.orders.length ≤ 1000000 ∧ m.srcs.length ≤ 1000000) (hm : m.mant < 4294967296) (he : m.exp < 256) :
    Calls Try.prog 15 #[.agg (m.cls p1 o1 s1)] w fun e w' => e = .returned (.bool (rightMs m)) ∧ Only (fun _ => False) w w' := by
  obtain ⟨P1, d1, rfl, -, -⟩ := h1.p
  obtain ⟨O1, e1, rfl, -, -⟩ := h1.o
  obtain ⟨S1, f1, rfl, -, -⟩ := h1.s
  rw [nats_length]
  have HSO := Lib.hid (fun w => sortof_is 4 w (by omega) (by omega))
  have HC := Lib.hid (fun b wx => @cls_cells m (.slice P1 m.pairs.length d1) (.slice O1 m.orders.length e1) (.slice S1 m.srcs.length f1) wx b 27)
  obtain ⟨r, hr⟩ : ∃ r, rightMs m = r := ⟨_, rfl⟩
  rw [hr]
  unfold rightMs at hr
  rw [hs] at HC hr
  obtain ⟨A, hA⟩ : ∃ a, m.cls (.slice P1 m.pairs.length d1) (.slice O1 m.orders.length e1) (.slice S1 m.srcs.length f1) = a := ⟨_, rfl⟩
  rw [hA] at HC ⊢
  clear hA h1 hs
  generalize m.pairs.length = P at *
  generalize m.orders.length = O at *
  generalize m.srcs.length = S at *
  generalize m.exp = e at *
  generalize m.mant = t at *
  obtain ⟨hP, hO, hS⟩ := hl
  have HT := Lib.hid (fun (h : okMs 4 P O S e t) => (show true = r from by rw [← hr]; exact (decide_eq_true h).symm))
  have HF := Lib.hid (fun (h : ¬ okMs 4 P O S e t) => (show false = r from by rw [← hr]; exact (decide_eq_false h).symm))
  clear hr
  have wt : IntKind.i64.wrap (t : Int) = (t : Int) := by rw [IntKind.wrap_i64]; omega
  have we : IntKind.i64.wrap (e : Int) = (e : Int) := by rw [IntKind.wrap_i64]; omega
  go_enter Try.func15, Try.ntmps15
  go_upto_region 1 with (fail)
  generalize hw0 : World.alloc _ _ = w0
  have I0 := Lib.hid (show Is w0 w.heap.size 27 A from by rw [← hw0]; exact Is.made _ _ _)
  have T0 := Lib.hid (show Only (fun _ => False) w w0 from by rw [← hw0]; exact (Only.refl _ w).alloc _)
  obtain ⟨mb, hmb⟩ : ∃ k, w.heap.size = k := ⟨_, rfl⟩
  rw [hmb] at I0 ⊢
  clear hw0 hmb
  obtain ⟨m0, -, -, -, -, -, -, -⟩ := HC.out mb w0 I0.out
  go_upto_region 2 with (first
    | (go_at_call 43; refine (HSO.out _).mono ?_; rintro e w1 ⟨rfl, ho1⟩; have O1' := Lib.hid ho1; clear ho1)
    | (refine wpList_store_is rfl 93 _ _ rfl w1.heap.size (srtV 4) rfl rfl 93 (srtV 0) (Is.made w1 _ (srtV 0)) (srt_size 4 (by omega) (by omega)) (srt_hold 4 (by omega) (by omega)) (srt_one 4 (by omega) (by omega)) ?_; intro w2 hi2 ho2; have O2' := Lib.hid (fb_made ho2); have S2 := Lib.hid hi2; clear hi2 ho2))
  clear m0
  have I2 := Lib.hid (I0.out.only (only_more O1'.out O2'.out) (by simp))
  have P2 := Lib.hid (only_more T0.out (only_more O1'.out O2'.out))
  generalize w1.heap.size = sb at *
  have HE := Lib.hid (fun wx (ho : Only (fun _ => False) w2 wx) => HC.out mb wx (I2.out.only ho (by simp)))
  have HG := Lib.hid (fun wx (ho : Only (fun _ => False) w2 wx) => (show wx.cell? ⟨sb, 3, none⟩ = some (.int .i64 0) ∧ wx.cell? ⟨sb, 4, none⟩ = some (.int .i64 0) ∧ wx.cell? ⟨sb, 5, none⟩ = some (.int .i64 0) ∧ wx.cell? ⟨sb, 6, none⟩ = some (.int .i64 0) ∧ wx.cell? ⟨sb, 7, none⟩ = some (.int .i64 0) ∧ wx.cell? ⟨sb, 8, none⟩ = some (.int .i64 255) ∧ wx.cell? ⟨sb, 9, none⟩ = some (.int .i64 0) ∧ wx.cell? ⟨sb, 10, none⟩ = some (.int .i64 63) ∧ wx.cell? ⟨sb, 11, none⟩ = some (.int .i64 0) ∧ wx.cell? ⟨sb, 12, none⟩ = some (.int .i64 262143) from
    have h := S2.out.only ho (by simp)
    ⟨h.cell 3, h.cell 4, h.cell 5, h.cell 6, h.cell 7, h.cell 8, h.cell 9, h.cell 10, h.cell 11, h.cell 12⟩))
  have OA := Lib.hid (Only.refl (fun _ => False) w2)
  clear I0 T0 O1' O2' S2 I2 HC HSO
  obtain ⟨-, -, -, m3, m4, m5, m6, m7⟩ := HE.out _ OA.out
  obtain ⟨c3, c4, c5, c6, c7, c8, c9, c10, c11, c12⟩ := HG.out _ OA.out
  generalize ht : (t : Int) = T at *
  go_wp2_with (go_at_call 49; refine (holds_is _ _ _ _).mono ?_; rintro e w9 ⟨rfl, ho9⟩; have OA := Lib.hid (only_more OA.out ho9); clear m3 m4 m5 m6 m7 c3 c4 c5 c6 c7 c8 c9 c10 c11 c12 ho9; obtain ⟨-, -, -, m3, m4, m5, m6, m7⟩ := HE.out _ OA.out; obtain ⟨c3, c4, c5, c6, c7, c8, c9, c10, c11, c12⟩ := HG.out _ OA.out)
  all_goals first
    | (go_ret; rw [← HF.out (by unfold okMs; omega)]; exact ⟨rfl, only_more P2.out OA.out⟩)
    | (go_ret
       refine ⟨?_, only_more P2.out OA.out⟩
       show Ending.returned (Value.bool (decide (0 ≤ T) && decide (T ≤ 262143))) = _
       by_cases gT : T ≤ 262143
       · rw [← HT.out (by unfold okMs; omega), decide_eq_true (show 0 ≤ T by omega), decide_eq_true gT]
         rfl
       · rw [← HF.out (by unfold okMs; omega), decide_eq_true (show 0 ≤ T by omega), decide_eq_false gT]
         rfl)
end Go.Proofs.Ytefcimkopgcagaa
