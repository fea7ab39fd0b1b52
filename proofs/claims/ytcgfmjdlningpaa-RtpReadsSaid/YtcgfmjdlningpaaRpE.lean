/- The reference's Parse. Conditions: as each says. -/
import Derived.Test.YtcgfmjdlningpaaRpD
import Derived.Test.YtcgfmjdlningpaaRpC
import Derived.Test.YtcgfmjdlningpaaRrA
set_option linter.unusedVariables false
namespace Go.Proofs.Ytcgfmjdlningpaa
open Go.RowKit

set_option maxRecDepth 100000 in
set_option maxHeartbeats 1000000 in
theorem refparse_short (A : Option Addr) (L c : Nat) (w : World) (h : L < 12) : Calls Try.prog 15 #[.slice A L c] w fun e w' => e = .returned (.tuple #[Pk.zero.val (.slice none 0 0) (.slice none 0 0) (.slice none 0 0), .int .i64 10]) ∧ Pure w w' := by
  go_enter Try.func15, Try.ntmps15
  go_wp2
  exact bodyPost_ret (v := .tuple #[Pk.zero.val (.slice none 0 0) (.slice none 0 0) (.slice none 0 0), .int .i64 10]) (by simp [results, Try.results15, Pk.val, Pk.zero, go_sem]) rfl ⟨rfl, (Only.refl _ _).alloc _⟩

set_option maxRecDepth 100000 in
set_option maxHeartbeats 1000000 in
theorem refparse_version (g o c L c0 : Nat) (w : World) (h : 12 ≤ L) (hc0 : c0 < 256) (hv : ¬ c0 / 64 = 2) (hc : w.cell? ⟨g, o, none⟩ = some (.int .u8 c0)) : Calls Try.prog 15 #[.slice (some ⟨g, o, none⟩) L c] w fun e w' => e = .returned (.tuple #[Pk.zero.val (.slice none 0 0) (.slice none 0 0) (.slice none 0 0), .int .i64 20]) ∧ Pure w w' := by
  have hv' : ((c0 : Int) / 64 != 2) = true := by simp; omega
  have hw : ∀ ob, (w.alloc ob).cell? ⟨g, o, none⟩ = some (.int .u8 c0) := fun ob => Lib.cell?_alloc_some _ hc
  clear hc
  go_enter Try.func15, Try.ntmps15
  go_wp2
  exact bodyPost_ret (v := .tuple #[Pk.zero.val (.slice none 0 0) (.slice none 0 0) (.slice none 0 0), .int .i64 20]) (by simp [results, Try.results15, Pk.val, Pk.zero, go_sem]) rfl ⟨rfl, (Only.refl _ _).alloc _⟩
theorem val_is (bs : List Nat) (g o l m k : Nat) (wx : World) (hc : ∀ j (hj : j < bs.length), wx.cell? ⟨g, o + j, none⟩ = some (.int .u8 (bs[j] : Int))) (hb : ∀ x ∈ bs, x < 256) (hm : m ≤ 4) (hl : l + m ≤ bs.length) (hk : m ≤ k) :
    Calls Try.prog 53 #[.slice (some ⟨g, o + l, none⟩) m k] wx fun e w' => e = .returned (.int .u64 (be ((bs.drop l).take m) : Nat)) ∧ wx = w' :=
  value_is _ ((bs.drop l).take m) wx (src_cut (c := 0) l m hc hl rfl hk) (fun x hx => hb x (List.mem_of_mem_drop (List.mem_of_mem_take hx))) (by rw [List.length_take]; omega)
/-- Amid the reference's Parse: the bytes, the answer's block, what has become of memory. -/
structure Rq (w : World) (g o rb : Nat) (bs : List Nat) (wx : World) : Prop where
  at_ : ∀ j (hj : j < bs.length), wx.cell? ⟨g, o + j, none⟩ = some (.int .u8 (bs[j] : Int))
  ans : Is wx rb 29 zeros
  pure : Only (fun _ => False) w wx
theorem Rq.go {w wx wy : World} {g o rb : Nat} {bs : List Nat} (h : Rq w g o rb bs wx) (ho : Only (fun _ => False) wx wy) : Rq w g o rb bs wy :=
  ⟨fun i hi => by rw [ho.cell (World.block_lt_of_cell? wx _ (h.at_ i hi)) (by simp)]; exact h.at_ i hi, h.ans.only ho (by simp), only_more h.pure ho⟩
theorem Rq.own {w wx wy : World} {g o rb db : Nat} {bs : List Nat} (h : Rq w g o rb bs wx) (ho : Only (fun k => k = db) wx wy) (hg : g ≠ db) (hw : w.heap.size ≤ db) (hr : rb ≠ db) : Rq w g o rb bs wy :=
  ⟨fun i hi => by rw [ho.cell (World.block_lt_of_cell? wx _ (h.at_ i hi)) hg]; exact h.at_ i hi, h.ans.only ho hr, h.pure.trans ho (fun i hi e => by omega)⟩
theorem Rq.b0 {w wx : World} {g o rb : Nat} {bs : List Nat} {x : Nat} (h : Rq w g o rb bs wx) (hx : bs[0]? = some x) : wx.cell? ⟨g, o, none⟩ = some (.int .u8 (x : Nat)) := by
  obtain ⟨hl, e⟩ := List.getElem?_eq_some_iff.1 hx
  have := h.at_ 0 hl
  rwa [e, Nat.add_zero] at this
theorem Rq.b1 {w wx : World} {g o rb : Nat} {bs : List Nat} {x : Nat} (h : Rq w g o rb bs wx) (hx : bs[1]? = some x) : wx.cell? ⟨g, o + 1, none⟩ = some (.int .u8 (x : Nat)) := by
  obtain ⟨hl, e⟩ := List.getElem?_eq_some_iff.1 hx
  have := h.at_ 1 hl
  rwa [e] at this

theorem own_above {w : World} {B n g : Nat} {t : TypeId} {v : Value} {xs : List Value} (h : w.ownsRow B t 1 v n xs) (hg : g < B) : ¬ v.ownBlock = some g := by
  intro e
  rcases h.2 with ⟨rfl, _⟩ | ⟨g', cap, cur, rfl, hb, _⟩
  · simp [Value.ownBlock] at e
  · have : g' = g := by simpa [Value.ownBlock] using e
    omega
set_option maxRecDepth 100000 in
/-- A number is appended to numbers. -/
theorem app32m {o : Oper} {a : Act} {K : Act → World → Prop} {Q : Exit → Act → World → Prop} (w : World) (s x : Operand) (ho : o.op = .call { callee := .builtin .append, args := #[s, x], argTypes := #[27, 27] })
    (B : Nat) (v : Value) (ns : List Nat) (hs : a.eval s = v) (hown : w.ownsRow B 26 1 v ns.length (cells32 ns)) (q y c : Nat) (hx : a.eval x = .slice (some ⟨q, 0, none⟩) 1 c) (hy : w.cell? ⟨q, 0, none⟩ = some (.int .u32 (y : Nat))) (hl : ns.length ≤ 1000000) (hB : B ≤ w.heap.size)
    (h : ∀ v' w', w'.ownsRow B 26 1 v' (ns.length + 1) (cells32 (ns ++ [y])) → w.grownBy w' v.ownBlock → K (a.put o.dst v') w') : Oper.wp Try.prog o a w K Q := by
  obtain ⟨i0, hi, hz0, hz1, hz2⟩ := info_parts Try.infoU32
  refine wp_append_own w s x 27 ho B 26 i0 (.int .u32 0) 1 4 Try.underlying27 hi hz0 hz1 hz2 rfl (by decide) v ns.length (cells32 ns) hs hown ⟨q, 0, none⟩ 1 c [.int .u32 (y : Nat)] hx rfl ?_ (by simp [Value.oneCell']) (by unfold maxLen; omega) (by omega) hB (fun v' w' h1 h2 _ => h v' w' (by simpa [cells32] using h1) h2)
  intro j u hu
  obtain rfl : j = 0 := by
    have := (List.getElem?_eq_some_iff.1 hu).1
    simp at this
    omega
  simp at hu
  subst hu
  rw [add_plain]
  simpa using hy

/-- A field of the packet is written. -/
theorem rq_put {w wx wz : World} {g o rb pb i n m : Nat} {bs : List Nat} {cs : Array Value} {u v v' : Value} {xs ys : List Value} (hT : wx.setCell ⟨pb, i, none⟩ u = wz) (hR : Rq w g o rb bs wx) (hI : Is wx pb 29 cs) (hg : g ≠ pb) (hw : w.heap.size ≤ pb) (hr : rb ≠ pb)
    (hC : wx.ownsRow rb 26 1 v n xs) (hE : wx.ownsRow rb 5 1 v' m ys) : Rq w g o rb bs wz ∧ Is wz pb 29 (cs.setIfInBounds i u) ∧ wz.ownsRow rb 26 1 v n xs ∧ wz.ownsRow rb 5 1 v' m ys := by
  subst hT
  have hO : Only (fun j => j = pb) wx (wx.setCell ⟨pb, i, none⟩ u) := Only.set (S := fun j => j = pb) (p := ⟨pb, i, none⟩) (Only.refl _ wx) (fun _ => rfl) _
  exact ⟨hR.own hO hg hw hr, hI.put i u, own_only hC hO (fun q hq e => row_apart hI hC (by decide) (by rw [← e]; exact hq)), own_only hE hO (fun q hq e => row_apart hI hE (by decide) (by rw [← e]; exact hq))⟩
/-- A packet is answered. -/
theorem rgot_ok {w T w8 : World} {rb : Nat} {bs : List Nat} {vc ve vp : Value} (hT : Only (fun _ => False) w T) (hrb : w.heap.size = rb) (hI : Is T rb 29 zeros) (h8 : Only (fun i => i = rb) T w8) (he : parseErr bs = 0)
    (hvc : T.ownsRow rb 26 1 vc (parsed bs).csrc.length (cells32 (parsed bs).csrc)) (hve : T.ownsRow rb 5 1 ve (parsed bs).ext.length (cellsOf (parsed bs).ext)) (hvp : T.ownsRow rb 5 1 vp (parsed bs).pay.length (cellsOf (parsed bs).pay)) :
    GotPk w bs (.returned (.tuple #[(parsed bs).val vc ve vp, .int .i64 0])) w8 := by
  subst hrb
  exact ⟨hT.trans h8 (fun i hi e => by omega), .inr ⟨he, vc, ve, vp, rfl, own_only hvc h8 (fun k hk e => row_apart hI hvc (by decide) (by rw [hk, e])), own_only hve h8 (fun k hk e => row_apart hI hve (by decide) (by rw [hk, e])), own_only hvp h8 (fun k hk e => row_apart hI hvp (by decide) (by rw [hk, e]))⟩⟩
set_option maxRecDepth 100000 in
set_option maxHeartbeats 12000000 in
theorem refparse_main (v : Value) (bs : List Nat) (w : World) (h : Src w v bs) (hb : ∀ x ∈ bs, x < 256) (h12 : 12 ≤ bs.length) (hl : bs.length ≤ 1000000) (hver : b0 bs / 64 = 2) :
    Calls Try.prog 15 #[v] w (GotPk w bs) := by
  obtain ⟨g, o, c, rfl, hlc, hc⟩ := h.cap (by omega)
  have hb0 : bs[0]'(by omega) = b0 bs := by unfold b0; rw [List.getD_eq_getElem?_getD, List.getElem?_eq_getElem (by omega)]; rfl
  have hb1 : bs[1]'(by omega) = bs.getD 1 0 := by rw [List.getD_eq_getElem?_getD, List.getElem?_eq_getElem (by omega)]; rfl
  have hc0 : b0 bs < 256 := by rw [← hb0]; exact hb _ (List.getElem_mem _)
  have hc1 : bs.getD 1 0 < 256 := by rw [← hb1]; exact hb _ (List.getElem_mem _)
  have hg0 : bs[0]? = some (b0 bs) := by rw [← hb0]; exact List.getElem?_eq_getElem (by omega)
  have hg1 : bs[1]? = some (bs.getD 1 0) := by rw [← hb1]; exact List.getElem?_eq_getElem (by omega)
  have hgl : g < w.heap.size := World.block_lt_of_cell? w _ (hc 0 (by omega))
  have hs2 := be2_lt bs 2 hb (by omega)
  have hs4 := be4_lt bs 4 hb (by omega)
  have hs8 := be4_lt bs 8 hb (by omega)
  have HV2 := Lib.hid (fun wx k (hk : 2 ≤ k) hc => val_is bs g o 2 2 k wx hc hb (by omega) (by omega) hk)
  have HV4 := Lib.hid (fun wx k (hk : 4 ≤ k) hc => val_is bs g o 4 4 k wx hc hb (by omega) (by omega) hk)
  have HV8 := Lib.hid (fun wx k (hk : 4 ≤ k) hc => val_is bs g o 8 4 k wx hc hb (by omega) (by omega) hk)
  have HB := Lib.hid hb
  have HPD := Lib.hid (show parsed bs = { marker := decide (128 ≤ bs.getD 1 0), ty := bs.getD 1 0 % 128, seq := be ((bs.drop 2).take 2), time := be ((bs.drop 4).take 4), ssrc := be ((bs.drop 8).take 4), csrc := csrcOf (bs.drop 12) (many bs), hasExt := hasX bs, profile := if hasX bs then be ((rest1 bs).take 2) else 0, ext := if hasX bs then ((rest1 bs).drop 4).take (extEnd (rest1 bs) - 4) else [], pay := (rest2 bs).take ((rest2 bs).length - padN bs), pad := padN bs } from rfl)
  have HPE := Lib.hid (show parseErr bs = if (bs.drop 12).length < 4 * many bs then 10 else if extBad bs then 10 else if padBad bs then 21 else 0 from by unfold parseErr; rw [if_neg (by omega), if_neg (by omega)])
  have emany : ((b0 bs : Int) % 16) = (many bs : Nat) := by unfold many; omega
  have hn : many bs ≤ 15 := by unfold many; omega
  have ehx : ((b0 bs : Int) / 16 % 2 == 1) = hasX bs := by unfold hasX; rw [Bool.eq_iff_iff, beq_iff_eq, decide_eq_true_iff]; omega
  have ehp : ((b0 bs : Int) / 32 % 2 == 1) = hasP bs := by unfold hasP; rw [Bool.eq_iff_iff, beq_iff_eq, decide_eq_true_iff]; omega
  have ehx2 : ((IntKind.u8.wrap ((b0 bs : Int) / 16)).tmod 2 == 1) = hasX bs := by rw [IntWalk.u8_in _ (by omega), Int.tmod_eq_emod_of_nonneg (by omega)]; exact ehx
  have ehp2 : ((IntKind.u8.wrap ((b0 bs : Int) / 32)).tmod 2 == 1) = hasP bs := by rw [IntWalk.u8_in _ (by omega), Int.tmod_eq_emod_of_nonneg (by omega)]; exact ehp
  have emk : decide ((128 : Int) ≤ (bs.getD 1 0 : Nat)) = decide (128 ≤ bs.getD 1 0) := by rw [decide_eq_decide]; omega
  have ety : ((bs.getD 1 0 : Nat) : Int) % 128 = ((bs.getD 1 0 % 128 : Nat) : Int) := by omega
  have ety' : ((bs.getD 1 0 : Nat) : Int).tmod 128 = ((bs.getD 1 0 % 128 : Nat) : Int) := by rw [Int.tmod_eq_emod_of_nonneg (by omega)]; omega
  have hr0 : Rq w g o w.heap.size bs (w.alloc (.cells zeros 29)) := by
    refine ⟨fun i hi => ?_, Is.made _ _ _, (Only.refl _ w).alloc _⟩
    have hq := hc i hi
    rw [((Only.refl (fun _ => False) w).alloc _).cell (World.block_lt_of_cell? w _ hq) (by simp)]
    exact hq
  have hv' : ((b0 bs : Int) / 64 != 2) = false := by simp; omega
  generalize decide (128 ≤ bs.getD 1 0) = mk at *
  have hty : bs.getD 1 0 % 128 < 128 := by omega
  generalize bs.getD 1 0 % 128 = ty at *
  generalize bs.getD 1 0 = c1 at *
  generalize be ((bs.drop 2).take 2) = sq at *
  generalize be ((bs.drop 4).take 4) = tm at *
  generalize be ((bs.drop 8).take 4) = ss at *
  generalize hhx : hasX bs = hx at *
  generalize hhp : hasP bs = hp at *
  have HHX := Lib.hid hhx
  have HHP := Lib.hid hhp
  clear hhx hhp
  have HM := Lib.hid (show many bs = many bs from rfl)
  obtain ⟨n, hnn⟩ : ∃ n, many bs = n := ⟨_, rfl⟩
  have HM := Lib.hid hnn
  rw [hnn] at emany hn
  generalize b0 bs = c0 at *
  have G0 := Lib.hid hg0
  have G1 := Lib.hid hg1
  obtain ⟨L, hLL⟩ : ∃ L, bs.length = L := ⟨_, rfl⟩
  rw [hLL] at h12 hl hlc ⊢
  have HL := Lib.hid hLL
  have zL : 0 < L := by omega
  have zL1 : 1 < L := by omega
  have zc : 12 ≤ c := by omega
  have zi0 : (0 : Int) < (L : Int) := by omega
  have zi1 : (1 : Int) < (L : Int) := by omega
  have zc4 : (4 : Int) ≤ (c : Int) := by omega
  have zc8 : (8 : Int) ≤ (c : Int) := by omega
  have zc12 : (12 : Int) ≤ (c : Int) := by omega
  have zn2 : ¬ c = 2 := by omega
  have zn4 : ¬ c = 4 := by omega
  have zn8 : ¬ c = 8 := by omega
  have HS := Lib.hid h
  obtain ⟨rb, hrb⟩ : ∃ b, w.heap.size = b := ⟨_, rfl⟩
  rw [hrb] at hr0
  have q0 := hr0.b0 hg0
  have HGL := Lib.hid (show g < rb from by omega)
  have HRB := Lib.hid hrb
  obtain ⟨w0, hw0⟩ : ∃ w0, w.alloc (.cells #[.bool false, .int .u8 0, .int .u16 0, .int .u32 0, .int .u32 0, .slice none 0 0, .bool false, .int .u16 0, .slice none 0 0, .slice none 0 0, .int .u8 0] 29) = w0 := ⟨_, rfl⟩
  have hw1 : w.alloc (.cells zeros 29) = w0 := hw0
  rw [hw1] at hr0 q0
  clear hw1
  have HW0 := Lib.hid (show w0.heap.size = rb + 1 from by rw [← hw0, ← hrb]; simp)
  have R0 := Lib.hid hr0
  have z12 : decide ((L : Int) < 12) = false := decide_eq_false (by omega)
  clear hc h hb0 hb1 hb hnn hLL hr0 hg0 hg1 hgl hver hc1
  go_enter Try.func15, Try.ntmps15
  go_upto_region 6 with (fail)
  clear hw0 q0 emany
  have wsq : IntKind.u16.wrap (sq : Int) = sq := by rw [IntKind.wrap_u16]; omega
  have wtm : IntKind.u32.wrap (tm : Int) = tm := by rw [IntKind.wrap_u32]; omega
  have wss : IntKind.u32.wrap (ss : Int) = ss := by rw [IntKind.wrap_u32]; omega
  have HSZ := Lib.hid (show ∀ wx, Rq w g o rb bs wx → rb < wx.heap.size from fun wx h => h.ans.lt)
  go_cut [5] (fun s5 wx => ∃ pb, s5 = .pointer (some ⟨pb, 0, none⟩) ∧ rb < pb ∧ Rq w g o rb bs wx ∧ Is wx pb 29 #[.bool mk, .int .u8 (ty : Nat), .int .u16 (sq : Nat), .int .u32 (tm : Nat), .int .u32 (ss : Nat), .slice none 0 0, .bool hx, .int .u16 0, .slice none 0 0, .slice none 0 0, .int .u8 0])
  case first =>
    refine wp_region_posts [[], [0], [1, 0], [2, 1, 0], [], [4], [5, 4], [6, 5, 4], [], [8], [9, 8], [10, 9, 8], [], [12], [13, 10, 12, 9, 8], [14, 13, 10, 12, 9, 8], [], [16], [17, 14, 16, 13, 10, 12, 9, 8], [18, 17, 14, 16, 13, 10, 12, 9, 8], [], [20], [21, 20], [22, 21, 20], [23, 22, 21, 20], [24, 23, 22, 21, 20], [3, 7, 11, 15, 19, 25, 2, 1, 0, 6, 5, 4, 10, 9, 8, 14, 13, 12, 18, 17, 16, 24, 23, 22, 21, 20], [], [27, 26, 18, 0, 1, 2, 3, 4, 5, 6, 7, 8, 9, 10, 11, 12, 13, 14, 15, 16, 17, 19, 20, 21, 22, 23, 24, 25]] [27, 28] [27, 28] [[], [], [], [], [], [], [], [], [], [], [], [], [], [], [], [], [], [], [], [], [], [], [], [], [], [], [], [], [27]] [[], [], [], [], [], [], [], [], [], [], [], [], [], [], [], [], [], [], [], [], [], [], [], [], [], [], [], [], [27]] [28] [] [] []
        [some ?v0, some ?v1, some ?v2, some ?v3, some ?v4, some ?v5, some ?v6, some ?v7, some ?v8, some ?v9, some (.int .u64 (sq : Nat)), some ?v11, some ?v12, some ?v13, some (.int .u64 (tm : Nat)), some ?v15, some ?v16, some ?v17, some (.int .u64 (ss : Nat)), some ?v19, some ?v20, some ?v21, some ?v22, some ?v23, some ?v24, some ?v25, some ?v26, none, none]
        ?T (fun wx => Rq w g o rb bs wx) ?W ?E (by kernel_rfl) (by kernel_rfl) (by kernel_rfl) (fun x => ?hT) ?hF ?hini (Reg.all_ops ?runs) ?pres ?fin
    case W => exact fun j x w' => match j with | 27 => ∃ pb, x 27 = .pointer (some ⟨pb, 0, none⟩) ∧ rb < pb ∧ Is w' pb 29 zeros | 28 => ∃ pb, x 27 = .pointer (some ⟨pb, 0, none⟩) ∧ rb < pb ∧ Is w' pb 29 #[.bool mk, .int .u8 (ty : Nat), .int .u16 (sq : Nat), .int .u32 (tm : Nat), .int .u32 (ss : Nat), .slice none 0 0, .bool hx, .int .u16 0, .slice none 0 0, .slice none 0 0, .int .u8 0] | _ => True
    case E => exact fun i w' w'' => match i with | 28 => True | _ => Only (fun _ => False) w' w''
    case hT =>
      simp only [Reg.fillV, Act.put, List.setIfInBounds_toArray, List.set_cons_zero, List.set_cons_succ]
      rfl
    case runs =>
      refine And.intro ?_ ?_
      · refine Reg.ob_pure (fun _ => rfl) rfl rfl rfl rfl (fun x w1 hF => ?_)
        have c0_ := hF.b0 G0.out
        have c1_ := hF.b1 G1.out
        go_simp
        with_reducible rfl
      refine And.intro ?_ ?_
      · refine Reg.ob_pure (fun _ => rfl) rfl rfl rfl rfl (fun x w1 hF => ?_)
        have c0_ := hF.b0 G0.out
        have c1_ := hF.b1 G1.out
        go_simp
        with_reducible rfl
      refine And.intro ?_ ?_
      · refine Reg.ob_pure (fun _ => rfl) rfl rfl rfl rfl (fun x w1 hF => ?_)
        have c0_ := hF.b0 G0.out
        have c1_ := hF.b1 G1.out
        go_simp
        with_reducible rfl
      refine And.intro ?_ ?_
      · refine Reg.ob_pure (fun _ => rfl) rfl rfl rfl rfl (fun x w1 hF => ?_)
        have c0_ := hF.b0 G0.out
        have c1_ := hF.b1 G1.out
        go_simp
        with_reducible rfl
      refine And.intro ?_ ?_
      · refine Reg.ob_pure (fun _ => rfl) rfl rfl rfl rfl (fun x w1 hF => ?_)
        have c0_ := hF.b0 G0.out
        have c1_ := hF.b1 G1.out
        go_simp
        with_reducible rfl
      refine And.intro ?_ ?_
      · refine Reg.ob_pure (fun _ => rfl) rfl rfl rfl rfl (fun x w1 hF => ?_)
        have c0_ := hF.b0 G0.out
        have c1_ := hF.b1 G1.out
        go_simp
        with_reducible rfl
      refine And.intro ?_ ?_
      · refine Reg.ob_pure (fun _ => rfl) rfl rfl rfl rfl (fun x w1 hF => ?_)
        have c0_ := hF.b0 G0.out
        have c1_ := hF.b1 G1.out
        go_simp
        with_reducible rfl
      refine And.intro ?_ ?_
      · refine Reg.ob_pure (fun _ => rfl) rfl rfl rfl rfl (fun x w1 hF => ?_)
        have c0_ := hF.b0 G0.out
        have c1_ := hF.b1 G1.out
        go_simp
        with_reducible rfl
      refine And.intro ?_ ?_
      · refine Reg.ob_pure (fun _ => rfl) rfl rfl rfl rfl (fun x w1 hF => ?_)
        have c0_ := hF.b0 G0.out
        have c1_ := hF.b1 G1.out
        go_simp
        with_reducible rfl
      refine And.intro ?_ ?_
      · refine Reg.ob_pure (fun _ => rfl) rfl rfl rfl rfl (fun x w1 hF => ?_)
        have c0_ := hF.b0 G0.out
        have c1_ := hF.b1 G1.out
        go_simp
        with_reducible rfl
      refine And.intro ?_ ?_
      · refine Reg.ob_known (fun _ => rfl) rfl rfl (fun x w1 hF hU K hK => ?_)
        have HR := hF rfl
        go_simp
        refine (HV2.out _ _ (by omega) HR.at_).mono ?_
        rintro e w3 ⟨rfl, rfl⟩
        exact hK _ (fun h => by cases h) rfl
      refine And.intro ?_ ?_
      · refine Reg.ob_pure (fun _ => rfl) rfl rfl rfl rfl (fun x w1 hF => ?_)
        have c0_ := hF.b0 G0.out
        have c1_ := hF.b1 G1.out
        go_simp
        with_reducible rfl
      refine And.intro ?_ ?_
      · refine Reg.ob_pure (fun _ => rfl) rfl rfl rfl rfl (fun x w1 hF => ?_)
        have c0_ := hF.b0 G0.out
        have c1_ := hF.b1 G1.out
        go_simp
        with_reducible rfl
      refine And.intro ?_ ?_
      · refine Reg.ob_pure (fun _ => rfl) rfl rfl rfl rfl (fun x w1 hF => ?_)
        have c0_ := hF.b0 G0.out
        have c1_ := hF.b1 G1.out
        go_simp
        with_reducible rfl
      refine And.intro ?_ ?_
      · refine Reg.ob_known (fun _ => rfl) rfl rfl (fun x w1 hF hU K hK => ?_)
        have HR := hF rfl
        go_simp
        refine (HV4.out _ _ (by omega) HR.at_).mono ?_
        rintro e w3 ⟨rfl, rfl⟩
        exact hK _ (fun h => by cases h) rfl
      refine And.intro ?_ ?_
      · refine Reg.ob_pure (fun _ => rfl) rfl rfl rfl rfl (fun x w1 hF => ?_)
        have c0_ := hF.b0 G0.out
        have c1_ := hF.b1 G1.out
        go_simp
        with_reducible rfl
      refine And.intro ?_ ?_
      · refine Reg.ob_pure (fun _ => rfl) rfl rfl rfl rfl (fun x w1 hF => ?_)
        have c0_ := hF.b0 G0.out
        have c1_ := hF.b1 G1.out
        go_simp
        with_reducible rfl
      refine And.intro ?_ ?_
      · refine Reg.ob_pure (fun _ => rfl) rfl rfl rfl rfl (fun x w1 hF => ?_)
        have c0_ := hF.b0 G0.out
        have c1_ := hF.b1 G1.out
        go_simp
        with_reducible rfl
      refine And.intro ?_ ?_
      · refine Reg.ob_known (fun _ => rfl) rfl rfl (fun x w1 hF hU K hK => ?_)
        have HR := hF rfl
        go_simp
        refine (HV8.out _ _ (by omega) HR.at_).mono ?_
        rintro e w3 ⟨rfl, rfl⟩
        exact hK _ (fun h => by cases h) rfl
      refine And.intro ?_ ?_
      · refine Reg.ob_pure (fun _ => rfl) rfl rfl rfl rfl (fun x w1 hF => ?_)
        have c0_ := hF.b0 G0.out
        have c1_ := hF.b1 G1.out
        go_simp
        with_reducible rfl
      refine And.intro ?_ ?_
      · refine Reg.ob_pure (fun _ => rfl) rfl rfl rfl rfl (fun x w1 hF => ?_)
        have c0_ := hF.b0 G0.out
        have c1_ := hF.b1 G1.out
        go_simp
        with_reducible rfl
      refine And.intro ?_ ?_
      · refine Reg.ob_pure (fun _ => rfl) rfl rfl rfl rfl (fun x w1 hF => ?_)
        have c0_ := hF.b0 G0.out
        have c1_ := hF.b1 G1.out
        go_simp
        with_reducible rfl
      refine And.intro ?_ ?_
      · refine Reg.ob_pure (fun _ => rfl) rfl rfl rfl rfl (fun x w1 hF => ?_)
        have c0_ := hF.b0 G0.out
        have c1_ := hF.b1 G1.out
        go_simp
        with_reducible rfl
      refine And.intro ?_ ?_
      · refine Reg.ob_pure (fun _ => rfl) rfl rfl rfl rfl (fun x w1 hF => ?_)
        have c0_ := hF.b0 G0.out
        have c1_ := hF.b1 G1.out
        go_simp
        with_reducible rfl
      refine And.intro ?_ ?_
      · refine Reg.ob_pure (fun _ => rfl) rfl rfl rfl rfl (fun x w1 hF => ?_)
        have c0_ := hF.b0 G0.out
        have c1_ := hF.b1 G1.out
        go_simp
        with_reducible rfl
      refine And.intro ?_ ?_
      · refine Reg.ob_pure (fun _ => rfl) rfl rfl rfl rfl (fun x w1 hF => ?_)
        have c0_ := hF.b0 G0.out
        have c1_ := hF.b1 G1.out
        go_simp
        with_reducible rfl
      refine And.intro ?_ ?_
      · refine Reg.ob_pure (fun _ => rfl) rfl rfl rfl rfl (fun x w1 hF => ?_)
        have c0_ := hF.b0 G0.out
        have c1_ := hF.b1 G1.out
        go_simp
        with_reducible rfl
      refine And.intro ?_ ?_
      · refine Reg.ob_some (fun _ => rfl) rfl (fun x w1 hF hU K hK => ?_)
        go_simp
        exact hK _ _ (fun _ _ _ => (hF rfl).go ((Only.refl _ w1).alloc _)) ((Only.refl _ w1).alloc _) ⟨_, rfl, HSZ.out _ (hF rfl), Is.made _ _ _⟩
      refine And.intro ?_ ?_
      · refine Reg.ob_some (fun _ => rfl) rfl (fun x w1 hF hU K hK => ?_)
        obtain ⟨⟨pb, h27, hpb, hI⟩, -⟩ := hU
        have h27 : x 27 = .pointer (some ⟨pb, 0, none⟩) := h27
        refine wp_store_row 29 _ _ rfl pb #[.bool mk, .int .u8 (ty : Nat), .int .u16 (sq : Nat), .int .u32 (tm : Nat), .int .u32 (ss : Nat), .slice none 0 0, .bool hx, .int .u16 0, .slice none 0 0, .slice none 0 0, .int .u8 0] (by simpa [Act.eval] using h27) rfl 29 zeros hI Try.sizeRk rfl (by simp [Value.oneCell']) ?_
        have ho : Only (fun k => k = pb) w1 (w1.setRow pb #[.bool mk, .int .u8 (ty : Nat), .int .u16 (sq : Nat), .int .u32 (tm : Nat), .int .u32 (ss : Nat), .slice none 0 0, .bool hx, .int .u16 0, .slice none 0 0, .slice none 0 0, .int .u8 0]) := Only.setRow (S := fun k => k = pb) (Only.refl _ w1) (fun _ => rfl) _
        exact hK undef _ (fun _ _ _ => (hF rfl).own ho (by have := HGL.out; omega) (by have := HRB.out; omega) (by omega)) trivial ⟨pb, h27, hpb, hI.setRow _⟩
      exact trivial
    case hF =>
      exact R0.out.go ((Only.refl _ w0).drewN 1)
    case hini =>
      exact trivial
    case pres =>
      intro i hi j hj hc x w1 w2 hF hE hW
      simp only [List.mem_cons, List.mem_nil_iff, or_false] at hi hj
      rcases hj with rfl | rfl <;> rcases hi with rfl | rfl
      all_goals first
        | (exfalso; revert hc; decide)
        | (obtain ⟨pb, h27, hpb, hI⟩ := hW; exact ⟨pb, h27, hpb, Is.only hI hE (fun h => h)⟩)
    case fin =>
      rintro x w1 hF ⟨⟨pb, h27, hpb, hI⟩, -⟩
      replace hF := hF rfl
      have h27 : x 27 = .pointer (some ⟨pb, 0, none⟩) := h27
      rw [h27]
      go_wp2_with fail
      go_meet
      exact ⟨pb, rfl, hpb, hF, hI⟩

  case rest =>
    obtain ⟨pb, rfl, hpb, R1, I1⟩ := hcut
    have HPB := Lib.hid hpb
    have HR1 := Lib.hid R1
    have HI1 := Lib.hid I1
    clear R1 I1
    have wm4 : IntKind.i64.wrap (4 * (n : Int)) = 4 * (n : Int) := IntWalk.i64_in _ (by omega)
    have wm12 : IntKind.i64.wrap (12 + 4 * (n : Int)) = 12 + 4 * (n : Int) := IntWalk.i64_in _ (by omega)
    by_cases hcs : L < 12 + 4 * n
    · have zl : decide ((L : Int) < 12 + 4 * (n : Int)) = true := decide_eq_true (by omega)
      have he : parseErr bs = 10 := by rw [HPE.out, if_pos (by rw [List.length_drop, HL.out, HM.out]; omega)]
      go_wp2_with (refine wpList_store_is rfl 29 _ _ rfl rb zeros rfl rfl 29 zeros HR1.out.ans Try.sizeRk rfl (by simp [Value.oneCell', zeros]) ?_; intro w5 hi5 ho5)
      refine bodyPost_ret (results_is Try.results15 _ w5 rb 29 _ _ (.int .i64 10) rfl rfl hi5 Try.underlying29 rfl Try.sizeRk) rfl ?_
      exact got_err (k := 10) (Only.refl _ w) HR1.out.pure (by rw [HRB.out]; exact ho5) (by decide) he
    · have zl : decide ((L : Int) < 12 + 4 * (n : Int)) = false := decide_eq_false (by omega)
      have HCS := Lib.hid hcs
      go_wp2_with fail
      go_loopw [7] (fun s7 wr => ∃ (k : Nat) (vc : Value), k ≤ n ∧ s7 = .int .i64 k ∧ Rq w g o rb bs wr ∧ Is wr pb 29 #[.bool mk, .int .u8 (ty : Nat), .int .u16 (sq : Nat), .int .u32 (tm : Nat), .int .u32 (ss : Nat), vc, .bool hx, .int .u16 0, .slice none 0 0, .slice none 0 0, .int .u8 0] ∧ wr.ownsRow rb 26 1 vc k (cells32 (csrcOf (bs.drop 12) k))) (fun s7 _ => n - (intOf s7).toNat)
      case atStart => exact ⟨0, _, by omega, rfl, HR1.out, HI1.out, World.ownsRow_nil _ _ _ _⟩
      case round =>
        obtain ⟨k, vc, hk, rfl, hR, hI, hown⟩ := hrel
        obtain ⟨Ac, cc, rfl, _⟩ := own_slice hown
        have HR2 := Lib.hid hR
        have HI2 := Lib.hid hI
        have HW := Lib.hid hown
        clear hR hI hown
        by_cases hkn : k < n
        · obtain ⟨m, hm⟩ : ∃ m, 4 * k = m := ⟨_, rfl⟩
          obtain ⟨lo, hlo⟩ : ∃ m, 12 + 4 * k = m := ⟨_, rfl⟩
          obtain ⟨up, hup⟩ : ∃ m, 16 + 4 * k = m := ⟨_, rfl⟩
          have wk1 : IntKind.i64.wrap (4 * (k : Int)) = (m : Int) := by rw [IntWalk.i64_in _ (by omega)]; omega
          have wk2 : IntKind.i64.wrap (12 + (m : Int)) = (lo : Int) := by rw [IntWalk.i64_in _ (by omega)]; omega
          have wk3 : IntKind.i64.wrap (16 + (m : Int)) = (up : Int) := by rw [IntWalk.i64_in _ (by omega)]; omega
          have zk1 : (lo : Int) ≤ (up : Int) := by omega
          have zk2 : (up : Int) ≤ (c : Int) := by omega
          have zk3 : ¬ c = lo := by omega
          have zk4 : up - lo = 4 := by omega
          have zk5 : lo ≤ up := by omega
          have zk6 : up ≤ c := by omega
          have zk7 : decide ((k : Int) < (n : Int)) = true := decide_eq_true (by omega)
          have HVK0 := Lib.hid (fun wx q (hq : 4 ≤ q) hc => val_is bs g o lo 4 q wx hc HB.out (by omega) (by rw [HL.out]; omega) hq)
          have hvk := be4_lt bs lo HB.out (by rw [HL.out]; omega)
          have HCK0 : csrcOf (bs.drop 12) k ++ [be ((bs.drop lo).take 4)] = csrcOf (bs.drop 12) (k + 1) := by rw [csrcOf, List.drop_drop, ← hlo]
          obtain ⟨vk, hvk0⟩ : ∃ m, be ((bs.drop lo).take 4) = m := ⟨_, rfl⟩
          rw [hvk0] at HVK0 hvk HCK0
          have HVK := HVK0
          have HCK := Lib.hid HCK0
          have wvk : IntKind.u32.wrap (vk : Int) = vk := by rw [IntKind.wrap_u32]; omega
          clear HVK0 HCK0 hvk0
          go_upto_region 13 with (fail)
          refine wp_region_posts [[], [0], [], [], [3], [4, 3], [], [6], [7, 6], [2, 5, 8, 4, 3, 7, 6], [9, 2, 5, 8, 4, 3, 7, 6], [10, 9, 2, 5, 8, 4, 3, 7, 6], [11, 10, 9, 2, 5, 8, 4, 3, 7, 6], [1, 12, 10, 0, 11, 9, 2, 5, 8, 4, 3, 7, 6], [0, 1, 2, 3, 4, 5, 6, 7, 8, 9, 10, 11, 12, 13], [14, 13, 0, 1, 2, 3, 4, 5, 6, 7, 8, 9, 10, 11, 12]] [12, 13, 15] [12, 13, 15] [[], [], [], [], [], [], [], [], [], [], [], [], [], [12], [], [12, 13]] [[], [], [], [], [], [], [], [], [], [], [], [], [], [12], [], [13]] [15] [13] [14, 15] []
              [some ?vb0, some ?vb1, some ?vb2, some ?vb3, some ?vb4, some ?vb5, some ?vb6, some ?vb7, some ?vb8, some ?vb9, some (.int .u64 (vk : Nat)), some ?vb11, none, none, some ?vb14, none]
              ?Tb (fun wx => Rq w g o rb bs wx ∧ Is wx pb 29 #[.bool mk, .int .u8 (ty : Nat), .int .u16 (sq : Nat), .int .u32 (tm : Nat), .int .u32 (ss : Nat), .slice Ac k cc, .bool hx, .int .u16 0, .slice none 0 0, .slice none 0 0, .int .u8 0] ∧ wx.ownsRow rb 26 1 (.slice Ac k cc) k (cells32 (csrcOf (bs.drop 12) k))) ?Wb ?Eb (by kernel_rfl) (by kernel_rfl) (by kernel_rfl) (fun x => ?hTb) ?hFb ?hinib (Reg.all_ops ?runsb) ?presb ?finb
          case Wb => exact fun j x w' => match j with | 12 => ∃ q, x 12 = .slice (some ⟨q, 0, none⟩) 1 1 ∧ w'.cell? ⟨q, 0, none⟩ = some (.int .u32 (vk : Nat)) | 13 => (∃ A c, x 13 = .slice A (k + 1) c) ∧ Rq w g o rb bs w' ∧ Is w' pb 29 #[.bool mk, .int .u8 (ty : Nat), .int .u16 (sq : Nat), .int .u32 (tm : Nat), .int .u32 (ss : Nat), .slice Ac k cc, .bool hx, .int .u16 0, .slice none 0 0, .slice none 0 0, .int .u8 0] ∧ w'.ownsRow rb 26 1 (x 13) (k + 1) (cells32 (csrcOf (bs.drop 12) (k + 1))) | 15 => (∃ A c, x 13 = .slice A (k + 1) c) ∧ Rq w g o rb bs w' ∧ Is w' pb 29 #[.bool mk, .int .u8 (ty : Nat), .int .u16 (sq : Nat), .int .u32 (tm : Nat), .int .u32 (ss : Nat), x 13, .bool hx, .int .u16 0, .slice none 0 0, .slice none 0 0, .int .u8 0] ∧ w'.ownsRow rb 26 1 (x 13) (k + 1) (cells32 (csrcOf (bs.drop 12) (k + 1))) | _ => True
          case Eb => exact fun i w' w'' => match i with | 13 => True | 15 => True | _ => Only (fun _ => False) w' w''
          case hTb =>
            simp only [Reg.fillV, Act.put, List.setIfInBounds_toArray, List.set_cons_zero, List.set_cons_succ]
            rfl
          case runsb =>
            refine And.intro ?_ ?_
            · refine Reg.ob_pure (fun _ => rfl) rfl rfl rfl rfl (fun x w1 hF => ?_)
              obtain ⟨hR, hI, hO⟩ := hF
              have c5 := hI.cell 5
              simp at c5
              go_simp
              with_reducible rfl
            refine And.intro ?_ ?_
            · refine Reg.ob_pure (fun _ => rfl) rfl rfl rfl rfl (fun x w1 hF => ?_)
              obtain ⟨hR, hI, hO⟩ := hF
              have c5 := hI.cell 5
              simp at c5
              go_simp
              with_reducible rfl
            refine And.intro ?_ ?_
            · refine Reg.ob_pure (fun _ => rfl) rfl rfl rfl rfl (fun x w1 hF => ?_)
              obtain ⟨hR, hI, hO⟩ := hF
              have c5 := hI.cell 5
              simp at c5
              go_simp
              with_reducible rfl
            refine And.intro ?_ ?_
            · refine Reg.ob_pure (fun _ => rfl) rfl rfl rfl rfl (fun x w1 hF => ?_)
              obtain ⟨hR, hI, hO⟩ := hF
              have c5 := hI.cell 5
              simp at c5
              go_simp
              with_reducible rfl
            refine And.intro ?_ ?_
            · refine Reg.ob_pure (fun _ => rfl) rfl rfl rfl rfl (fun x w1 hF => ?_)
              obtain ⟨hR, hI, hO⟩ := hF
              have c5 := hI.cell 5
              simp at c5
              go_simp
              with_reducible rfl
            refine And.intro ?_ ?_
            · refine Reg.ob_pure (fun _ => rfl) rfl rfl rfl rfl (fun x w1 hF => ?_)
              obtain ⟨hR, hI, hO⟩ := hF
              have c5 := hI.cell 5
              simp at c5
              go_simp
              with_reducible rfl
            refine And.intro ?_ ?_
            · refine Reg.ob_pure (fun _ => rfl) rfl rfl rfl rfl (fun x w1 hF => ?_)
              obtain ⟨hR, hI, hO⟩ := hF
              have c5 := hI.cell 5
              simp at c5
              go_simp
              with_reducible rfl
            refine And.intro ?_ ?_
            · refine Reg.ob_pure (fun _ => rfl) rfl rfl rfl rfl (fun x w1 hF => ?_)
              obtain ⟨hR, hI, hO⟩ := hF
              have c5 := hI.cell 5
              simp at c5
              go_simp
              with_reducible rfl
            refine And.intro ?_ ?_
            · refine Reg.ob_pure (fun _ => rfl) rfl rfl rfl rfl (fun x w1 hF => ?_)
              obtain ⟨hR, hI, hO⟩ := hF
              have c5 := hI.cell 5
              simp at c5
              go_simp
              with_reducible rfl
            refine And.intro ?_ ?_
            · refine Reg.ob_pure (fun _ => rfl) rfl rfl rfl rfl (fun x w1 hF => ?_)
              obtain ⟨hR, hI, hO⟩ := hF
              have c5 := hI.cell 5
              simp at c5
              go_simp
              with_reducible rfl
            refine And.intro ?_ ?_
            · refine Reg.ob_known (fun _ => rfl) rfl rfl (fun x w1 hF hU K hK => ?_)
              obtain ⟨hR, hI, hO⟩ := hF rfl
              go_simp
              refine (HVK.out _ _ (by omega) hR.at_).mono ?_
              rintro e w3 ⟨rfl, rfl⟩
              exact hK _ (fun h => by cases h) rfl
            refine And.intro ?_ ?_
            · refine Reg.ob_pure (fun _ => rfl) rfl rfl rfl rfl (fun x w1 hF => ?_)
              obtain ⟨hR, hI, hO⟩ := hF
              have c5 := hI.cell 5
              simp at c5
              go_simp
              with_reducible rfl
            refine And.intro ?_ ?_
            · refine Reg.ob_some (fun _ => rfl) rfl (fun x w1 hF hU K hK => ?_)
              obtain ⟨hR, hI, hO⟩ := hF rfl
              go_simp
              exact hK _ _ (fun _ _ _ => ⟨hR.go ((Only.refl _ w1).alloc _), hI.only ((Only.refl (fun _ => False) w1).alloc _) (by simp), own_only hO ((Only.refl (fun _ => False) w1).alloc _) (by simp)⟩) ((Only.refl _ w1).alloc _) ⟨_, rfl, (Is.made w1 26 #[.int .u32 (vk : Nat)]).cell 0⟩
            refine And.intro ?_ ?_
            · refine Reg.ob_some (fun _ => rfl) rfl (fun x w1 hF hU K hK => ?_)
              obtain ⟨hR, hI, hO⟩ := hF rfl
              obtain ⟨⟨q, h12, hq⟩, -⟩ := hU
              have h12 : x 12 = .slice (some ⟨q, 0, none⟩) 1 1 := h12
              refine app32m w1 _ _ rfl rb (.slice Ac k cc) (csrcOf (bs.drop 12) k) rfl (by rw [csrcOf_length]; exact hO) q vk 1 (by simpa [Act.eval] using h12) hq (by rw [csrcOf_length]; omega) (Nat.le_trans (Nat.le_of_eq HRB.out.symm) hR.pure.size) ?_
              intro v' w3 hv hg
              rw [csrcOf_length, HCK.out] at hv
              have ho : Only (fun i => (Value.slice Ac k cc).ownBlock = some i) w1 w3 := (Only.refl _ w1).grown hg (fun i hi _ => hi)
              obtain ⟨A1, k1, rfl, _⟩ := own_slice hv
              exact hK _ w3 (fun _ h _ => by cases h) trivial ⟨⟨A1, k1, rfl⟩, ⟨fun i hi => by rw [ho.cell (World.block_lt_of_cell? w1 _ (hR.at_ i hi)) (own_above hO HGL.out)]; exact hR.at_ i hi, hR.ans.only ho (row_apart hR.ans hO (by decide)), hR.pure.trans ho (fun i hi e => own_above hO (by have := HRB.out; omega) e)⟩, hI.only ho (row_apart hI hO (by decide)), hv⟩
            refine And.intro ?_ ?_
            · refine Reg.ob_bare (fun _ => rfl) rfl rfl rfl (fun x w1 => ?_)
              go_simp
              with_reducible rfl
            refine And.intro ?_ ?_
            · refine Reg.ob_some (fun _ => rfl) rfl (fun x w1 hF hU K hK => ?_)
              obtain ⟨⟨⟨A1, k1, h13⟩, hR, hI, hO⟩, -⟩ := hU
              have h13 : x 13 = .slice A1 (k + 1) k1 := h13
              have hO : w1.ownsRow rb 26 1 (x 13) (k + 1) (cells32 (csrcOf (bs.drop 12) (k + 1))) := hO
              have hf := hI.free 5
              have c5 := hI.cell 5
              simp at c5
              revert hK
              simp only [Nat.reduceAdd, h13]
              intro hK
              go_simp
              have hO' : Only (fun j => j = pb) w1 (w1.setCell ⟨pb, 5, none⟩ (.slice A1 (k + 1) k1)) := Only.set (S := fun j => j = pb) (p := ⟨pb, 5, none⟩) (Only.refl _ w1) (fun _ => rfl) _
              refine hK undef _ (fun _ _ h => by cases h) trivial ⟨⟨A1, k1, h13⟩, hR.own hO' (by have := HGL.out; omega) (by have := HRB.out; omega) (by omega), ?_, ?_⟩
              · have hJ : Is (w1.setCell ⟨pb, 5, none⟩ (.slice A1 (k + 1) k1)) pb 29 #[.bool mk, .int .u8 (ty : Nat), .int .u16 (sq : Nat), .int .u32 (tm : Nat), .int .u32 (ss : Nat), x 13, .bool hx, .int .u16 0, .slice none 0 0, .slice none 0 0, .int .u8 0] := by rw [h13]; exact hI.put 5 _
                exact hJ
              · have hu : (w1.setCell ⟨pb, 5, none⟩ (.slice A1 (k + 1) k1)).ownsRow rb 26 1 (x 13) (k + 1) (cells32 (csrcOf (bs.drop 12) (k + 1))) := own_only hO hO' (fun q hq e => row_apart hI hO (by decide) (by rw [← e]; exact hq))
                exact hu
            exact trivial
          case hFb =>
            exact ⟨HR2.out.go ((Only.refl _ wr).drewN 1), HI2.out.only ((Only.refl (fun _ => False) wr).drewN 1) (by simp), own_only HW.out ((Only.refl (fun _ => False) wr).drewN 1) (by simp)⟩
          case hinib =>
            exact trivial
          case presb =>
            intro i hi j hj hc x w1 w2 hF hE hW
            simp only [List.mem_cons, List.mem_nil_iff, or_false] at hi hj
            rcases hj with rfl | rfl | rfl <;> rcases hi with rfl | rfl | rfl
            all_goals (exfalso; revert hc; decide)
          case finb =>
            rintro x w1 - ⟨⟨⟨A1, k1, h13⟩, hR, hI, hO⟩, -⟩
            have h13 : x 13 = .slice A1 (k + 1) k1 := h13
            have hO : w1.ownsRow rb 26 1 (x 13) (k + 1) (cells32 (csrcOf (bs.drop 12) (k + 1))) := hO
            have hI : Is w1 pb 29 #[.bool mk, .int .u8 (ty : Nat), .int .u16 (sq : Nat), .int .u32 (tm : Nat), .int .u32 (ss : Nat), x 13, .bool hx, .int .u16 0, .slice none 0 0, .slice none 0 0, .int .u8 0] := hI
            simp only [Nat.reduceAdd, h13] at hO hI ⊢
            have HX1 := Lib.hid hR
            have HX2 := Lib.hid hI
            have HX3 := Lib.hid hO
            clear hR hI hO h13
            go_wp2_with fail
            go_roundw
            case rel => exact ⟨k + 1, _, by omega, by go_num, HX1.out, HX2.out, HX3.out⟩
            case measure => simp [intOf]; omega

        · obtain rfl : k = n := by omega
          have zk7 : decide ((k : Int) < (k : Int)) = false := decide_eq_false (by omega)
          obtain ⟨p, hp0⟩ : ∃ p, 12 + 4 * k = p := ⟨_, rfl⟩
          have HR1E := Lib.hid (show rest1 bs = bs.drop p from by unfold rest1; rw [HM.out, List.drop_drop, hp0])
          have HC1 := Lib.hid (show ¬ (bs.drop 12).length < 4 * many bs from by rw [List.length_drop, HL.out, HM.out]; omega)
          have ep : (12 : Int) + 4 * (k : Int) = (p : Int) := by omega
          rw [ep]
          have hpL : p ≤ L := by omega
          clear hcs hkn wm4 wm12 zl
          have c6 := HI2.out.cell 6
          simp at c6
          obtain ⟨ex, hex⟩ : ∃ e, be ((bs.drop (p + 2)).take 2) = e := ⟨_, rfl⟩
          have HEX := Lib.hid (show extEnd (bs.drop p) = 4 + 4 * ex from by unfold extEnd; rw [List.drop_drop, hex])
          obtain ⟨p2, hp2⟩ : ∃ m, p + 2 = m := ⟨_, rfl⟩
          obtain ⟨p4, hp4⟩ : ∃ m, p + 4 = m := ⟨_, rfl⟩
          have wp2 : IntKind.i64.wrap ((p : Int) + 2) = (p2 : Int) := by rw [IntWalk.i64_in _ (by omega)]; omega
          have wp4 : IntKind.i64.wrap ((p : Int) + 4) = (p4 : Int) := by rw [IntWalk.i64_in _ (by omega)]; omega
          by_cases hxa : hx = true ∧ L < p4
          · obtain ⟨rfl, hbad⟩ := hxa
            have he : parseErr bs = 10 := by rw [HPE.out, if_neg HC1.out, if_pos (by unfold extBad; rw [HHX.out, HR1E.out, List.length_drop, HL.out, decide_eq_true (by omega : L - p < 4)]; rfl)]
            have zl : (L : Int) < (p4 : Int) := by omega
            clear hex hp2 hp4 hbad
            go_wp2_with (refine wpList_store_is rfl 29 _ _ rfl rb zeros rfl rfl 29 zeros HR2.out.ans Try.sizeRk rfl (by simp [Value.oneCell', zeros]) ?_; intro w5 hi5 ho5)
            refine bodyPost_ret (results_is Try.results15 _ w5 rb 29 _ _ (.int .i64 10) rfl rfl hi5 Try.underlying29 rfl Try.sizeRk) rfl ?_
            exact got_err (k := 10) (Only.refl _ w) HR2.out.pure (by rw [HRB.out]; exact ho5) (by decide) he
          · obtain ⟨q, hq⟩ : ∃ m, p4 + 4 * ex = m := ⟨_, rfl⟩
            have HVX : p4 ≤ L → Hid (∀ wx z (hz : 2 ≤ z) (hc : ∀ j (hj : j < bs.length), wx.cell? ⟨g, o + j, none⟩ = some (.int .u8 (bs[j] : Int))), Calls Try.prog 53 #[.slice (some ⟨g, o + p2, none⟩) 2 z] wx fun e w' => e = .returned (.int .u64 (ex : Nat)) ∧ wx = w') := fun h4 => Lib.hid (fun wx z hz hc => by have := val_is bs g o p2 2 z wx hc HB.out (by omega) (by rw [HL.out]; omega) hz; rw [← hp2, hex] at this; rw [← hp2]; exact this)
            have hexl : p4 ≤ L → ex < 65536 := fun h4 => by rw [← hex]; exact be2_lt bs (p + 2) HB.out (by rw [HL.out]; omega)
            by_cases hxb : hx = true ∧ L < q
            · obtain ⟨rfl, hbad⟩ := hxb
              have h4L : p4 ≤ L := Nat.le_of_not_lt (fun hh => hxa ⟨rfl, hh⟩)
              have HVX := HVX h4L
              have hexl := hexl h4L
              have he : parseErr bs = 10 := by rw [HPE.out, if_neg HC1.out, if_pos (by unfold extBad; rw [HHX.out, HR1E.out, HEX.out, List.length_drop, HL.out, decide_eq_true (by omega : L - p < 4 + 4 * ex)]; simp)]
              obtain ⟨m4, hm4⟩ : ∃ m, 4 * ex = m := ⟨_, rfl⟩
              have wx1 : IntKind.i64.wrap (ex : Int) = ex := IntWalk.i64_in _ (by omega)
              have wx2 : IntKind.i64.wrap (4 * (ex : Int)) = (m4 : Int) := by rw [IntWalk.i64_in _ (by omega)]; omega
              have wx3 : IntKind.i64.wrap ((p4 : Int) + (m4 : Int)) = (q : Int) := by rw [IntWalk.i64_in _ (by omega)]; omega
              have zx1 : (p2 : Int) ≤ (p4 : Int) := by omega
              have zx2 : (p4 : Int) ≤ (c : Int) := by omega
              have zx3 : ¬ c = p2 := by omega
              have zx4 : p4 - p2 = 2 := by omega
              have zx5 : 2 ≤ c - p2 := by omega
              have zl : decide ((L : Int) < (p4 : Int)) = false := decide_eq_false (by omega)
              have zl2 : (L : Int) < (q : Int) := by omega
              clear hex hp2 hp4 hbad hq hm4 h4L hxa
              go_wp2_with (first | (go_at_call 53; refine (HVX.out _ _ zx5 HR2.out.at_).mono ?_; rintro e wy ⟨rfl, rfl⟩) | (refine wpList_store_is rfl 29 _ _ rfl rb zeros rfl rfl 29 zeros HR2.out.ans Try.sizeRk rfl (by simp [Value.oneCell', zeros]) ?_; intro w5 hi5 ho5))
              all_goals
                refine bodyPost_ret (results_is Try.results15 _ w5 rb 29 _ _ (.int .i64 10) rfl rfl hi5 Try.underlying29 rfl Try.sizeRk) rfl ?_
                exact got_err (k := 10) (Only.refl _ w) HR2.out.pure (by rw [HRB.out]; exact ho5) (by decide) he
            · have HXA := Lib.hid hxa
              have HXB := Lib.hid hxb
              have HVX := Lib.hid HVX
              have HEXL := Lib.hid hexl
              have HQ := Lib.hid hq
              have HP2 := Lib.hid hp2
              have HP4 := Lib.hid hp4
              have HEXX := Lib.hid hex
              have hp2p : p2 = p + 2 := hp2.symm
              have hlp2 : p + 2 = p2 := hp2
              clear hxa hxb hexl hq hp2 hp4 hex hp2p hlp2
              go_upto_if 81 with (fail)
              go_cut [6] (fun s6 wx => ∃ (at_ : Nat) (ve : Value), s6 = .int .i64 at_ ∧ at_ ≤ L ∧ rest2 bs = bs.drop at_ ∧ extBad bs = false ∧ Rq w g o rb bs wx ∧ Is wx pb 29 #[.bool mk, .int .u8 (ty : Nat), .int .u16 (sq : Nat), .int .u32 (tm : Nat), .int .u32 (ss : Nat), .slice Ac k cc, .bool hx, .int .u16 (profs bs : Nat), ve, .slice none 0 0, .int .u8 0] ∧ wx.ownsRow rb 26 1 (.slice Ac k cc) k (cells32 (csrcOf (bs.drop 12) k)) ∧ wx.ownsRow rb 5 1 ve (exts bs).length (cellsOf (exts bs)))
              case first =>
                cases hx
                · go_wp2_with fail
                  go_meet
                  have e0 : exts bs = [] := exts_false bs HHX.out
                  have e1 : profs bs = 0 := by simp [profs, HHX.out]
                  refine ⟨p, .slice none 0 0, rfl, hpL, by rw [rest2_false bs HHX.out, HR1E.out], by simp [extBad, HHX.out], HR2.out, ?_, HW.out, ?_⟩
                  · rw [e1]
                    exact HI2.out
                  · rw [e0]
                    exact World.ownsRow_nil _ _ _ _
                · have h4L : p4 ≤ L := Nat.le_of_not_lt (fun hh => HXA.out ⟨rfl, hh⟩)
                  have hqL : q ≤ L := Nat.le_of_not_lt (fun hh => HXB.out ⟨rfl, hh⟩)
                  have HVX := HVX.out h4L
                  have hexl := HEXL.out h4L
                  have hq := HQ.out
                  have hp2 := HP2.out
                  have hp4 := HP4.out
                  obtain ⟨m4, hm4⟩ : ∃ m, 4 * ex = m := ⟨_, rfl⟩
                  have wx1 : IntKind.i64.wrap (ex : Int) = ex := IntWalk.i64_in _ (by omega)
                  have wx2 : IntKind.i64.wrap (4 * (ex : Int)) = (m4 : Int) := by rw [IntWalk.i64_in _ (by omega)]; omega
                  have wx3 : IntKind.i64.wrap ((p4 : Int) + (m4 : Int)) = (q : Int) := by rw [IntWalk.i64_in _ (by omega)]; omega
                  have zx1 : (p2 : Int) ≤ (p4 : Int) := by omega
                  have zx2 : (p4 : Int) ≤ (c : Int) := by omega
                  have zx3 : ¬ c = p2 := by omega
                  have zx4 : p4 - p2 = 2 := by omega
                  have zx5 : 2 ≤ c - p2 := by omega
                  have zl : decide ((L : Int) < (p4 : Int)) = false := decide_eq_false (by omega)
                  have zl2 : decide ((L : Int) < (q : Int)) = false := decide_eq_false (by omega)
                  have zp1 : (p : Int) ≤ (p2 : Int) := by omega
                  have zp2 : (p2 : Int) ≤ (c : Int) := by omega
                  have zp3 : ¬ c = p := by omega
                  have zp4 : p2 - p = 2 := by omega
                  have zp5 : 2 ≤ c - p := by omega
                  have HVP0 := (fun wx z (hz : 2 ≤ z) hc => val_is bs g o p 2 z wx hc HB.out (by omega) (by rw [HL.out]; omega) hz)
                  have hprl := be2_lt bs p HB.out (by rw [HL.out]; omega)
                  have EPR0 : profs bs = be ((bs.drop p).take 2) := by rw [profs_true bs HHX.out, HR1E.out]
                  have EXT0 : exts bs = (bs.drop p4).take m4 := by rw [exts_true bs HHX.out, HR1E.out, HEX.out, List.drop_drop, hp4, hm4]; congr 1; omega
                  obtain ⟨pr, hpr⟩ : ∃ m, be ((bs.drop p).take 2) = m := ⟨_, rfl⟩
                  rw [hpr] at HVP0 hprl EPR0
                  have HVP := Lib.hid HVP0
                  have EPR := Lib.hid EPR0
                  have EXT := Lib.hid EXT0
                  have XL := Lib.hid (show (exts bs).length = m4 from by rw [EXT0, List.length_take, List.length_drop, HL.out]; omega)
                  have wpr : IntKind.u16.wrap (pr : Int) = pr := by rw [IntKind.wrap_u16]; omega
                  have hqm : p4 + m4 = q := by omega
                  have zq1 : (p4 : Int) ≤ (q : Int) := by omega
                  have zq2 : (q : Int) ≤ (c : Int) := by omega
                  have zq3 : q - p4 = m4 := by omega
                  have HQM := Lib.hid hqm
                  clear HVP0 hpr EPR0 EXT0 hm4 hq hp2 hp4 hexl
                  have HZ := Lib.hid zq3
                  clear zq3 hqm
                  have hf7 := HI2.out.free 7
                  have c7 := HI2.out.cell 7
                  simp at c7
                  go_upto_region 18 with (first | (go_at_call 53; refine (HVX.out _ _ zx5 HR2.out.at_).mono ?_; rintro e wy ⟨rfl, rfl⟩))
                  go_upto_region 19 with (first | (go_at_call 53; refine (HVP.out _ _ zp5 HR2.out.at_).mono ?_; rintro e wy ⟨rfl, rfl⟩))
                  clear hf7 c7
                  have hIz := HI2.out.put 7 (.int .u16 (pr : Nat))
                  have hOz : Only (fun j => j = pb) wr (wr.setCell ⟨pb, 7, none⟩ (.int .u16 (pr : Nat))) := Only.set (S := fun j => j = pb) (p := ⟨pb, 7, none⟩) (Only.refl _ wr) (fun _ => rfl) _
                  have hRz := HR2.out.own hOz (by have := HGL.out; have := HPB.out; omega) (by have := HRB.out; have := HPB.out; omega) (by have := HPB.out; omega)
                  have hWz := own_only HW.out hOz (fun q hq e => row_apart HI2.out HW.out (by decide) (by rw [← e]; exact hq))
                  generalize World.setCell wr _ _ = wz at *
                  have HRZ := Lib.hid hRz
                  have HIZ := Lib.hid (show Is wz pb 29 #[.bool mk, .int .u8 (ty : Nat), .int .u16 (sq : Nat), .int .u32 (tm : Nat), .int .u32 (ss : Nat), .slice Ac k cc, .bool true, .int .u16 (pr : Nat), .slice none 0 0, .slice none 0 0, .int .u8 0] from hIz)
                  have HWZ := Lib.hid hWz
                  clear hRz hIz hWz hOz
                  have HSRC := Lib.hid (show ∀ wx A, Rq w g o rb bs wx → ((c = p4 ∧ A = ⟨g, o, none⟩) ∨ A = ⟨g, o + p4, none⟩) → Src wx (.slice (some A) m4 (c - p4)) (exts bs) from by
                    intro wx A hR hA
                    rw [EXT.out]
                    rcases hA with ⟨hcp, rfl⟩ | rfl
                    · exact src_nil rfl (by have := HQM.out; omega) (List.length_eq_zero_iff.1 (by rw [List.length_take, List.length_drop, HL.out]; omega))
                    · exact src_cut (c := 0) p4 m4 hR.at_ (by rw [HL.out]; have := HQM.out; omega) rfl (by have := HQM.out; omega))
                  have zq3 := HZ.out
                  by_cases hcap : c = p4
                  · subst hcap
                    have e1 : c = q := by have := HQM.out; omega
                    subst e1
                    have e2 : 0 = m4 := by have := HQM.out; omega
                    subst e2
                    clear zq3 zq1
                    refine wp_region_posts [[], [0], [], [], [3], [], [2, 4, 5, 3], [1, 6, 0, 2, 4, 5, 3], [0, 1, 2, 3, 4, 5, 6, 7], [8, 7, 0, 1, 2, 3, 4, 5, 6]] [7, 9] [7, 9] [[], [], [], [], [], [], [], [], [], [7]] [[], [], [], [], [], [], [], [], [], [7]] [9] [9] [8] []
                        [some ?vea0, some ?vea1, some ?vea2, some ?vea3, some ?vea4, some ?vea5, some ?vea6, none, some ?vea8, none]
                        ?Tea (fun wx => Rq w g o rb bs wx ∧ Is wx pb 29 #[.bool mk, .int .u8 (ty : Nat), .int .u16 (sq : Nat), .int .u32 (tm : Nat), .int .u32 (ss : Nat), .slice Ac k cc, .bool true, .int .u16 (pr : Nat), .slice none 0 0, .slice none 0 0, .int .u8 0] ∧ wx.ownsRow rb 26 1 (.slice Ac k cc) k (cells32 (csrcOf (bs.drop 12) k))) ?Wea ?Eea (by kernel_rfl) (by kernel_rfl) (by kernel_rfl) (fun x => ?hTea) ?hFea ?hiniea (Reg.all_ops ?runsea) ?presea ?finea
                    case Wea => exact fun j x w' => match j with | 7 => (∃ A c, x 7 = .slice A 0 c) ∧ w'.ownsRow rb 5 1 (x 7) 0 (cellsOf (exts bs)) | 9 => (∃ A c, x 7 = .slice A 0 c) ∧ w'.ownsRow rb 5 1 (x 7) 0 (cellsOf (exts bs)) ∧ Rq w g o rb bs w' ∧ Is w' pb 29 #[.bool mk, .int .u8 (ty : Nat), .int .u16 (sq : Nat), .int .u32 (tm : Nat), .int .u32 (ss : Nat), .slice Ac k cc, .bool true, .int .u16 (pr : Nat), x 7, .slice none 0 0, .int .u8 0] ∧ w'.ownsRow rb 26 1 (.slice Ac k cc) k (cells32 (csrcOf (bs.drop 12) k)) | _ => True
                    case Eea => exact fun i w' w'' => True
                    case hTea =>
                      simp only [Reg.fillV, Act.put, List.setIfInBounds_toArray, List.set_cons_zero, List.set_cons_succ]
                      rfl
                    case runsea =>
                      refine And.intro ?_ ?_
                      · refine Reg.ob_pure (fun _ => rfl) rfl rfl rfl rfl (fun x w1 hF => ?_)
                        obtain ⟨hR, hI, hC⟩ := hF
                        have c8 := hI.cell 8
                        simp at c8
                        go_simp
                        with_reducible rfl
                      refine And.intro ?_ ?_
                      · refine Reg.ob_pure (fun _ => rfl) rfl rfl rfl rfl (fun x w1 hF => ?_)
                        obtain ⟨hR, hI, hC⟩ := hF
                        have c8 := hI.cell 8
                        simp at c8
                        go_simp
                        with_reducible rfl
                      refine And.intro ?_ ?_
                      · refine Reg.ob_pure (fun _ => rfl) rfl rfl rfl rfl (fun x w1 hF => ?_)
                        obtain ⟨hR, hI, hC⟩ := hF
                        have c8 := hI.cell 8
                        simp at c8
                        go_simp
                        with_reducible rfl
                      refine And.intro ?_ ?_
                      · refine Reg.ob_pure (fun _ => rfl) rfl rfl rfl rfl (fun x w1 hF => ?_)
                        obtain ⟨hR, hI, hC⟩ := hF
                        have c8 := hI.cell 8
                        simp at c8
                        go_simp
                        with_reducible rfl
                      refine And.intro ?_ ?_
                      · refine Reg.ob_pure (fun _ => rfl) rfl rfl rfl rfl (fun x w1 hF => ?_)
                        obtain ⟨hR, hI, hC⟩ := hF
                        have c8 := hI.cell 8
                        simp at c8
                        go_simp
                        with_reducible rfl
                      refine And.intro ?_ ?_
                      · refine Reg.ob_pure (fun _ => rfl) rfl rfl rfl rfl (fun x w1 hF => ?_)
                        obtain ⟨hR, hI, hC⟩ := hF
                        have c8 := hI.cell 8
                        simp at c8
                        go_simp
                        with_reducible rfl
                      refine And.intro ?_ ?_
                      · refine Reg.ob_pure (fun _ => rfl) rfl rfl rfl rfl (fun x w1 hF => ?_)
                        obtain ⟨hR, hI, hC⟩ := hF
                        have c8 := hI.cell 8
                        simp at c8
                        go_simp
                        with_reducible rfl
                      refine And.intro ?_ ?_
                      · refine Reg.ob_some (fun _ => rfl) rfl (fun x w1 hF hU K hK => ?_)
                        obtain ⟨hR, hI, hC⟩ := hF rfl
                        refine wp_append_src w1 (.tmp 126) (.tmp 131) rfl rb (.slice none 0 0) [] rfl (World.ownsRow_nil _ _ _ _) _ (exts bs) rfl (src_nil rfl rfl (List.length_eq_zero_iff.1 XL.out)) (by rw [XL.out]; simp <;> omega) (Nat.le_trans (Nat.le_of_eq HRB.out.symm) hR.pure.size) ?_
                        intro v' w' hown hg
                        have ho : Only (fun _ => False) w1 w' := (Only.refl _ w1).grown hg (fun i hi _ => by simp [Value.ownBlock] at hi)
                        have hown' : w'.ownsRow rb 5 1 v' 0 (cellsOf (exts bs)) := by rw [XL.out] at hown; simpa [cellsOf] using hown
                        obtain ⟨A1, k1, rfl, -⟩ := own_slice hown'
                        exact hK _ w' (fun _ _ _ => ⟨hR.go ho, hI.only ho (by simp), own_only hC ho (by simp)⟩) trivial ⟨⟨A1, k1, rfl⟩, hown'⟩
                      refine And.intro ?_ ?_
                      · refine Reg.ob_bare (fun _ => rfl) rfl rfl rfl (fun x w1 => ?_)
                        go_simp
                        with_reducible rfl
                      refine And.intro ?_ ?_
                      · refine Reg.ob_some (fun _ => rfl) rfl (fun x w1 hF hU K hK => ?_)
                        obtain ⟨hR, hI, hC⟩ := hF rfl
                        obtain ⟨⟨⟨A1, k1, h7⟩, hown⟩, -⟩ := hU
                        have h7 : x 7 = .slice A1 0 k1 := h7
                        have hown : w1.ownsRow rb 5 1 (x 7) 0 (cellsOf (exts bs)) := hown
                        have hf := hI.free 8
                        have c8 := hI.cell 8
                        simp at c8
                        revert hK
                        have EZ : ((0 : Nat) : Int) = 0 := rfl
                        simp only [Nat.reduceAdd, Nat.sub_self, h7, zx4, EZ]
                        intro hK
                        go_simp
                        have hO' : Only (fun j => j = pb) w1 (w1.setCell ⟨pb, 8, none⟩ (.slice A1 0 k1)) := Only.set (S := fun j => j = pb) (p := ⟨pb, 8, none⟩) (Only.refl _ w1) (fun _ => rfl) _
                        refine hK undef _ (fun _ h _ => by cases h) trivial ⟨⟨A1, k1, h7⟩, ?_, hR.own hO' (by have := HGL.out; have := HPB.out; omega) (by have := HRB.out; have := HPB.out; omega) (by have := HPB.out; omega), ?_, ?_⟩
                        · have hu : (w1.setCell ⟨pb, 8, none⟩ (.slice A1 0 k1)).ownsRow rb 5 1 (x 7) 0 (cellsOf (exts bs)) := own_only hown hO' (fun c hq e => row_apart hI hown (by decide) (by rw [← e]; exact hq))
                          exact hu
                        · have hJ : Is (w1.setCell ⟨pb, 8, none⟩ (.slice A1 0 k1)) pb 29 #[.bool mk, .int .u8 (ty : Nat), .int .u16 (sq : Nat), .int .u32 (tm : Nat), .int .u32 (ss : Nat), .slice Ac k cc, .bool true, .int .u16 (pr : Nat), x 7, .slice none 0 0, .int .u8 0] := by rw [h7]; exact hI.put 8 _
                          exact hJ
                        · have hu : (w1.setCell ⟨pb, 8, none⟩ (.slice A1 0 k1)).ownsRow rb 26 1 (.slice Ac k cc) k (cells32 (csrcOf (bs.drop 12) k)) := own_only hC hO' (fun c hq e => row_apart hI hC (by decide) (by rw [← e]; exact hq))
                          exact hu
                      exact trivial
                    case hFea =>
                      exact ⟨HRZ.out.go ((Only.refl _ wz).drewN 1), HIZ.out.only ((Only.refl (fun _ => False) wz).drewN 1) (by simp), own_only HWZ.out ((Only.refl (fun _ => False) wz).drewN 1) (by simp)⟩
                    case hiniea =>
                      exact trivial
                    case presea =>
                      intro i hi j hj hc x w1 w2 hF hE hW
                      simp only [List.mem_cons, List.mem_nil_iff, or_false] at hi hj
                      rcases hj with rfl | rfl <;> rcases hi with rfl | rfl
                      all_goals (exfalso; revert hc; decide)
                    case finea =>
                      rintro x w1 - ⟨⟨⟨A1, k1, h7⟩, hown, hR, hI, hC⟩, -⟩
                      have h7 : x 7 = .slice A1 0 k1 := h7
                      have hown : w1.ownsRow rb 5 1 (x 7) 0 (cellsOf (exts bs)) := hown
                      have hI : Is w1 pb 29 #[.bool mk, .int .u8 (ty : Nat), .int .u16 (sq : Nat), .int .u32 (tm : Nat), .int .u32 (ss : Nat), .slice Ac k cc, .bool true, .int .u16 (pr : Nat), x 7, .slice none 0 0, .int .u8 0] := hI
                      simp only [Nat.reduceAdd, h7] at hown hI ⊢
                      have HX1 := Lib.hid hR
                      have HX2 := Lib.hid hI
                      have HX3 := Lib.hid hC
                      have HX4 := Lib.hid hown
                      clear hR hI hC hown h7
                      go_wp2_with fail
                      go_meet
                      refine ⟨c, .slice A1 0 k1, rfl, hqL, by rw [rest2_true bs HHX.out, HR1E.out, HEX.out, List.drop_drop]; congr 1; have := HQ.out; have := HP4.out; omega, ?_, HX1.out, ?_, HX3.out, ?_⟩
                      · unfold extBad
                        rw [HHX.out, HR1E.out, HEX.out, List.length_drop, HL.out]
                        have := HQ.out
                        have := HP4.out
                        simp
                        omega
                      · rw [EPR.out]
                        exact HX2.out
                      · rw [XL.out]
                        exact HX4.out

                  · have HCAP := Lib.hid hcap
                    refine wp_region_posts [[], [0], [], [], [3], [], [2, 4, 5, 3], [1, 6, 0, 2, 4, 5, 3], [0, 1, 2, 3, 4, 5, 6, 7], [8, 7, 0, 1, 2, 3, 4, 5, 6]] [7, 9] [7, 9] [[], [], [], [], [], [], [], [], [], [7]] [[], [], [], [], [], [], [], [], [], [7]] [9] [9] [8] []
                        [some ?veb0, some ?veb1, some ?veb2, some ?veb3, some ?veb4, some ?veb5, some ?veb6, none, some ?veb8, none]
                        ?Teb (fun wx => Rq w g o rb bs wx ∧ Is wx pb 29 #[.bool mk, .int .u8 (ty : Nat), .int .u16 (sq : Nat), .int .u32 (tm : Nat), .int .u32 (ss : Nat), .slice Ac k cc, .bool true, .int .u16 (pr : Nat), .slice none 0 0, .slice none 0 0, .int .u8 0] ∧ wx.ownsRow rb 26 1 (.slice Ac k cc) k (cells32 (csrcOf (bs.drop 12) k))) ?Web ?Eeb (by kernel_rfl) (by kernel_rfl) (by kernel_rfl) (fun x => ?hTeb) ?hFeb ?hinieb (Reg.all_ops ?runseb) ?preseb ?fineb
                    case Web => exact fun j x w' => match j with | 7 => (∃ A c, x 7 = .slice A m4 c) ∧ w'.ownsRow rb 5 1 (x 7) m4 (cellsOf (exts bs)) | 9 => (∃ A c, x 7 = .slice A m4 c) ∧ w'.ownsRow rb 5 1 (x 7) m4 (cellsOf (exts bs)) ∧ Rq w g o rb bs w' ∧ Is w' pb 29 #[.bool mk, .int .u8 (ty : Nat), .int .u16 (sq : Nat), .int .u32 (tm : Nat), .int .u32 (ss : Nat), .slice Ac k cc, .bool true, .int .u16 (pr : Nat), x 7, .slice none 0 0, .int .u8 0] ∧ w'.ownsRow rb 26 1 (.slice Ac k cc) k (cells32 (csrcOf (bs.drop 12) k)) | _ => True
                    case Eeb => exact fun i w' w'' => True
                    case hTeb =>
                      simp only [Reg.fillV, Act.put, List.setIfInBounds_toArray, List.set_cons_zero, List.set_cons_succ]
                      rfl
                    case runseb =>
                      refine And.intro ?_ ?_
                      · refine Reg.ob_pure (fun _ => rfl) rfl rfl rfl rfl (fun x w1 hF => ?_)
                        obtain ⟨hR, hI, hC⟩ := hF
                        have c8 := hI.cell 8
                        simp at c8
                        go_simp
                        with_reducible rfl
                      refine And.intro ?_ ?_
                      · refine Reg.ob_pure (fun _ => rfl) rfl rfl rfl rfl (fun x w1 hF => ?_)
                        obtain ⟨hR, hI, hC⟩ := hF
                        have c8 := hI.cell 8
                        simp at c8
                        go_simp
                        with_reducible rfl
                      refine And.intro ?_ ?_
                      · refine Reg.ob_pure (fun _ => rfl) rfl rfl rfl rfl (fun x w1 hF => ?_)
                        obtain ⟨hR, hI, hC⟩ := hF
                        have c8 := hI.cell 8
                        simp at c8
                        go_simp
                        with_reducible rfl
                      refine And.intro ?_ ?_
                      · refine Reg.ob_pure (fun _ => rfl) rfl rfl rfl rfl (fun x w1 hF => ?_)
                        obtain ⟨hR, hI, hC⟩ := hF
                        have c8 := hI.cell 8
                        simp at c8
                        go_simp
                        with_reducible rfl
                      refine And.intro ?_ ?_
                      · refine Reg.ob_pure (fun _ => rfl) rfl rfl rfl rfl (fun x w1 hF => ?_)
                        obtain ⟨hR, hI, hC⟩ := hF
                        have c8 := hI.cell 8
                        simp at c8
                        go_simp
                        with_reducible rfl
                      refine And.intro ?_ ?_
                      · refine Reg.ob_pure (fun _ => rfl) rfl rfl rfl rfl (fun x w1 hF => ?_)
                        obtain ⟨hR, hI, hC⟩ := hF
                        have c8 := hI.cell 8
                        simp at c8
                        go_simp
                        with_reducible rfl
                      refine And.intro ?_ ?_
                      · refine Reg.ob_pure (fun _ => rfl) rfl rfl rfl rfl (fun x w1 hF => ?_)
                        obtain ⟨hR, hI, hC⟩ := hF
                        have c8 := hI.cell 8
                        simp at c8
                        go_simp
                        with_reducible rfl
                      refine And.intro ?_ ?_
                      · refine Reg.ob_some (fun _ => rfl) rfl (fun x w1 hF hU K hK => ?_)
                        obtain ⟨hR, hI, hC⟩ := hF rfl
                        refine wp_append_src w1 (.tmp 126) (.tmp 131) rfl rb (.slice none 0 0) [] rfl (World.ownsRow_nil _ _ _ _) _ (exts bs) rfl (HSRC.out w1 _ hR (by first | exact .inr rfl | exact .inl ⟨rfl, rfl⟩)) (by rw [XL.out]; simp <;> omega) (Nat.le_trans (Nat.le_of_eq HRB.out.symm) hR.pure.size) ?_
                        intro v' w' hown hg
                        have ho : Only (fun _ => False) w1 w' := (Only.refl _ w1).grown hg (fun i hi _ => by simp [Value.ownBlock] at hi)
                        have hown' : w'.ownsRow rb 5 1 v' m4 (cellsOf (exts bs)) := by rw [XL.out] at hown; simpa [cellsOf] using hown
                        obtain ⟨A1, k1, rfl, -⟩ := own_slice hown'
                        exact hK _ w' (fun _ _ _ => ⟨hR.go ho, hI.only ho (by simp), own_only hC ho (by simp)⟩) trivial ⟨⟨A1, k1, rfl⟩, hown'⟩
                      refine And.intro ?_ ?_
                      · refine Reg.ob_bare (fun _ => rfl) rfl rfl rfl (fun x w1 => ?_)
                        go_simp
                        with_reducible rfl
                      refine And.intro ?_ ?_
                      · refine Reg.ob_some (fun _ => rfl) rfl (fun x w1 hF hU K hK => ?_)
                        obtain ⟨hR, hI, hC⟩ := hF rfl
                        obtain ⟨⟨⟨A1, k1, h7⟩, hown⟩, -⟩ := hU
                        have h7 : x 7 = .slice A1 m4 k1 := h7
                        have hown : w1.ownsRow rb 5 1 (x 7) m4 (cellsOf (exts bs)) := hown
                        have hf := hI.free 8
                        have c8 := hI.cell 8
                        simp at c8
                        revert hK
                        simp only [Nat.reduceAdd, Nat.sub_self, h7]
                        intro hK
                        go_simp
                        have hO' : Only (fun j => j = pb) w1 (w1.setCell ⟨pb, 8, none⟩ (.slice A1 m4 k1)) := Only.set (S := fun j => j = pb) (p := ⟨pb, 8, none⟩) (Only.refl _ w1) (fun _ => rfl) _
                        refine hK undef _ (fun _ h _ => by cases h) trivial ⟨⟨A1, k1, h7⟩, ?_, hR.own hO' (by have := HGL.out; have := HPB.out; omega) (by have := HRB.out; have := HPB.out; omega) (by have := HPB.out; omega), ?_, ?_⟩
                        · have hu : (w1.setCell ⟨pb, 8, none⟩ (.slice A1 m4 k1)).ownsRow rb 5 1 (x 7) m4 (cellsOf (exts bs)) := own_only hown hO' (fun q hq e => row_apart hI hown (by decide) (by rw [← e]; exact hq))
                          exact hu
                        · have hJ : Is (w1.setCell ⟨pb, 8, none⟩ (.slice A1 m4 k1)) pb 29 #[.bool mk, .int .u8 (ty : Nat), .int .u16 (sq : Nat), .int .u32 (tm : Nat), .int .u32 (ss : Nat), .slice Ac k cc, .bool true, .int .u16 (pr : Nat), x 7, .slice none 0 0, .int .u8 0] := by rw [h7]; exact hI.put 8 _
                          exact hJ
                        · have hu : (w1.setCell ⟨pb, 8, none⟩ (.slice A1 m4 k1)).ownsRow rb 26 1 (.slice Ac k cc) k (cells32 (csrcOf (bs.drop 12) k)) := own_only hC hO' (fun q hq e => row_apart hI hC (by decide) (by rw [← e]; exact hq))
                          exact hu
                      exact trivial
                    case hFeb =>
                      exact ⟨HRZ.out.go ((Only.refl _ wz).drewN 1), HIZ.out.only ((Only.refl (fun _ => False) wz).drewN 1) (by simp), own_only HWZ.out ((Only.refl (fun _ => False) wz).drewN 1) (by simp)⟩
                    case hinieb =>
                      exact trivial
                    case preseb =>
                      intro i hi j hj hc x w1 w2 hF hE hW
                      simp only [List.mem_cons, List.mem_nil_iff, or_false] at hi hj
                      rcases hj with rfl | rfl <;> rcases hi with rfl | rfl
                      all_goals (exfalso; revert hc; decide)
                    case fineb =>
                      rintro x w1 - ⟨⟨⟨A1, k1, h7⟩, hown, hR, hI, hC⟩, -⟩
                      have h7 : x 7 = .slice A1 m4 k1 := h7
                      have hown : w1.ownsRow rb 5 1 (x 7) m4 (cellsOf (exts bs)) := hown
                      have hI : Is w1 pb 29 #[.bool mk, .int .u8 (ty : Nat), .int .u16 (sq : Nat), .int .u32 (tm : Nat), .int .u32 (ss : Nat), .slice Ac k cc, .bool true, .int .u16 (pr : Nat), x 7, .slice none 0 0, .int .u8 0] := hI
                      simp only [Nat.reduceAdd, h7] at hown hI ⊢
                      have HX1 := Lib.hid hR
                      have HX2 := Lib.hid hI
                      have HX3 := Lib.hid hC
                      have HX4 := Lib.hid hown
                      clear hR hI hC hown h7
                      go_wp2_with fail
                      go_meet
                      refine ⟨q, .slice A1 m4 k1, rfl, hqL, by rw [rest2_true bs HHX.out, HR1E.out, HEX.out, List.drop_drop]; congr 1; have := HQ.out; have := HP4.out; omega, ?_, HX1.out, ?_, HX3.out, ?_⟩
                      · unfold extBad
                        rw [HHX.out, HR1E.out, HEX.out, List.length_drop, HL.out]
                        have := HQ.out
                        have := HP4.out
                        simp
                        omega
                      · rw [EPR.out]
                        exact HX2.out
                      · rw [XL.out]
                        exact HX4.out

              case rest =>
                obtain ⟨at_, ve, rfl, hatL, hr2, hxbad, hR, hI, hC, hE⟩ := hcut
                obtain ⟨Ae, ce, rfl, _⟩ := own_slice hE
                have HR3 := Lib.hid hR
                have HI3 := Lib.hid hI
                have HC3 := Lib.hid hC
                have HE3 := Lib.hid hE
                have HR2E := Lib.hid hr2
                have HXBAD := Lib.hid hxbad
                have q0 := hR.b0 G0.out
                have HAT := Lib.hid hatL
                clear hR hI hC hE hr2 hxbad ep wp2 wp4 c6
                have LAST := Lib.hid (show at_ < L → lastOf (rest2 bs) = bs.getD (L - 1) 0 ∧ lastOf (rest2 bs) < 256 from fun hlt => by
                  have hne : bs.drop at_ ≠ [] := by intro e; have := congrArg List.length e; rw [List.length_drop, HL.out] at this; simp at this; omega
                  have e1 : lastOf (rest2 bs) = bs.getD (L - 1) 0 := by
                    have h1 := lastOf_get (bs.drop at_) (by rw [List.length_drop, HL.out]; omega)
                    rw [HR2E.out, List.getD_eq_getElem?_getD]
                    rw [List.getElem?_drop, List.length_drop, HL.out, show at_ + (L - at_ - 1) = L - 1 from by omega] at h1
                    rw [h1]
                    rfl
                  refine ⟨e1, ?_⟩
                  rw [e1, List.getD_eq_getElem?_getD, List.getElem?_eq_getElem (by rw [HL.out]; omega)]
                  exact HB.out _ (List.getElem_mem _))
                go_upto_if 142 with (fail)
                go_cut [9] (fun s9 wx => ∃ (en : Nat), s9 = .int .i64 en ∧ at_ ≤ en ∧ en ≤ L ∧ padBad bs = false ∧ en + padN bs = L ∧ Rq w g o rb bs wx ∧ Is wx pb 29 #[.bool mk, .int .u8 (ty : Nat), .int .u16 (sq : Nat), .int .u32 (tm : Nat), .int .u32 (ss : Nat), .slice Ac k cc, .bool hx, .int .u16 (profs bs : Nat), .slice Ae (exts bs).length ce, .slice none 0 0, .int .u8 (padN bs : Nat)] ∧ wx.ownsRow rb 26 1 (.slice Ac k cc) k (cells32 (csrcOf (bs.drop 12) k)) ∧ wx.ownsRow rb 5 1 (.slice Ae (exts bs).length ce) (exts bs).length (cellsOf (exts bs)))
                case first =>
                  cases hp
                  · go_wp2_with fail
                    go_meet
                    have e1 : padN bs = 0 := by simp [padN, HHP.out]
                    refine ⟨L, rfl, hatL, Nat.le_refl _, by simp [padBad, HHP.out], by omega, HR3.out, ?_, HC3.out, HE3.out⟩
                    rw [e1]
                    exact HI3.out
                  · have fin : ∀ wx w5, Rq w g o rb bs wx → Is w5 rb 29 zeros → Only (fun j => j = rb) wx w5 → padBad bs = true → GotPk w bs (.returned (.tuple #[.agg zeros, .int .i64 (21 : Nat)])) w5 := by
                      intro wx w5 hr5 hi5 ho5 hbad
                      have he : parseErr bs = 21 := by rw [HPE.out, if_neg HC1.out, if_neg (by rw [HXBAD.out]; simp), if_pos hbad]
                      exact got_err (k := 21) (Only.refl _ w) hr5.pure (by rw [HRB.out]; exact ho5) (by decide) he
                    have FIN := Lib.hid fin
                    clear fin
                    obtain ⟨lm, hlm⟩ : ∃ m, L - 1 = m := ⟨_, rfl⟩
                    have wl1 : IntKind.i64.wrap ((L : Int) - 1) = (lm : Int) := by rw [IntWalk.i64_in _ (by omega)]; omega
                    have zlm : lm < L := by omega
                    have zlmi : (lm : Int) < (L : Int) := by omega
                    by_cases hend : at_ = L
                    · subst hend
                      have hbad : padBad bs = true := by
                        have : rest2 bs = [] := by rw [HR2E.out]; exact List.drop_eq_nil_of_le (by rw [HL.out]; exact Nat.le_refl _)
                        simp [padBad, HHP.out, this, lastOf]
                      have HBAD := Lib.hid hbad
                      clear hbad
                      go_wp2_with (refine wpList_store_is rfl 29 _ _ rfl rb zeros rfl rfl 29 zeros HR3.out.ans Try.sizeRk rfl (by simp [Value.oneCell', zeros]) ?_; intro w5 hi5 ho5)
                      refine bodyPost_ret (results_is Try.results15 _ w5 rb 29 _ _ (.int .i64 21) rfl rfl hi5 Try.underlying29 rfl Try.sizeRk) rfl ?_
                      exact FIN.out _ w5 HR3.out hi5 ho5 HBAD.out
                    · have hlt : at_ < L := by omega
                      obtain ⟨hz0, hz256⟩ := LAST.out hlt
                      have HZV := Lib.hid hz0
                      have hcz := HR3.out.at_ lm (by rw [HL.out]; omega)
                      have ez : bs[lm]'(by rw [HL.out]; omega) = lastOf (rest2 bs) := by
                        rw [hz0, List.getD_eq_getElem?_getD, hlm, List.getElem?_eq_getElem (by rw [HL.out]; omega)]
                        rfl
                      rw [ez] at hcz
                      have LR2 := Lib.hid (show (rest2 bs).length = L - at_ from by rw [HR2E.out, List.length_drop, HL.out])
                      have PB := Lib.hid (show padBad bs = !decide (0 < lastOf (rest2 bs) ∧ lastOf (rest2 bs) ≤ L - at_) from by unfold padBad; rw [HHP.out, LR2.out]; simp)
                      have PN := Lib.hid (show padN bs = lastOf (rest2 bs) from by simp [padN, HHP.out])
                      clear hz0 ez
                      generalize lastOf (rest2 bs) = z at *
                      obtain ⟨df, hdf⟩ : ∃ m, L - at_ = m := ⟨_, rfl⟩
                      have wdf : IntKind.i64.wrap ((L : Int) - (at_ : Int)) = (df : Int) := by rw [IntWalk.i64_in _ (by omega)]; omega
                      have zee : ((L : Int) == (at_ : Int)) = false := by simp; omega
                      rw [hdf] at PB
                      have HLM := Lib.hid hlm
                      have HDF := Lib.hid hdf
                      clear hlm hend hdf
                      by_cases hz : z = 0
                      · subst hz
                        have HBAD := Lib.hid (show padBad bs = true from by rw [PB.out]; simp)
                        go_wp2_with (refine wpList_store_is rfl 29 _ _ rfl rb zeros rfl rfl 29 zeros HR3.out.ans Try.sizeRk rfl (by simp [Value.oneCell', zeros]) ?_; intro w5 hi5 ho5)
                        refine bodyPost_ret (results_is Try.results15 _ w5 rb 29 _ _ (.int .i64 21) rfl rfl hi5 Try.underlying29 rfl Try.sizeRk) rfl ?_
                        exact FIN.out _ w5 HR3.out hi5 ho5 HBAD.out
                      · have zz : ((z : Int) == 0) = false := by simp; omega
                        have zpos : 0 < z := by omega
                        clear hz
                        by_cases hzd : df < z
                        · have HBAD := Lib.hid (show padBad bs = true from by rw [PB.out]; simp; omega)
                          have zdi : (df : Int) < (z : Int) := by omega
                          go_wp2_with (refine wpList_store_is rfl 29 _ _ rfl rb zeros rfl rfl 29 zeros HR3.out.ans Try.sizeRk rfl (by simp [Value.oneCell', zeros]) ?_; intro w5 hi5 ho5)
                          refine bodyPost_ret (results_is Try.results15 _ w5 rb 29 _ _ (.int .i64 21) rfl rfl hi5 Try.underlying29 rfl Try.sizeRk) rfl ?_
                          exact FIN.out _ w5 HR3.out hi5 ho5 HBAD.out
                        · have HGOOD := Lib.hid (show padBad bs = false from by rw [PB.out]; simp; omega)
                          have zdi : decide ((df : Int) < (z : Int)) = false := decide_eq_false (by omega)
                          have zdn : decide (df < z) = false := decide_eq_false (by omega)
                          obtain ⟨en, hen⟩ : ∃ m, L - z = m := ⟨_, rfl⟩
                          have hdf := HDF.out
                          have hen1 : at_ ≤ en := by omega
                          have hen2 : en + z = L := by omega
                          have HEN1 := Lib.hid hen1
                          have HEN2 := Lib.hid hen2
                          have wen : IntKind.i64.wrap ((L : Int) - (z : Int)) = (en : Int) := by rw [IntWalk.i64_in _ (by omega)]; omega
                          have hf := HI3.out.free 10
                          have c10 := HI3.out.cell 10
                          simp at c10
                          clear hzd hen hdf hen1 hen2
                          go_upto_region 26 with (fail)
                          clear q0 hcz hf c10
                          generalize hT : World.setCell _ _ _ = wz
                          obtain ⟨hRz, hIz, hCz, hEz⟩ := rq_put hT HR3.out HI3.out (by have := HGL.out; have := HPB.out; omega) (by have := HRB.out; have := HPB.out; omega) (by have := HPB.out; omega) HC3.out HE3.out
                          clear hT
                          have HRZ := Lib.hid hRz
                          have HIZ := Lib.hid (show Is wz pb 29 #[.bool mk, .int .u8 (ty : Nat), .int .u16 (sq : Nat), .int .u32 (tm : Nat), .int .u32 (ss : Nat), .slice Ac k cc, .bool hx, .int .u16 (profs bs : Nat), .slice Ae (exts bs).length ce, .slice none 0 0, .int .u8 (z : Nat)] from hIz)
                          have HCZ := Lib.hid hCz
                          have HEZ := Lib.hid hEz
                          clear hRz hIz hCz hEz
                          have c10 := HIZ.out.cell 10
                          simp at c10
                          go_wp2_with fail
                          go_meet
                          refine ⟨en, rfl, HEN1.out, by have := HEN2.out; omega, HGOOD.out, by rw [PN.out]; exact HEN2.out, HRZ.out, ?_, HCZ.out, HEZ.out⟩
                          rw [PN.out]
                          exact HIZ.out
                case rest =>
                  obtain ⟨en, rfl, hen1, hen2, hpbad, hpn, hR, hI, hC, hE⟩ := hcut
                  have HR4 := Lib.hid hR
                  have HI4 := Lib.hid hI
                  have HC4 := Lib.hid hC
                  have HE4 := Lib.hid hE
                  have HERR := Lib.hid (show parseErr bs = 0 from by rw [HPE.out, if_neg HC1.out, if_neg (by rw [HXBAD.out]; simp), if_neg (by rw [hpbad]; simp)])
                  obtain ⟨ln, hln⟩ : ∃ m, en - at_ = m := ⟨_, rfl⟩
                  have PAY := Lib.hid (show (parsed bs).pay = (bs.drop at_).take ln from by
                    rw [HPD.out]
                    show (rest2 bs).take ((rest2 bs).length - padN bs) = _
                    rw [HR2E.out, List.length_drop, HL.out]
                    congr 1
                    omega)
                  have PL := Lib.hid (show ((bs.drop at_).take ln).length = ln from by rw [List.length_take, List.length_drop, HL.out]; omega)
                  have HSRC := Lib.hid (show ∀ wx A, Rq w g o rb bs wx → ((c = at_ ∧ A = ⟨g, o, none⟩) ∨ A = ⟨g, o + at_, none⟩) → Src wx (.slice (some A) ln (c - at_)) ((bs.drop at_).take ln) from by
                    intro wx A hR hA
                    rcases hA with ⟨hcp, rfl⟩ | rfl
                    · exact src_nil rfl (by omega) (List.length_eq_zero_iff.1 (by rw [List.length_take, List.length_drop, HL.out]; omega))
                    · exact src_cut (c := 0) at_ ln hR.at_ (by rw [HL.out]; omega) rfl (by omega))
                  have zq1 : (at_ : Int) ≤ (en : Int) := by omega
                  have zq2 : (en : Int) ≤ (c : Int) := by omega
                  have zq3 : en - at_ = ln := hln
                  have HVAL := Lib.hid (show ∀ vp, (parsed bs).val (.slice Ac k cc) (.slice Ae (exts bs).length ce) vp = .agg #[.bool mk, .int .u8 (ty : Nat), .int .u16 (sq : Nat), .int .u32 (tm : Nat), .int .u32 (ss : Nat), .slice Ac k cc, .bool hx, .int .u16 (profs bs : Nat), .slice Ae (exts bs).length ce, vp, .int .u8 (padN bs : Nat)] from by intro vp; rw [HPD.out, ← HHX.out]; rfl)
                  have HPV := Lib.hid (show (parsed bs).csrc = csrcOf (bs.drop 12) k ∧ (parsed bs).ext = exts bs from by rw [HPD.out, HM.out, ← HHX.out]; exact ⟨rfl, rfl⟩)
                  clear hR hI hC hE hln hpn hpbad
                  generalize padN bs = pd at *
                  go_upto_region 27 with (fail)
                  by_cases hcap : c = at_
                  · subst hcap
                    have e1 : c = en := by omega
                    subst e1
                    have e2 : 0 = ln := by omega
                    subst e2
                    clear zq3 zq1
                    refine wp_region_posts [[], [0], [], [], [], [2, 3, 4], [1, 5, 0, 2, 3, 4], [0, 1, 2, 3, 4, 5, 6], [7, 6, 0, 1, 2, 3, 4, 5]] [6, 8] [6, 8] [[], [], [], [], [], [], [], [], [6]] [[], [], [], [], [], [], [], [], [6]] [8] [8] [7] []
                        [some ?vya0, some ?vya1, some ?vya2, some ?vya3, some ?vya4, some ?vya5, none, some ?vya7, none]
                        ?Tya (fun wx => Rq w g o rb bs wx ∧ Is wx pb 29 #[.bool mk, .int .u8 (ty : Nat), .int .u16 (sq : Nat), .int .u32 (tm : Nat), .int .u32 (ss : Nat), .slice Ac k cc, .bool hx, .int .u16 (profs bs : Nat), .slice Ae (exts bs).length ce, .slice none 0 0, .int .u8 (pd : Nat)] ∧ wx.ownsRow rb 26 1 (.slice Ac k cc) k (cells32 (csrcOf (bs.drop 12) k)) ∧ wx.ownsRow rb 5 1 (.slice Ae (exts bs).length ce) (exts bs).length (cellsOf (exts bs))) ?Wya ?Eya (by kernel_rfl) (by kernel_rfl) (by kernel_rfl) (fun x => ?hTya) ?hFya ?hiniya (Reg.all_ops ?runsya) ?presya ?finya
                    case Wya => exact fun j x w' => match j with | 6 => (∃ A c, x 6 = .slice A 0 c) ∧ w'.ownsRow rb 5 1 (x 6) 0 (cellsOf ((bs.drop c).take 0)) | 8 => (∃ A c, x 6 = .slice A 0 c) ∧ w'.ownsRow rb 5 1 (x 6) 0 (cellsOf ((bs.drop c).take 0)) ∧ Rq w g o rb bs w' ∧ Is w' pb 29 #[.bool mk, .int .u8 (ty : Nat), .int .u16 (sq : Nat), .int .u32 (tm : Nat), .int .u32 (ss : Nat), .slice Ac k cc, .bool hx, .int .u16 (profs bs : Nat), .slice Ae (exts bs).length ce, x 6, .int .u8 (pd : Nat)] ∧ w'.ownsRow rb 26 1 (.slice Ac k cc) k (cells32 (csrcOf (bs.drop 12) k)) ∧ w'.ownsRow rb 5 1 (.slice Ae (exts bs).length ce) (exts bs).length (cellsOf (exts bs)) | _ => True
                    case Eya => exact fun i w' w'' => True
                    case hTya =>
                      simp only [Reg.fillV, Act.put, List.setIfInBounds_toArray, List.set_cons_zero, List.set_cons_succ]
                      rfl
                    case runsya =>
                      refine And.intro ?_ ?_
                      · refine Reg.ob_pure (fun _ => rfl) rfl rfl rfl rfl (fun x w1 hF => ?_)
                        obtain ⟨hR, hI, hC, hE⟩ := hF
                        have c9 := hI.cell 9
                        simp at c9
                        go_simp
                        with_reducible rfl
                      refine And.intro ?_ ?_
                      · refine Reg.ob_pure (fun _ => rfl) rfl rfl rfl rfl (fun x w1 hF => ?_)
                        obtain ⟨hR, hI, hC, hE⟩ := hF
                        have c9 := hI.cell 9
                        simp at c9
                        go_simp
                        with_reducible rfl
                      refine And.intro ?_ ?_
                      · refine Reg.ob_pure (fun _ => rfl) rfl rfl rfl rfl (fun x w1 hF => ?_)
                        obtain ⟨hR, hI, hC, hE⟩ := hF
                        have c9 := hI.cell 9
                        simp at c9
                        go_simp
                        with_reducible rfl
                      refine And.intro ?_ ?_
                      · refine Reg.ob_pure (fun _ => rfl) rfl rfl rfl rfl (fun x w1 hF => ?_)
                        obtain ⟨hR, hI, hC, hE⟩ := hF
                        have c9 := hI.cell 9
                        simp at c9
                        go_simp
                        with_reducible rfl
                      refine And.intro ?_ ?_
                      · refine Reg.ob_pure (fun _ => rfl) rfl rfl rfl rfl (fun x w1 hF => ?_)
                        obtain ⟨hR, hI, hC, hE⟩ := hF
                        have c9 := hI.cell 9
                        simp at c9
                        go_simp
                        with_reducible rfl
                      refine And.intro ?_ ?_
                      · refine Reg.ob_pure (fun _ => rfl) rfl rfl rfl rfl (fun x w1 hF => ?_)
                        obtain ⟨hR, hI, hC, hE⟩ := hF
                        have c9 := hI.cell 9
                        simp at c9
                        go_simp
                        with_reducible rfl
                      refine And.intro ?_ ?_
                      · refine Reg.ob_some (fun _ => rfl) rfl (fun x w1 hF hU K hK => ?_)
                        obtain ⟨hR, hI, hC, hE⟩ := hF rfl
                        refine wp_append_src w1 (.tmp 179) (.tmp 183) rfl rb (.slice none 0 0) [] rfl (World.ownsRow_nil _ _ _ _) _ ((bs.drop c).take 0) rfl (src_nil rfl rfl (List.length_eq_zero_iff.1 PL.out)) (by rw [PL.out]; simp <;> omega) (Nat.le_trans (Nat.le_of_eq HRB.out.symm) hR.pure.size) ?_
                        intro v' w' hown hg
                        have ho : Only (fun _ => False) w1 w' := (Only.refl _ w1).grown hg (fun i hi _ => by simp [Value.ownBlock] at hi)
                        have hown' : w'.ownsRow rb 5 1 v' 0 (cellsOf ((bs.drop c).take 0)) := by rw [PL.out] at hown; simpa [cellsOf] using hown
                        obtain ⟨A1, k1, rfl, -⟩ := own_slice hown'
                        exact hK _ w' (fun _ _ _ => ⟨hR.go ho, hI.only ho (by simp), own_only hC ho (by simp), own_only hE ho (by simp)⟩) trivial ⟨⟨A1, k1, rfl⟩, hown'⟩
                      refine And.intro ?_ ?_
                      · refine Reg.ob_bare (fun _ => rfl) rfl rfl rfl (fun x w1 => ?_)
                        go_simp
                        with_reducible rfl
                      refine And.intro ?_ ?_
                      · refine Reg.ob_some (fun _ => rfl) rfl (fun x w1 hF hU K hK => ?_)
                        obtain ⟨hR, hI, hC, hE⟩ := hF rfl
                        obtain ⟨⟨⟨A1, k1, h6⟩, hown⟩, -⟩ := hU
                        have h6 : x 6 = .slice A1 0 k1 := h6
                        have hown : w1.ownsRow rb 5 1 (x 6) 0 (cellsOf ((bs.drop c).take 0)) := hown
                        have hf := hI.free 9
                        have c9 := hI.cell 9
                        simp at c9
                        revert hK
                        simp only [Nat.reduceAdd, Nat.sub_self, h6]
                        intro hK
                        go_simp
                        have hO' : Only (fun j => j = pb) w1 (w1.setCell ⟨pb, 9, none⟩ (.slice A1 0 k1)) := Only.set (S := fun j => j = pb) (p := ⟨pb, 9, none⟩) (Only.refl _ w1) (fun _ => rfl) _
                        refine hK undef _ (fun _ h _ => by cases h) trivial ⟨⟨A1, k1, h6⟩, ?_, hR.own hO' (by have := HGL.out; have := HPB.out; omega) (by have := HRB.out; have := HPB.out; omega) (by have := HPB.out; omega), ?_, ?_, ?_⟩
                        · have hu : (w1.setCell ⟨pb, 9, none⟩ (.slice A1 0 k1)).ownsRow rb 5 1 (x 6) 0 (cellsOf ((bs.drop c).take 0)) := own_only hown hO' (fun q hq e => row_apart hI hown (by decide) (by rw [← e]; exact hq))
                          exact hu
                        · have hJ : Is (w1.setCell ⟨pb, 9, none⟩ (.slice A1 0 k1)) pb 29 #[.bool mk, .int .u8 (ty : Nat), .int .u16 (sq : Nat), .int .u32 (tm : Nat), .int .u32 (ss : Nat), .slice Ac k cc, .bool hx, .int .u16 (profs bs : Nat), .slice Ae (exts bs).length ce, x 6, .int .u8 (pd : Nat)] := by rw [h6]; exact hI.put 9 _
                          exact hJ
                        · have hu : (w1.setCell ⟨pb, 9, none⟩ (.slice A1 0 k1)).ownsRow rb 26 1 (.slice Ac k cc) k (cells32 (csrcOf (bs.drop 12) k)) := own_only hC hO' (fun q hq e => row_apart hI hC (by decide) (by rw [← e]; exact hq))
                          exact hu
                        · have hu : (w1.setCell ⟨pb, 9, none⟩ (.slice A1 0 k1)).ownsRow rb 5 1 (.slice Ae (exts bs).length ce) (exts bs).length (cellsOf (exts bs)) := own_only hE hO' (fun q hq e => row_apart hI hE (by decide) (by rw [← e]; exact hq))
                          exact hu
                      exact trivial
                    case hFya =>
                      exact ⟨HR4.out.go ((Only.refl _ _).drewN 1), HI4.out.only ((Only.refl (fun _ => False) _).drewN 1) (by simp), own_only HC4.out ((Only.refl (fun _ => False) _).drewN 1) (by simp), own_only HE4.out ((Only.refl (fun _ => False) _).drewN 1) (by simp)⟩
                    case hiniya =>
                      exact trivial
                    case presya =>
                      intro i hi j hj hc x w1 w2 hF hE hW
                      simp only [List.mem_cons, List.mem_nil_iff, or_false] at hi hj
                      rcases hj with rfl | rfl <;> rcases hi with rfl | rfl
                      all_goals (exfalso; revert hc; decide)
                    case finya =>
                      rintro x w1 - ⟨⟨⟨A1, k1, h6⟩, hown, hR, hI, hC, hE⟩, -⟩
                      have h6 : x 6 = .slice A1 0 k1 := h6
                      have hown : w1.ownsRow rb 5 1 (x 6) 0 (cellsOf ((bs.drop c).take 0)) := hown
                      have hI : Is w1 pb 29 #[.bool mk, .int .u8 (ty : Nat), .int .u16 (sq : Nat), .int .u32 (tm : Nat), .int .u32 (ss : Nat), .slice Ac k cc, .bool hx, .int .u16 (profs bs : Nat), .slice Ae (exts bs).length ce, x 6, .int .u8 (pd : Nat)] := hI
                      simp only [Nat.reduceAdd, h6] at hown hI ⊢
                      have HX1 := Lib.hid hR
                      have HX2 := Lib.hid hI
                      have HX3 := Lib.hid hC
                      have HX4 := Lib.hid hE
                      have HX5 := Lib.hid hown
                      clear hR hI hC hE hown h6
                      go_wp2_with (first | (refine wpList_load_want rfl _ _ rfl pb rfl _ _ _ HX2.out Try.underlying29 rfl Try.sizeRk ?_) | (refine wpList_store_is rfl 29 _ _ rfl rb #[.bool mk, .int .u8 (ty : Nat), .int .u16 (sq : Nat), .int .u32 (tm : Nat), .int .u32 (ss : Nat), .slice Ac k cc, .bool hx, .int .u16 (profs bs : Nat), .slice Ae (exts bs).length ce, .slice A1 0 k1, .int .u8 (pd : Nat)] rfl rfl 29 zeros HX1.out.ans Try.sizeRk rfl (by simp [Value.oneCell']) ?_; intro w5 hi5 ho5))
                      refine bodyPost_ret (results_is Try.results15 _ w5 rb 29 _ _ (.int .i64 0) rfl rfl hi5 Try.underlying29 rfl Try.sizeRk) rfl ?_
                      rw [← HVAL.out]
                      exact rgot_ok HX1.out.pure HRB.out HX1.out.ans ho5 HERR.out (by rw [HPV.out.1, csrcOf_length]; exact HX3.out) (by rw [HPV.out.2]; exact HX4.out) (by rw [PAY.out, PL.out]; exact HX5.out)

                  · have HCAP := Lib.hid hcap
                    refine wp_region_posts [[], [0], [], [], [], [2, 3, 4], [1, 5, 0, 2, 3, 4], [0, 1, 2, 3, 4, 5, 6], [7, 6, 0, 1, 2, 3, 4, 5]] [6, 8] [6, 8] [[], [], [], [], [], [], [], [], [6]] [[], [], [], [], [], [], [], [], [6]] [8] [8] [7] []
                        [some ?vyb0, some ?vyb1, some ?vyb2, some ?vyb3, some ?vyb4, some ?vyb5, none, some ?vyb7, none]
                        ?Tyb (fun wx => Rq w g o rb bs wx ∧ Is wx pb 29 #[.bool mk, .int .u8 (ty : Nat), .int .u16 (sq : Nat), .int .u32 (tm : Nat), .int .u32 (ss : Nat), .slice Ac k cc, .bool hx, .int .u16 (profs bs : Nat), .slice Ae (exts bs).length ce, .slice none 0 0, .int .u8 (pd : Nat)] ∧ wx.ownsRow rb 26 1 (.slice Ac k cc) k (cells32 (csrcOf (bs.drop 12) k)) ∧ wx.ownsRow rb 5 1 (.slice Ae (exts bs).length ce) (exts bs).length (cellsOf (exts bs))) ?Wyb ?Eyb (by kernel_rfl) (by kernel_rfl) (by kernel_rfl) (fun x => ?hTyb) ?hFyb ?hiniyb (Reg.all_ops ?runsyb) ?presyb ?finyb
                    case Wyb => exact fun j x w' => match j with | 6 => (∃ A c, x 6 = .slice A ln c) ∧ w'.ownsRow rb 5 1 (x 6) ln (cellsOf ((bs.drop at_).take ln)) | 8 => (∃ A c, x 6 = .slice A ln c) ∧ w'.ownsRow rb 5 1 (x 6) ln (cellsOf ((bs.drop at_).take ln)) ∧ Rq w g o rb bs w' ∧ Is w' pb 29 #[.bool mk, .int .u8 (ty : Nat), .int .u16 (sq : Nat), .int .u32 (tm : Nat), .int .u32 (ss : Nat), .slice Ac k cc, .bool hx, .int .u16 (profs bs : Nat), .slice Ae (exts bs).length ce, x 6, .int .u8 (pd : Nat)] ∧ w'.ownsRow rb 26 1 (.slice Ac k cc) k (cells32 (csrcOf (bs.drop 12) k)) ∧ w'.ownsRow rb 5 1 (.slice Ae (exts bs).length ce) (exts bs).length (cellsOf (exts bs)) | _ => True
                    case Eyb => exact fun i w' w'' => True
                    case hTyb =>
                      simp only [Reg.fillV, Act.put, List.setIfInBounds_toArray, List.set_cons_zero, List.set_cons_succ]
                      rfl
                    case runsyb =>
                      refine And.intro ?_ ?_
                      · refine Reg.ob_pure (fun _ => rfl) rfl rfl rfl rfl (fun x w1 hF => ?_)
                        obtain ⟨hR, hI, hC, hE⟩ := hF
                        have c9 := hI.cell 9
                        simp at c9
                        go_simp
                        with_reducible rfl
                      refine And.intro ?_ ?_
                      · refine Reg.ob_pure (fun _ => rfl) rfl rfl rfl rfl (fun x w1 hF => ?_)
                        obtain ⟨hR, hI, hC, hE⟩ := hF
                        have c9 := hI.cell 9
                        simp at c9
                        go_simp
                        with_reducible rfl
                      refine And.intro ?_ ?_
                      · refine Reg.ob_pure (fun _ => rfl) rfl rfl rfl rfl (fun x w1 hF => ?_)
                        obtain ⟨hR, hI, hC, hE⟩ := hF
                        have c9 := hI.cell 9
                        simp at c9
                        go_simp
                        with_reducible rfl
                      refine And.intro ?_ ?_
                      · refine Reg.ob_pure (fun _ => rfl) rfl rfl rfl rfl (fun x w1 hF => ?_)
                        obtain ⟨hR, hI, hC, hE⟩ := hF
                        have c9 := hI.cell 9
                        simp at c9
                        go_simp
                        with_reducible rfl
                      refine And.intro ?_ ?_
                      · refine Reg.ob_pure (fun _ => rfl) rfl rfl rfl rfl (fun x w1 hF => ?_)
                        obtain ⟨hR, hI, hC, hE⟩ := hF
                        have c9 := hI.cell 9
                        simp at c9
                        go_simp
                        with_reducible rfl
                      refine And.intro ?_ ?_
                      · refine Reg.ob_pure (fun _ => rfl) rfl rfl rfl rfl (fun x w1 hF => ?_)
                        obtain ⟨hR, hI, hC, hE⟩ := hF
                        have c9 := hI.cell 9
                        simp at c9
                        go_simp
                        with_reducible rfl
                      refine And.intro ?_ ?_
                      · refine Reg.ob_some (fun _ => rfl) rfl (fun x w1 hF hU K hK => ?_)
                        obtain ⟨hR, hI, hC, hE⟩ := hF rfl
                        refine wp_append_src w1 (.tmp 179) (.tmp 183) rfl rb (.slice none 0 0) [] rfl (World.ownsRow_nil _ _ _ _) _ ((bs.drop at_).take ln) rfl (HSRC.out w1 _ hR (by first | exact .inr rfl | exact .inl ⟨rfl, rfl⟩)) (by rw [PL.out]; simp <;> omega) (Nat.le_trans (Nat.le_of_eq HRB.out.symm) hR.pure.size) ?_
                        intro v' w' hown hg
                        have ho : Only (fun _ => False) w1 w' := (Only.refl _ w1).grown hg (fun i hi _ => by simp [Value.ownBlock] at hi)
                        have hown' : w'.ownsRow rb 5 1 v' ln (cellsOf ((bs.drop at_).take ln)) := by rw [PL.out] at hown; simpa [cellsOf] using hown
                        obtain ⟨A1, k1, rfl, -⟩ := own_slice hown'
                        exact hK _ w' (fun _ _ _ => ⟨hR.go ho, hI.only ho (by simp), own_only hC ho (by simp), own_only hE ho (by simp)⟩) trivial ⟨⟨A1, k1, rfl⟩, hown'⟩
                      refine And.intro ?_ ?_
                      · refine Reg.ob_bare (fun _ => rfl) rfl rfl rfl (fun x w1 => ?_)
                        go_simp
                        with_reducible rfl
                      refine And.intro ?_ ?_
                      · refine Reg.ob_some (fun _ => rfl) rfl (fun x w1 hF hU K hK => ?_)
                        obtain ⟨hR, hI, hC, hE⟩ := hF rfl
                        obtain ⟨⟨⟨A1, k1, h6⟩, hown⟩, -⟩ := hU
                        have h6 : x 6 = .slice A1 ln k1 := h6
                        have hown : w1.ownsRow rb 5 1 (x 6) ln (cellsOf ((bs.drop at_).take ln)) := hown
                        have hf := hI.free 9
                        have c9 := hI.cell 9
                        simp at c9
                        revert hK
                        simp only [Nat.reduceAdd, Nat.sub_self, h6]
                        intro hK
                        go_simp
                        have hO' : Only (fun j => j = pb) w1 (w1.setCell ⟨pb, 9, none⟩ (.slice A1 ln k1)) := Only.set (S := fun j => j = pb) (p := ⟨pb, 9, none⟩) (Only.refl _ w1) (fun _ => rfl) _
                        refine hK undef _ (fun _ h _ => by cases h) trivial ⟨⟨A1, k1, h6⟩, ?_, hR.own hO' (by have := HGL.out; have := HPB.out; omega) (by have := HRB.out; have := HPB.out; omega) (by have := HPB.out; omega), ?_, ?_, ?_⟩
                        · have hu : (w1.setCell ⟨pb, 9, none⟩ (.slice A1 ln k1)).ownsRow rb 5 1 (x 6) ln (cellsOf ((bs.drop at_).take ln)) := own_only hown hO' (fun q hq e => row_apart hI hown (by decide) (by rw [← e]; exact hq))
                          exact hu
                        · have hJ : Is (w1.setCell ⟨pb, 9, none⟩ (.slice A1 ln k1)) pb 29 #[.bool mk, .int .u8 (ty : Nat), .int .u16 (sq : Nat), .int .u32 (tm : Nat), .int .u32 (ss : Nat), .slice Ac k cc, .bool hx, .int .u16 (profs bs : Nat), .slice Ae (exts bs).length ce, x 6, .int .u8 (pd : Nat)] := by rw [h6]; exact hI.put 9 _
                          exact hJ
                        · have hu : (w1.setCell ⟨pb, 9, none⟩ (.slice A1 ln k1)).ownsRow rb 26 1 (.slice Ac k cc) k (cells32 (csrcOf (bs.drop 12) k)) := own_only hC hO' (fun q hq e => row_apart hI hC (by decide) (by rw [← e]; exact hq))
                          exact hu
                        · have hu : (w1.setCell ⟨pb, 9, none⟩ (.slice A1 ln k1)).ownsRow rb 5 1 (.slice Ae (exts bs).length ce) (exts bs).length (cellsOf (exts bs)) := own_only hE hO' (fun q hq e => row_apart hI hE (by decide) (by rw [← e]; exact hq))
                          exact hu
                      exact trivial
                    case hFyb =>
                      exact ⟨HR4.out.go ((Only.refl _ _).drewN 1), HI4.out.only ((Only.refl (fun _ => False) _).drewN 1) (by simp), own_only HC4.out ((Only.refl (fun _ => False) _).drewN 1) (by simp), own_only HE4.out ((Only.refl (fun _ => False) _).drewN 1) (by simp)⟩
                    case hiniyb =>
                      exact trivial
                    case presyb =>
                      intro i hi j hj hc x w1 w2 hF hE hW
                      simp only [List.mem_cons, List.mem_nil_iff, or_false] at hi hj
                      rcases hj with rfl | rfl <;> rcases hi with rfl | rfl
                      all_goals (exfalso; revert hc; decide)
                    case finyb =>
                      rintro x w1 - ⟨⟨⟨A1, k1, h6⟩, hown, hR, hI, hC, hE⟩, -⟩
                      have h6 : x 6 = .slice A1 ln k1 := h6
                      have hown : w1.ownsRow rb 5 1 (x 6) ln (cellsOf ((bs.drop at_).take ln)) := hown
                      have hI : Is w1 pb 29 #[.bool mk, .int .u8 (ty : Nat), .int .u16 (sq : Nat), .int .u32 (tm : Nat), .int .u32 (ss : Nat), .slice Ac k cc, .bool hx, .int .u16 (profs bs : Nat), .slice Ae (exts bs).length ce, x 6, .int .u8 (pd : Nat)] := hI
                      simp only [Nat.reduceAdd, h6] at hown hI ⊢
                      have HX1 := Lib.hid hR
                      have HX2 := Lib.hid hI
                      have HX3 := Lib.hid hC
                      have HX4 := Lib.hid hE
                      have HX5 := Lib.hid hown
                      clear hR hI hC hE hown h6
                      go_wp2_with (first | (refine wpList_load_want rfl _ _ rfl pb rfl _ _ _ HX2.out Try.underlying29 rfl Try.sizeRk ?_) | (refine wpList_store_is rfl 29 _ _ rfl rb #[.bool mk, .int .u8 (ty : Nat), .int .u16 (sq : Nat), .int .u32 (tm : Nat), .int .u32 (ss : Nat), .slice Ac k cc, .bool hx, .int .u16 (profs bs : Nat), .slice Ae (exts bs).length ce, .slice A1 ln k1, .int .u8 (pd : Nat)] rfl rfl 29 zeros HX1.out.ans Try.sizeRk rfl (by simp [Value.oneCell']) ?_; intro w5 hi5 ho5))
                      refine bodyPost_ret (results_is Try.results15 _ w5 rb 29 _ _ (.int .i64 0) rfl rfl hi5 Try.underlying29 rfl Try.sizeRk) rfl ?_
                      rw [← HVAL.out]
                      exact rgot_ok HX1.out.pure HRB.out HX1.out.ans ho5 HERR.out (by rw [HPV.out.1, csrcOf_length]; exact HX3.out) (by rw [HPV.out.2]; exact HX4.out) (by rw [PAY.out, PL.out]; exact HX5.out)

end Go.Proofs.Ytcgfmjdlningpaa
