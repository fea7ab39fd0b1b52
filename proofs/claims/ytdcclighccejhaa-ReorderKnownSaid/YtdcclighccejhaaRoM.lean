/- reorder: leave. Conditions: as each says. -/
import Derived.Test.YtdcclighccejhaaRoL
import Derived.WalkMore
set_option linter.unusedVariables false
set_option linter.unusedSimpArgs false
namespace Go.Proofs.Ytdcclighccejhaa
open Go Go.RowKit Go.Shelf
attribute [local go_sem] Oper.semAt_some

/-- How many packets. -/
def cnt : List It → Nat
  | [] => 0
  | x :: t => (if x.gap then 0 else 1) + cnt t
theorem cnt_append : ∀ a b : List It, cnt (a ++ b) = cnt a + cnt b
  | [], b => by simp [cnt]
  | x :: t, b => by simp [cnt, cnt_append t b]; omega
theorem cnt_le : ∀ l : List It, cnt l ≤ l.length
  | [] => by simp [cnt]
  | x :: t => by have := cnt_le t; simp only [cnt, List.length_cons]; split <;> omega
/-- What leaves, if so many must. -/
def lvOf (must : Int) : Nat → List It → List It
  | _, [] => []
  | g, x :: t => if x.gap then (if must ≤ (g : Int) then [] else x :: lvOf must g t) else x :: lvOf must (g + 1) t
/-- No gap at which it would stand still. -/
def okFrom (must : Int) : Nat → List It → Prop
  | _, [] => True
  | g, x :: t => if x.gap then (¬ must ≤ (g : Int)) ∧ okFrom must g t else okFrom must (g + 1) t
theorem okFrom_lv (must : Int) : ∀ (pre t : List It) (g : Nat), okFrom must g pre → lvOf must g (pre ++ t) = pre ++ lvOf must (g + cnt pre) t
  | [], t, g, _ => by simp [cnt]
  | x :: pre, t, g, h => by
    unfold okFrom at h
    rw [List.cons_append, lvOf]
    cases hx : x.gap with
    | true =>
      rw [hx, if_pos rfl] at h
      rw [if_pos rfl, if_neg h.1, okFrom_lv must pre t g h.2]
      simp [cnt, hx]
    | false =>
      rw [hx, if_neg (by simp)] at h
      rw [if_neg (by simp), okFrom_lv must pre t (g + 1) h]
      simp [cnt, hx, Nat.add_assoc]
theorem okFrom_snoc (must : Int) : ∀ (pre : List It) (x : It) (g : Nat), okFrom must g pre → (x.gap = true → ¬ must ≤ ((g + cnt pre : Nat) : Int)) → okFrom must g (pre ++ [x])
  | [], x, g, _, h => by
    rw [List.nil_append]
    unfold okFrom
    cases hx : x.gap with
    | true => rw [if_pos rfl]; exact ⟨by have := h hx; simpa [cnt] using this, trivial⟩
    | false => rw [if_neg (by simp)]; trivial
  | y :: pre, x, g, h, hg => by
    unfold okFrom at h
    rw [List.cons_append, okFrom]
    cases hy : y.gap with
    | true =>
      rw [hy, if_pos rfl] at h
      rw [if_pos rfl]
      exact ⟨h.1, okFrom_snoc must pre x g h.2 (fun hx => by have := hg hx; simpa [cnt, hy] using this)⟩
    | false =>
      rw [hy, if_neg (by simp)] at h
      rw [if_neg (by simp)]
      exact okFrom_snoc must pre x (g + 1) h (fun hx => by have := hg hx; rw [cnt, hy] at this; rw [show g + 1 + cnt pre = g + ((if false = true then 0 else 1) + cnt pre) from by simp; omega]; exact this)
theorem onlyG {w w1 : World} {row : Option Nat} (h : w.grownBy w1 row) : Only (fun k => row = some k) w w1 := (Only.refl _ w).grown h (fun _ e _ => e)
theorem cnt_step (next : Nat) (x : Wt) (u : V3) : cnt (stepIt next x u) = 1 := by
  unfold stepIt
  split <;> rfl
theorem cnt_items : ∀ (ws : List Wt) (us : List V3) (next : Nat), us.length = ws.length → cnt (items next ws us) = ws.length
  | [], us, next, _ => by rw [items_nil]; rfl
  | x :: ws, u :: us, next, h => by
    rw [items, cnt_append, cnt_step, cnt_items ws us (x.n + 1) (by simpa using h), List.length_cons, Nat.add_comm]
  | x :: ws, [], next, h => by simp at h
theorem items_len : ∀ (ws : List Wt) (us : List V3) (next : Nat), (items next ws us).length ≤ 2 * ws.length
  | [], us, next => by rw [items_nil]; simp
  | x :: ws, u :: us, next => by
    have h1 := items_len ws us (x.n + 1)
    have h2 : (stepIt next x u).length ≤ 2 := by unfold stepIt; split <;> simp
    rw [items, List.length_append, List.length_cons]
    omega
  | x :: ws, [], next => by simp [items]
/-- The loop's invariant: the boxes of must, out, gone, and of the iterator's buffer. -/
def LvI (b : Nat) (must : Int) (w : World) (pre : List It) (W : World) : Prop :=
  (((((Boxed W w.heap.size 3 (.int .i64 must)) ∧ (∃ v, Boxed W (w.heap.size + 1) 47 v ∧ W.ownsRow w.heap.size 62 14 v pre.length (pre.map It.cls).flatten ∧ True)) ∧ Boxed W (w.heap.size + 2) 3 (.int .i64 (cnt pre : Int))) ∧ Boxed W (w.heap.size + 3) 26 (ptr b)) ∧ Below w.heap.size w W) ∧ okFrom must 0 pre
theorem lvI_own (b : Nat) (must : Int) (w : World) {n : Nat} (hn : w.heap.size ≤ n) : OwnFrom n (LvI b must w) :=
  OwnFrom.and (OwnFrom.and (OwnFrom.and (OwnFrom.and (OwnFrom.and (Own.from (boxed_own w.heap.size 3 (fun _ => .int .i64 must)) _) (Own.from (holdsRow_own w.heap.size (w.heap.size + 1) 47 62 14 (fun pre : List It => pre.length) (fun pre => (pre.map It.cls).flatten) (fun _ _ => True)) _)) (Own.from (boxed_own (w.heap.size + 2) 3 (fun pre : List It => .int .i64 (cnt pre : Int))) _)) (Own.from (boxed_own (w.heap.size + 3) 26 (fun _ => ptr b)) _)) (ownFrom_below (Nat.le_refl _) hn)) (ownFrom_pure _ _)
theorem LvI.only {b : Nat} {must : Int} {w W W1 : World} {pre : List It} (h : LvI b must w pre W) (ho : Only (fun _ => False) W W1) : LvI b must w pre W1 := by
  obtain ⟨⟨⟨⟨⟨h1, v, h2, h3, h4⟩, h5⟩, h6⟩, h7⟩, h8⟩ := h
  exact ⟨⟨⟨⟨⟨Is.only h1 ho (by simp), v, Is.only h2 ho (by simp), owned_only h3 ho (by simp), h4⟩, Is.only h5 ho (by simp)⟩, Is.only h6 ho (by simp)⟩, h7.trans (ho.below (by simp) h7.size)⟩, h8⟩
theorem keeps_only {B : Nat} {W W1 : World} (h : Only (fun _ => False) W W1) : KeepsFrom B W W1 := ⟨h.size, fun k o _ hk _ => (h.same k (lt_of_heap hk) (by simp)).trans hk⟩
theorem own_blk_is {w : World} {B n sz k : Nat} {T : TypeId} {x : Value} {xs : List Value} (h : w.ownsRow B T sz x n xs) (hk : x.ownBlock = some k) : ∃ cs, Is w k T cs := by
  rcases h.2 with ⟨rfl, -⟩ | ⟨g, cap, cur, rfl, -, hg, -⟩
  · simp [Value.ownBlock] at hk
  · simp [Value.ownBlock] at hk
    subst hk
    exact ⟨_, hg⟩
/-- What a round keeps. -/
theorem bkp_of {Bn b B n n0 N1 N2 : Nat} {m : Bf} {v vo c1 c2 : Value} {us : List V3} {xs : List Value} {W W1 : World} (ho : Only (fun k => k = N1 ∨ k = N2 ∨ vo.ownBlock = some k) W W1) (h1 : Is W N1 47 #[c1]) (h2 : Is W N2 3 #[c2]) (h3 : W.ownsRow n0 62 14 vo n xs) : BKp Bn b m v us B W W1 := by
  have key : ∀ (k : Nat) (T : TypeId) (cs : Array Value), Is W k T cs → T ≠ 47 → T ≠ 3 → 62 ≠ T → ¬ (k = N1 ∨ k = N2 ∨ vo.ownBlock = some k) := fun k T cs hI t1 t2 t3 e => by
    rcases e with e | e | e
    · exact hI.apart h1 t1 e
    · exact hI.apart h2 t2 e
    · exact owned_off h3 hI t3 e
  refine ⟨fun h => ⟨h.1.only ho (key _ _ _ h.1 (by decide) (by decide) (by decide)), h.2.only ho (key _ _ _ h.2.is (by decide) (by decide) (by decide)) (fun k hk => ?_) (fun u hu k hk => ?_)⟩, fun k cs hI => hI.only ho (key _ _ _ hI (by decide) (by decide) (by decide))⟩
  · obtain ⟨cs, hc⟩ := own_blk_is h.2.row.1 hk
    exact key _ _ _ hc (by decide) (by decide) (by decide)
  · intro e
    obtain ⟨i, hi⟩ := List.getElem?_of_mem hu
    have hil : i < m.ws.length := by rw [← h.2.pks.len]; exact (List.getElem?_eq_some_iff.1 hi).1
    have hop := h.2.pks.own i _ u (List.getElem?_eq_getElem hil) hi
    rcases e with rfl | rfl | e
    · exact hop.free_of h1 (by decide) (by decide) hk
    · exact hop.free_of h2 (by decide) (by decide) hk
    · rcases hk with hk | hk | hk
      · exact owned_apart hop.1 h3 (by decide) k hk e
      · exact owned_apart hop.2.1 h3 (by decide) k hk e
      · exact owned_apart hop.2.2 h3 (by decide) k hk e
theorem put_only {w : World} {l : Nat} {o : Obj} (o' : Obj) (hl : w.heap[l]? = some o) (ho : o.isCells = false) : Only (fun k => k = l) w (w.putObj l o') ∧ (∀ (k : Nat) (T : TypeId) (cs : Array Value), Is w k T cs → ¬ k = l) :=
  ⟨(onlyG (grownBy_putObj' w l o')).mono (fun k _ e => (Option.some.inj e).symm), fun k T cs hI e => by
    have h1 : w.heap[k]? = _ := hI
    rw [e, hl] at h1
    cases h1
    cases ho⟩
theorem Pks.putObj {B : Nat} {ws : List Wt} {us : List V3} {w : World} (h : Pks w B ws us) {l : Nat} {o : Obj} (o' : Obj) (hl : w.heap[l]? = some o) (ho : o.isCells = false) : Pks (w.putObj l o') B ws us := by
  obtain ⟨hO, key⟩ := put_only o' hl ho
  refine h.only hO (fun u hu k hk => ?_)
  obtain ⟨i, hi⟩ := List.getElem?_of_mem hu
  have hil : i < ws.length := by rw [← h.len]; exact (List.getElem?_eq_some_iff.1 hi).1
  have hop := h.own i _ u (List.getElem?_eq_getElem hil) hi
  rcases hk with hk | hk | hk
  · obtain ⟨cs, hc⟩ := own_blk_is hop.1 hk
    exact key _ _ _ hc
  · obtain ⟨cs, hc⟩ := own_blk_is hop.2.1 hk
    exact key _ _ _ hc
  · obtain ⟨cs, hc⟩ := own_blk_is hop.2.2 hk
    exact key _ _ _ hc
theorem Bfr.putObj {b B : Nat} {m : Bf} {v : Value} {us : List V3} {w : World} (h : Bfr w b m v us B) {l : Nat} {o : Obj} (o' : Obj) (hl : w.heap[l]? = some o) (ho : o.isCells = false) : Bfr (w.putObj l o') b m v us B := by
  obtain ⟨hO, key⟩ := put_only o' hl ho
  refine ⟨h.is.only hO (key _ _ _ h.is), h.row.only hO (fun k hk => ?_), h.pks.putObj o' hl ho⟩
  obtain ⟨cs, hc⟩ := own_blk_is h.row.1 hk
  exact key _ _ _ hc
theorem BMem.putObj {Bn b B : Nat} {m : Bf} {v : Value} {us : List V3} {w : World} (h : BMem Bn b m v us B w) {l : Nat} {o : Obj} (o' : Obj) (hl : w.heap[l]? = some o) (ho : o.isCells = false) : BMem Bn b m v us B (w.putObj l o') := by
  obtain ⟨hO, key⟩ := put_only o' hl ho
  exact ⟨h.1.only hO (key _ _ _ h.1), h.2.putObj o' hl ho⟩
theorem BKp.putObj {Bn b B : Nat} {m : Bf} {v : Value} {us : List V3} {w : World} {l : Nat} {o : Obj} (o' : Obj) (hl : w.heap[l]? = some o) (ho : o.isCells = false) : BKp Bn b m v us B w (w.putObj l o') :=
  ⟨fun h => h.putObj o' hl ho, fun k cs hI => (World.putObj_heap_other (fun e => by
    have h1 : w.heap[k]? = _ := hI
    first | rw [← e, hl] at h1 | rw [e, hl] at h1
    cases h1
    cases ho)).trans hI⟩
theorem inBlock_of {Q : Exit → Act → World → Prop} {e : Exit} {a : Act} {w : World} (he : e = .normal ∨ e = .exit 0) (h : Q .normal a w) : Exit.inBlock 0 Q e a w := by
  rcases he with rfl | rfl
  · exact h
  · simpa [Exit.inBlock] using h
def LvX (b : Nat) (must : Int) (w : World) (n0 L : Nat) (ALL : List It) (tmps : Array Value) (e : Exit) (a : Act) (W : World) : Prop :=
  (e = .normal ∨ e = .exit 0) ∧ ∃ D, a = ⟨tmps, [{ target := .collected D, args := #[] }]⟩ ∧ n0 ≤ D ∧ W.heap[D]? = some (.deferred (some [])) ∧ LvI b must w (lvOf must 0 ALL) W ∧ cnt (lvOf must 0 ALL) ≤ L
theorem wpIn_imp {n : Nat} {P : Program} {c : Code} {Q Q' : Exit → Act → World → Prop} {a : Act} {w : World} (h : c.wpIn Fence.wide n P Q' a w) (hi : ∀ e a w, Q' e a w → Q e a w) : c.wpIn Fence.wide n P Q a w :=
  wpIn_wide.2 (wp_mono (wpIn_wide.1 h) hi)
set_option maxRecDepth 100000 in
set_option maxHeartbeats 1000000 in
theorem all_made (b : Nat) (w : World) : Calls Try.prog 40 #[ptr b] w fun e w' => e = .returned (.func (.func 52) #[] #[.pointer (some ⟨w.heap.size, 0, none⟩)]) ∧ w' = w.alloc (.cells #[ptr b] 26) := by
  go_enter Try.func40, Try.ntmps40
  go_wp2
  go_ret
  exact ⟨rfl, rfl⟩
theorem all_stops (Bn b B : Nat) (m : Bf) (v : Value) (us : List V3) (hok : m.Ok) (w : World) (hM : BMem Bn b m v us B w) :
    SeqStopsK Fence.wide 3 Try.prog 52 #[.pointer (some ⟨Bn, 0, none⟩)] (fun x : It => #[.agg x.cls.toArray]) (BKp Bn b m v us B) (fun ys => ys = items m.nx m.ws us) (fun pre => pre <+: items m.nx m.ws us) (items m.nx m.ws us).length w := fun l J Jx W hW hJ hJx hY h0 =>
  all1_in Bn b l B m v us hok _ rfl J Jx W (fun s A B hs ho => hJ s A B none hs ho.grownNone (fun r e => by cases e)) hY (hM.pure (Only.of_below hW)) h0
noncomputable def lv8_code : Code := ((Try.f31.body.bind (codeRegion 8)).getD .skip)
theorem rowAt_new (w : World) (cs : List Value) (T : TypeId) : ∀ j u, cs[j]? = some u → (w.alloc (.cells cs.toArray T)).cell? ((⟨w.heap.size, 0, none⟩ : Addr).add j) = some u := fun j u h => by
  rw [add_plain, Nat.zero_add, (Is.made w T cs.toArray).cell]
  simpa using h
/-- What a round has appended. -/
def Appd (b : Nat) (w : World) (vo : Value) (pre : List It) (x : It) (W1 W2 : World) : Prop :=
  ∃ v', Boxed W2 (w.heap.size + 1) 47 v' ∧ W2.ownsRow w.heap.size 62 14 v' (pre.length + 1) ((pre.map It.cls).flatten ++ x.cls) ∧ Only (fun k => k = w.heap.size + 1 ∨ vo.ownBlock = some k) W1 W2
set_option maxRecDepth 100000 in
set_option maxHeartbeats 4000000 in
theorem lv8 (l b o : Nat) (must : Int) (w W1 : World) (vo : Value) (pre : List It) (x : It) (q1 q2 q3 q4 q5 q6 q7 q8 q9 q10 q11 q12 q13 : Value) (hq : x.cls = [.bool x.gap, q1, q2, q3, q4, q5, q6, q7, q8, q9, q10, q11, q12, q13]) (h2 : Boxed W1 (w.heap.size + 1) 47 vo) (h3 : W1.ownsRow w.heap.size 62 14 vo pre.length (pre.map It.cls).flatten) (hIo : Is W1 o 62 x.cls.toArray) (hsz : w.heap.size ≤ W1.heap.size) (hpl : pre.length < 600) (u8 u9 u10 u11 u12 u13 u14 u15 u16 u17 u18 u19 u20 u21 u22 u23 u24 u25 u26 u27 u28 u29 u30 u31 u32 u33 u34 u35 u36 u37 u38 u39 u40 u41 u42 u43 u44 u45 u46 u47 u48 : Value) (n : Nat) (Q : Exit → Act → World → Prop)
    (hend : ∀ (y21 y22 y23 y24 : Value) (W2 : World), Appd b w vo pre x W1 W2 → Q .normal ⟨#[ptr b, .int .i64 must, undef, .pointer (some ⟨w.heap.size, 0, none⟩), .slice none 0 0, .pointer (some ⟨w.heap.size + 1, 0, none⟩), .pointer (some ⟨w.heap.size + 2, 0, none⟩), .pointer (some ⟨o, 0, none⟩), u8, u9, u10, u11, u12, u13, u14, u15, u16, u17, u18, u19, u20, y21, y22, y23, y24, u25, u26, u27, u28, u29, u30, u31, u32, u33, u34, u35, u36, u37, u38, u39, u40, u41, u42, u43, u44, u45, u46, u47, u48], []⟩ W2) :
    Code.wpIn (Fence.wide.inRound l) n Try.prog lv8_code Q ⟨#[ptr b, .int .i64 must, undef, .pointer (some ⟨w.heap.size, 0, none⟩), .slice none 0 0, .pointer (some ⟨w.heap.size + 1, 0, none⟩), .pointer (some ⟨w.heap.size + 2, 0, none⟩), .pointer (some ⟨o, 0, none⟩), u8, u9, u10, u11, u12, u13, u14, u15, u16, u17, u18, u19, u20, u21, u22, u23, u24, u25, u26, u27, u28, u29, u30, u31, u32, u33, u34, u35, u36, u37, u38, u39, u40, u41, u42, u43, u44, u45, u46, u47, u48], []⟩ W1 := by
  conv => arg 4; whnf
  obtain ⟨i0, hi, hz0, hz1, hz2⟩ := info_parts Try.infoOtF
  have HONE := Lib.hid (show ∀ u ∈ [.bool x.gap, q1, q2, q3, q4, q5, q6, q7, q8, q9, q10, q11, q12, q13], u.oneCell' = true from by rw [← hq]; exact x.cls_one)
  rw [hq] at hIo
  have cv := h2.cell
  have H2 := Lib.hid h2
  have H3 := Lib.hid h3
  have HQ := Lib.hid hq
  have RA := Lib.hid (show W1.rangeAt o 0 [.bool x.gap, q1, q2, q3, q4, q5, q6, q7, q8, q9, q10, q11, q12, q13] from rangeAt_is hIo)
  have HEND := Lib.hid hend
  have HSZ := Lib.hid hsz
  clear h2 h3 hIo hq hend hsz
  gi_wp2_with (first
    | (refine wpListIn_load_mid rfl 62 _ rfl o 0 rfl [.bool x.gap, q1, q2, q3, q4, q5, q6, q7, q8, q9, q10, q11, q12, q13] _ RA.out Try.underlying62 rfl Try.infoOt ?_)
    | (gi_at_builtin; refine wpListIn_append_own _ rfl _ _ 47 rfl w.heap.size 62 i0 _ 14 128 Try.underlying47 hi hz0 hz1 hz2 rfl (by decide) _ _ _ rfl (owned_only H3.out ((Only.refl (fun _ => False) _).alloc _) (by simp)) ⟨W1.heap.size, 0, none⟩ 1 1 [.bool x.gap, q1, q2, q3, q4, q5, q6, q7, q8, q9, q10, q11, q12, q13] rfl rfl (rowAt_new _ _ _) HONE.out (by unfold maxLen; omega) (by omega) (by have := HSZ.out; simp; omega) ?_; intro v' w3 hown' hgrow _; obtain ⟨g', cap', rfl⟩ := ownsRow_succ hown'; have HOW := Lib.hid hown'; have HGR := Lib.hid hgrow; have HB3 := Lib.hid (show Boxed w3 (w.heap.size + 1) 47 vo from (H2.out.alloc _).kept hgrow (H2.out.not_row (by decide) H3.out)); clear hown' hgrow; have hc1 := HB3.out.cell; have hf1 := HB3.out.frozen))
  refine HEND.out _ _ _ _ _ ⟨_, HB3.out.set _, ?_, ?_⟩
  · rw [HQ.out]
    exact HOW.out.kept (grownBy_setCell' w3 _ _) (.inr (HB3.out.not_row (by decide) HOW.out).symm)
  · exact ((((Only.refl _ W1).alloc _).grown HGR.out (fun i e _ => .inr e))).set (p := ⟨w.heap.size + 1, 0, none⟩) (fun _ => .inl rfl) _
theorem fin8 (b : Nat) (must : Int) (w W W1 : World) (vo : Value) (pre : List It) (x : It) (m : Bf) (v : Value) (us : List V3) (B : Nat) (n0 : Nat) (W2 : World) (c : Nat) (hc : cnt (pre ++ [x]) = c) (h01 : Only (fun k => k = w.heap.size + 2) W W1) (h1 : Boxed W w.heap.size 3 (.int .i64 must)) (h2 : Boxed W (w.heap.size + 1) 47 vo) (h3 : W.ownsRow w.heap.size 62 14 vo pre.length (pre.map It.cls).flatten) {cv : Value} (h5 : Boxed W (w.heap.size + 2) 3 cv) (h6 : Boxed W (w.heap.size + 3) 26 (ptr b)) (h7 : Below w.heap.size w W)
    (hc1 : Boxed W1 (w.heap.size + 2) 3 (.int .i64 (c : Int))) (hA : Appd b w vo pre x W1 W2) (h8 : okFrom must 0 (pre ++ [x])) : KeepsFrom n0 W W2 ∧ BKp (w.heap.size + 3) b m v us B W W2 ∧ LvI b must w (pre ++ [x]) W2 := by
  obtain ⟨v', a1, a2, a3⟩ := hA
  have ho : Only (fun k => k = w.heap.size + 1 ∨ k = w.heap.size + 2 ∨ vo.ownBlock = some k) W W2 :=
    (h01.mono (fun _ _ e => .inr (.inl e))).trans a3 (fun k _ e => e.elim .inl (fun e => .inr (.inr e)))
  have hrow : ∀ k, vo.ownBlock = some k → w.heap.size ≤ k ∧ ∃ cs, Is W k 62 cs := fun k hk => ⟨(World.ownsRow.lt h3 k hk).1, own_blk_is h3 hk⟩
  have far : ∀ (k : Nat) (T : TypeId) (cs : Array Value), Is W k T cs → T ≠ 62 → k ≠ w.heap.size + 1 → k ≠ w.heap.size + 2 → Is W2 k T cs := fun k T cs hI hT n1 n2 => hI.only ho (fun e => by
    rcases e with e | e | e
    · exact n1 e
    · exact n2 e
    · obtain ⟨-, cs', hc'⟩ := hrow k e
      exact hI.apart hc' hT rfl)
  refine ⟨⟨ho.size, fun k o _ hk hcl => ?_⟩, bkp_of ho h2 h5 h3, ⟨⟨⟨⟨⟨far _ _ _ h1 (by decide) (by omega) (by omega), v', a1, ?_, trivial⟩, ?_⟩, far _ _ _ h6 (by decide) (by omega) (by omega)⟩, h7.trans (ho.below (fun i e => e.elim (fun e => by omega) (fun e => e.elim (fun e => by omega) (fun e => (hrow i e).1))) h7.size)⟩, h8⟩⟩
  · refine (ho.same k (lt_of_heap hk) (fun e => ?_)).trans hk
    have nc : ∀ (T : TypeId) (cs : Array Value), ¬ Is W k T cs := fun T cs hI => by
      have h' : W.heap[k]? = _ := hI
      rw [hk] at h'
      cases h'
      cases hcl
    rcases e with rfl | rfl | e
    · exact nc _ _ h2
    · exact nc _ _ h5
    · obtain ⟨-, cs', hc'⟩ := hrow k e
      exact nc _ _ hc'
  · rw [List.map_append, List.flatten_append, List.length_append]
    simpa using a2
  · rw [hc]
    exact Is.only hc1 a3 (fun e => by
      rcases e with e | e
      · omega
      · obtain ⟨-, cs', hc'⟩ := hrow _ e
        exact Is.apart h5 hc' (by decide) rfl)
/-- What leave leaves behind it: what left, and the buffer. -/
def Left3 (b B : Nat) (m : Bf) (v : Value) (us : List V3) (out : List It) (w : World) (e : Ending) (w' : World) : Prop :=
  ∃ vo, e = .returned vo ∧ OwnS w' w.heap.size 62 14 vo (out.map It.cls) ∧ Gone b m v us B (cnt out) w w'
set_option maxRecDepth 100000 in
set_option maxHeartbeats 4000000 in
theorem leave_is (b B : Nat) (must : Int) (m : Bf) (v : Value) (us : List V3) (w : World) (h : Bfr w b m v us B) (hok : m.Ok) : Calls Try.prog 31 #[ptr b, .int .i64 must] w (Left3 b B m v us (lvOf must 0 (items m.nx m.ws us)) w) := by
  have HSTO := Lib.hid (fun Bn (w1 : World) (hM : BMem Bn b m v us B w1) => all_stops Bn b B m v us hok w1 hM)
  have H := Lib.hid h
  have HLEN := Lib.hid (show (items m.nx m.ws us).length ≤ 600 from by have h1 := items_len m.ws us m.nx; have h2 := hok.fit.len; omega)
  have HCNT := Lib.hid (cnt_items m.ws us m.nx h.pks.len)
  have HL := Lib.hid hok.fit.len
  have hbw : b < w.heap.size := h.is.lt
  obtain ⟨i0, hi, hz0, hz1, hz2⟩ := info_parts Try.infoOtF
  refine (callsIn_wide (n := 4)).1 ?_
  refine callsIn_of_wp_marks Try.func31 rfl trivial ?_ rfl
  simp only [Try.ntmps31, List.size_toArray, List.length_cons, List.length_nil, Nat.reduceAdd, Nat.reduceSub, Array.replicate_succ, Array.replicate_zero, List.push_toArray, List.append_toArray, List.nil_append, List.cons_append]
  clear h hok
  gi_wp2
  refine wpIn_wide.2 (wp_scope_straight ((wpIn_wide (n := 4)).1 ?_))
  gi_wp2_with fail
  refine wpIn_label ?_
  gi_wp2_with (refine ⟨trivial, ?_⟩; (gi_at_call 40; refine (callsIn_wide.2 (all_made b _)).mono ?_; rintro e w' ⟨rfl, rfl⟩))
  generalize hw0 : World.alloc (World.alloc (World.alloc (World.alloc _ _) _) _) _ = W0
  have sz0 : W0.heap.size = w.heap.size + 4 := by rw [← hw0]; simp
  have B0 := Lib.hid (show Boxed W0 w.heap.size 3 (.int .i64 must) from by rw [← hw0]; exact (((Boxed.new w _ _).alloc _).alloc _).alloc _)
  have B1 := Lib.hid (show Boxed W0 (w.heap.size + 1) 47 (.slice none 0 0) from by
    rw [← hw0]
    have := Boxed.new (w.alloc (.cells #[.int .i64 must] 3)) 47 (.slice none 0 0)
    rw [World.size_alloc] at this
    exact (this.alloc _).alloc _)
  have B2 := Lib.hid (show Boxed W0 (w.heap.size + 2) 3 (.int .i64 0) from by
    rw [← hw0]
    have := Boxed.new ((w.alloc (.cells #[.int .i64 must] 3)).alloc (.cells #[.slice none 0 0] 47)) 3 (.int .i64 0)
    rw [World.size_alloc, World.size_alloc] at this
    exact this.alloc _)
  have B3 := Lib.hid (show Boxed W0 (w.heap.size + 3) 26 (ptr b) from by
    rw [← hw0]
    have := Boxed.new (((w.alloc (.cells #[.int .i64 must] 3)).alloc (.cells #[.slice none 0 0] 47)).alloc (.cells #[.int .i64 0] 3)) 26 (ptr b)
    rw [World.size_alloc, World.size_alloc, World.size_alloc] at this
    exact this)
  have hB0 : Below w.heap.size w W0 := by rw [← hw0]; exact ((((Below.refl _ w).alloc (Nat.le_refl _) _).alloc (by simp) _).alloc (by simp; omega) _).alloc (by simp; omega) _
  have HB := Lib.hid hB0
  have hI0 : LvI b must w [] W0 := ⟨⟨⟨⟨⟨B0.out, _, B1.out, World.ownsRow_nil _ _ _ _, trivial⟩, B2.out⟩, B3.out⟩, hB0⟩, trivial⟩
  have HI0 := Lib.hid hI0
  have hM0 : BMem (w.heap.size + 3) b m v us B W0 := ⟨B3.out, H.out.pure (Only.of_below hB0)⟩
  have HST := Lib.hid (HSTO.out (w.heap.size + 3) W0 hM0)
  have HEQ := Lib.hid (show ∃ ALL, items m.nx m.ws us = ALL from ⟨_, rfl⟩)
  obtain ⟨ALL, hALL⟩ := HEQ.out
  rw [hALL] at HST HLEN HCNT ⊢
  have HALL := Lib.hid hALL
  have HSW := Lib.hid (show w.heap.size ≤ W0.heap.size from by omega)
  clear hw0 hB0 hI0 hM0 HEQ HSTO hALL
  refine wpIn_imp (Q' := LvX b must w W0.heap.size m.ws.length ALL (List.toArray (ptr b :: .int .i64 must :: undef :: .pointer (some ⟨w.heap.size, 0, none⟩) :: .slice none 0 0 :: .pointer (some ⟨w.heap.size + 1, 0, none⟩) :: .pointer (some ⟨w.heap.size + 2, 0, none⟩) :: undef :: ptr b :: .func (.func 52) #[] #[.pointer (some ⟨w.heap.size + 3, 0, none⟩)] :: undef :: undef :: undef :: undef :: undef :: undef :: undef :: undef :: undef :: undef :: undef :: undef :: undef :: undef :: undef :: undef :: undef :: undef :: undef :: undef :: undef :: undef :: undef :: undef :: undef :: undef :: undef :: undef :: undef :: undef :: undef :: undef :: undef :: undef :: undef :: undef :: undef :: undef :: undef :: []))) ?loop ?rest
  case loop =>
    refine wpIn_rangeFunc_ownH rfl (by decide) (gf := 52) (lb := #[.pointer (some ⟨w.heap.size + 3, 0, none⟩)]) rfl trivial (enters_of Try.func52 (by kernel_rfl) rfl)
      HST.out (fun {A B C} h k => ⟨fun x => k.1 (h.1 x), fun n cs x => k.2 n cs (h.2 n cs x)⟩) (fun W l o o' _ hl ho _ => BKp.putObj o' hl ho) (Below.refl _ _) (fun _ => rfl)
      (LvI b must w) (fun c pre W => c = .exit 0 ∧ ∃ q x, pre = q ++ [x] ∧ x.gap = true ∧ must ≤ (cnt q : Int) ∧ LvI b must w q W) (lvI_own b must w (by omega))
      (fun c s X Y row hs hg hr => by obtain ⟨h1, q, x, h2, h3, h4, h5⟩ := hs; exact ⟨h1, q, x, h2, h3, h4, lvI_own b must w (by omega) q X Y row h5 hg hr⟩) HI0.out
      (fun x a' W => ∃ o, a' = ⟨(List.toArray (ptr b :: .int .i64 must :: undef :: .pointer (some ⟨w.heap.size, 0, none⟩) :: .slice none 0 0 :: .pointer (some ⟨w.heap.size + 1, 0, none⟩) :: .pointer (some ⟨w.heap.size + 2, 0, none⟩) :: .pointer (some ⟨o, 0, none⟩) :: ptr b :: .func (.func 52) #[] #[.pointer (some ⟨w.heap.size + 3, 0, none⟩)] :: .agg x.cls.toArray :: undef :: undef :: undef :: undef :: undef :: undef :: undef :: undef :: undef :: undef :: undef :: undef :: undef :: undef :: undef :: undef :: undef :: undef :: undef :: undef :: undef :: undef :: undef :: undef :: undef :: undef :: undef :: undef :: undef :: undef :: undef :: undef :: undef :: undef :: undef :: undef :: undef :: undef :: [])), []⟩ ∧ Is W o 62 x.cls.toArray)
      (fun x a' s X Y row hs hg hr => by
        obtain ⟨o, h1, h2⟩ := hs
        refine ⟨o, h1, h2.only (onlyG hg) (fun e => ?_)⟩
        obtain ⟨-, ob, ho, hc⟩ := hr o e
        have h2' : X.heap[o]? = _ := h2
        rw [h2'] at ho
        cases ho
        cases hc) ?assign ?body ?done ?stop
    case assign =>
      intro l pre x W K hI hK
      have HK := Lib.hid hK
      have I0 := Lib.hid hI
      have HV := Lib.hid (show x.cls.toArray.all (·.oneCell') = true from all_oneCell_toArray x.cls_one)
      clear hK hI
      gi_wp2_with (refine wpListIn_store_is (o := ⟨none, _, _, _, _, _⟩) rfl 62 _ _ rfl W.heap.size x.cls.toArray rfl rfl 62 _ (Is.made W _ _) Try.infoOt rfl HV.out ?_; intro w4 hi4 ho4; have I4 := Lib.hid hi4; have O4 := Lib.hid (((Only.refl _ W).alloc _).trans ho4 (fun i hi e => by omega) : Only (fun _ => False) W w4); clear hi4 ho4)
      exact HK.out _ w4 (keeps_only O4.out) ⟨fun h => h.pure O4.out, fun k cs h => h.only O4.out (by simp)⟩ (I0.out.only O4.out) ⟨W.heap.size, rfl, I4.out⟩
    case body =>
      rintro l pre x a' W hl - hI ⟨o, rfl, hIo⟩ hlt
      have hpl : pre.length < 600 := by have := HLEN.out; omega
      have hcp : cnt pre < 600 := by have := cnt_le pre; omega
      obtain ⟨⟨⟨⟨⟨h1, vo, h2, h3, -⟩, h5⟩, h6⟩, h7⟩, h8⟩ := hI
      have hq1 : x.cls.toArray[0]? = some (.bool x.gap) := rfl
      have H1 := Lib.hid h1
      have H2 := Lib.hid h2
      have H3 := Lib.hid h3
      have H5 := Lib.hid h5
      have H6 := Lib.hid h6
      have H7 := Lib.hid h7
      have H8 := Lib.hid h8
      have HIo := Lib.hid hIo
      have cm := h1.cell
      have cc := h5.cell
      have fc := h5.frozen
      have cg : W.cell? ⟨o, 0, none⟩ = some (.bool x.gap) := by rw [hIo.cell]; exact hq1
      obtain ⟨gp, hgp⟩ : ∃ gp, x.gap = gp := ⟨_, rfl⟩
      rw [hgp] at cg
      have HGP := Lib.hid hgp
      obtain ⟨cp, hcpd⟩ : ∃ cp, cnt pre = cp := ⟨_, rfl⟩
      rw [hcpd] at cc hcp
      have HCP := Lib.hid hcpd
      have HFIN := Lib.hid (fun W1 => fin8 b must w W W1 vo pre x m v us B)
      clear hIo h1 h2 h3 h5 h6 h7 h8 hq1 hgp hcpd
      refine wpIn_block (wpIn_seq_k fun K hK => ?_)
      have HK := Lib.hid hK
      clear hK
      cases gp
      · gi_wp2
        generalize hW1 : World.setCell _ _ _ = W1
        refine HK.out _ _ ?_
        have O1 := Lib.hid (show Only (fun k => k = w.heap.size + 2) W W1 from by rw [← hW1]; exact Only.set (S := fun k => k = w.heap.size + 2) (p := ⟨w.heap.size + 2, 0, none⟩) (Only.refl _ W) (fun _ => rfl) _)
        have C1 := Lib.hid (show Boxed W1 (w.heap.size + 2) 3 (.int .i64 ((cp + 1 : Nat) : Int)) from by rw [← hW1]; have := H5.out.set (.int .i64 ((cp + 1 : Nat) : Int)); exact this)
        clear hW1
        refine lv8 l b o must w W1 vo pre x _ _ _ _ _ _ _ _ _ _ _ _ _ rfl (Is.only H2.out O1.out (fun e => by omega)) (owned_only H3.out O1.out (fun k hk e => owned_off H3.out H5.out (by decide) (by rw [hk, e]))) (HIo.out.only O1.out (fun e => HIo.out.apart H5.out (by decide) e)) (Nat.le_trans H7.out.size O1.out.size) hpl _ _ _ _ _ _ _ _ _ _ _ _ _ _ _ _ _ _ _ _ _ _ _ _ _ _ _ _ _ _ _ _ _ _ _ _ _ _ _ _ _ _ _ ?_
        rintro y21 y22 y23 y24 W2 hA
        exact HFIN.out W1 _ W2 (cp + 1) (by rw [cnt_append, HCP.out]; simp [cnt, HGP.out]) (O1.out.mono (fun _ _ e => e)) H1.out H2.out H3.out H5.out H6.out H7.out C1.out hA (okFrom_snoc must pre x 0 H8.out (fun h => by rw [HGP.out] at h; cases h))
      · by_cases hge : must ≤ (cp : Int)
        · gi_wp2
          exact ⟨KeepsFrom.refl _ _, rfl, pre, x, rfl, HGP.out, by rw [HCP.out]; exact hge, ⟨⟨⟨⟨⟨H1.out, vo, H2.out, H3.out, trivial⟩, H5.out⟩, H6.out⟩, H7.out⟩, H8.out⟩⟩
        · have hge2 : (cp : Int) < must := by omega
          gi_wp2
          refine HK.out _ _ ?_
          refine lv8 l b o must w W vo pre x _ _ _ _ _ _ _ _ _ _ _ _ _ rfl H2.out H3.out HIo.out H7.out.size hpl _ _ _ _ _ _ _ _ _ _ _ _ _ _ _ _ _ _ _ _ _ _ _ _ _ _ _ _ _ _ _ _ _ _ _ _ _ _ _ _ _ _ _ ?_
          rintro y21 y22 y23 y24 W2 hA
          exact HFIN.out W _ W2 cp (by rw [cnt_append, HCP.out]; simp [cnt, HGP.out]) (Only.refl _ W) H1.out H2.out H3.out H5.out H6.out H7.out (by have := H5.out; rw [HCP.out] at this; exact this) hA (okFrom_snoc must pre x 0 H8.out (fun _ => by rw [Nat.zero_add, HCP.out]; omega))
    case done =>
      rintro D ys W hD rfl hI hK
      have hlv : lvOf must 0 ys = ys := by have := okFrom_lv must ys [] 0 hI.2; simpa [lvOf] using this
      exact ⟨.inl rfl, D, rfl, hD, hK, by rw [hlv]; exact hI, by rw [hlv, HCNT.out]; exact Nat.le_refl _⟩
    case stop =>
      rintro D c pre W hD hpre ⟨rfl, q, x, rfl, hx, hq, hI⟩ hK
      have hlv : lvOf must 0 ALL = q := by
        obtain ⟨t, ht⟩ := hpre
        rw [← ht, List.append_assoc, okFrom_lv must q _ 0 hI.2, List.singleton_append, lvOf, hx, if_pos rfl, if_pos (by simpa using hq), List.append_nil]
      have hcl : cnt q ≤ m.ws.length := by
        obtain ⟨t, ht⟩ := hpre
        rw [← HCNT.out, ← ht, cnt_append, cnt_append]
        omega
      have HF := Lib.hid (show LvI b must w (lvOf must 0 ALL) W ∧ cnt (lvOf must 0 ALL) ≤ m.ws.length from ⟨by rw [hlv]; exact hI, by rw [hlv]; exact hcl⟩)
      clear hlv hcl hpre hI
      gi_wp2
      exact ⟨.inr rfl, D, rfl, by omega, hK, HF.out.1, HF.out.2⟩
  case rest =>
    rintro e a W ⟨he, D, rfl, hD, hK, hI, hcn⟩
    refine inBlock_of he ?_
    clear he
    obtain ⟨⟨⟨⟨⟨h1, vo, h2, h3, -⟩, h5⟩, h6⟩, h7⟩, h8⟩ := hI
    have HW := Lib.hid (H.out.pure (Only.of_below h7))
    have HD := Lib.hid hD
    have HK := Lib.hid hK
    have H2 := Lib.hid h2
    have H3 := Lib.hid h3
    have H7 := Lib.hid h7
    have HCN := Lib.hid hcn
    have H5 := Lib.hid h5
    obtain ⟨OUTS, hOUT⟩ : ∃ OUTS, lvOf must 0 ALL = OUTS := ⟨_, rfl⟩
    rw [hOUT] at H3 H5 HCN ⊢
    have HOUT := Lib.hid hOUT
    have hk := ‹∀ (a : Act) (w : World), Code.wpIn Fence.wide 4 Try.prog _ _ a w → _›
    refine hk _ _ ?_
    clear h1 h2 h3 h5 h6 h7 h8 hD hK hcn hOUT hk HI0 HST B0 B1 B2 B3 HB HCNT HLEN sz0
    refine wpIn_seq_k fun K hK => wpIn_wide.2 ?_
    refine lv9 _ b (w.heap.size + 2) B (cnt OUTS) m v us _ _ _ _ _ _ _ _ _ _ _ _ _ _ _ _ _ _ _ _ _ _ _ _ _ _ _ _ _ _ _ _ _ _ _ _ _ _ _ _ _ _ _ _ _ _ _ _ W HW.out HL.out HCN.out H5.out ?_
    rintro y25 y26 y27 y28 y29 y30 y31 y32 y33 y34 y35 y36 y37 y38 y39 y40 y41 y42 y43 y44 y45 y46 y47 W9 hG hgb
    refine hK _ _ ?_
    have HG := Lib.hid hG
    have key : ∀ (k : Nat) (T : TypeId) (cs : Array Value), Is W k T cs → T ≠ 65 → 79 ≠ T → ¬ (k = b ∨ v.ownBlock = some k) := fun k T cs hI t1 t2 e => by
      rcases e with e | e
      · exact hI.apart HW.out.is t1 e
      · exact owned_off HW.out.row.1 hI t2 e
    have H29 := Lib.hid (show Boxed W9 (w.heap.size + 1) 47 vo from Is.only H2.out hG.2.2 (key _ _ _ H2.out (by decide) (by decide)))
    have H39 := Lib.hid (owned_only H3.out hG.2.2 (fun k hk => by obtain ⟨cs, hc⟩ := own_blk_is H3.out hk; exact key _ _ _ hc (by decide) (by decide)))
    have HK9 := Lib.hid (show W9.heap[D]? = some (.deferred (some [])) from (hG.2.2.same D (lt_of_heap HK.out) (fun e => by
      rcases e with rfl | e
      · have h' : W.heap[_]? = _ := HW.out.is
        rw [HK.out] at h'
        cases h'
      · obtain ⟨cs, hc⟩ := own_blk_is HW.out.row.1 e
        have h' : W.heap[D]? = _ := hc
        rw [HK.out] at h'
        cases h')).trans HK.out)
    have cv := H29.out.cell
    clear hG hgb key hK
    gi_wp2
    rw [Exit.noGoto_ret]
    refine ⟨by simp, .inl ⟨_, _, rfl, run_takeDeferred HK9.out, _, results_tmp rfl _ _ _, ?_⟩⟩
    rw [HALL.out, HOUT.out]
    obtain ⟨⟨v', hg1⟩, hg2, hg3⟩ := HG.out
    refine ⟨vo, rfl, ⟨?_, fun xs hx => ?_⟩, ⟨v', hg1.putObj _ HK9.out rfl⟩, hg2.putObj _ HK9.out rfl, ?_⟩
    · rw [List.length_map]
      exact ownsRow_putObj H39.out _ HK9.out rfl
    · obtain ⟨y, -, rfl⟩ := List.mem_map.1 hx
      exact y.cls_length
    · have o1 : Only (fun k => k = b ∨ v.ownBlock = some k) w W9 := ((Only.of_below H7.out).mono (fun _ _ e => e.elim)).trans hg3 (fun _ _ e => e)
      have hDw : w.heap.size ≤ D := Nat.le_trans HSW.out HD.out
      exact o1.trans (put_only _ HK9.out rfl).1 (fun k hk e => absurd hk (by omega))
end Go.Proofs.Ytdcclighccejhaa
