/- Merged of StrB RqB RqC RqD RqE RqF RqG RqH RqI RqJ. Conditions: as each says. -/
import Derived.Test.YtdcclighccejhaaRoGr
import Derived.Test.YtdcclighccejhaaRqA
/- A row of structs appended to another one. Conditions: as each says. -/
set_option linter.unusedVariables false
set_option linter.unusedSimpArgs false
namespace Go.Proofs.Ytdcclighccejhaa
open Go Go.RowKit

theorem append_rows {o : Oper} {a : Act} {K : Act → World → Prop} {Q : Exit → Act → World → Prop} (w : World) (s x : Operand) {t T : TypeId} {sz bytes : Nat} (st : Sty t T sz bytes)
    (ho : o.op = .call { callee := .builtin .append, args := #[s, x], argTypes := #[t, t] })
    (B : Nat) (v : Value) (xss : List (List Value)) (hs : a.eval s = v) (hown : OwnS w B T sz v xss) (B2 : Nat) (v2 : Value) (yss : List (List Value)) (hx : a.eval x = v2) (hown2 : OwnS w B2 T sz v2 yss) (hp : 0 < yss.length)
    (h1 : ∀ ys ∈ yss, ∀ u ∈ ys, u.oneCell' = true)
    (hl : xss.length + yss.length ≤ 100000) (hby : bytes ≤ 100000) (hB : B ≤ w.heap.size)
    (h : ∀ v' w', OwnS w' B T sz v' (xss ++ yss) → Only (fun k => v.ownBlock = some k) w w' → K (a.put o.dst v') w') :
    Oper.wp Try.prog o a w K Q := by
  obtain ⟨i0, z, hi, hz0, hz1, hz2, hz3⟩ := st.info
  obtain ⟨g, c, e, -, hc, -, -⟩ := hown2.place hp
  subst e
  have hb1 : (xss.length + yss.length) * bytes ≤ 100000 * 100000 := Nat.mul_le_mul (by omega) hby
  refine wp_append_own w s x t ho B T i0 z sz bytes st.und hi hz0 hz1 hz2 hz3 st.pos v xss.length xss.flatten hs hown.1 ⟨g, 0, none⟩ yss.length c yss.flatten hx (flat_length _ hown2.2) (fun j u hu => ?_) (fun u hu => ?_) (by unfold maxLen; omega) (by omega) hB (fun v' w' h1 h2 _ => h v' w' ⟨?_, ?_⟩ ?_)
  · rw [add_plain]
    have := hown2.from_ (k := 0) j u (by simpa using hu)
    rw [Nat.zero_mul] at this
    exact this
  · obtain ⟨ys, hy, hu⟩ := List.mem_flatten.1 hu
    exact h1 ys hy u hu
  · rw [List.length_append, List.flatten_append]
    exact h1
  · intro ys hy
    rcases List.mem_append.1 hy with hy | hy
    · exact hown.2 ys hy
    · exact hown2.2 ys hy
  · exact (Only.refl _ w).grown h2 (fun i hi _ => hi)
theorem wpList_append_rows {ops : Array Oper} {rest : List Oper} {o : Oper} {a : Act} {Q : Exit → Act → World → Prop} (w : World) (hgd : o.guard = none) (s x : Operand) {t T : TypeId} {sz bytes : Nat} (st : Sty t T sz bytes)
    (ho : o.op = .call { callee := .builtin .append, args := #[s, x], argTypes := #[t, t] })
    (B : Nat) (v : Value) (xss : List (List Value)) (hs : a.eval s = v) (hown : OwnS w B T sz v xss) (B2 : Nat) (v2 : Value) (yss : List (List Value)) (hx : a.eval x = v2) (hown2 : OwnS w B2 T sz v2 yss) (hp : 0 < yss.length)
    (h1 : ∀ ys ∈ yss, ∀ u ∈ ys, u.oneCell' = true)
    (hl : xss.length + yss.length ≤ 100000) (hby : bytes ≤ 100000) (hB : B ≤ w.heap.size)
    (h : ∀ v' w', OwnS w' B T sz v' (xss ++ yss) → Only (fun k => v.ownBlock = some k) w w' → wpList Try.prog ops Q rest (a.put o.dst v') w') :
    wpList Try.prog ops Q (o :: rest) a w :=
  wpList_plain hgd fun _ hK => append_rows w s x st ho B v xss hs hown B2 v2 yss hx hown2 hp h1 hl hby hB fun v' w' h1 h2 => hK _ _ (h v' w' h1 h2)
end Go.Proofs.Ytdcclighccejhaa

/- The reference of layer 10: goes. Conditions: as each says. -/
set_option linter.unusedVariables false
set_option linter.unusedSimpArgs false
namespace Go.Proofs.Ytdcclighccejhaa
open Go Go.RowKit

/-- How many go. -/
def rgo (many size : Int) : Nat → Nat → List Wt → Nat
  | g, _, [] => g
  | g, next, x :: t => if (g : Int) < many ∨ x.n = next ∨ size < (t.length : Int) + 1 then rgo many size (g + 1) (x.n + 1) t else g
/-- What comes next behind so many. -/
def nxAt (next : Nat) (ws : List Wt) (k : Nat) : Nat := if k = 0 then next else (ws[k - 1]?.map fun x => x.n + 1).getD 0
theorem nxAt_succ {next : Nat} {ws : List Wt} {k : Nat} {x : Wt} (h : ws[k]? = some x) : nxAt next ws (k + 1) = x.n + 1 := by
  unfold nxAt
  rw [if_neg (by omega), Nat.add_sub_cancel, h]
  rfl
theorem items_snoc : ∀ (ws : List Wt) (us : List V3) (next k : Nat) (x : Wt) (u : V3), ws[k]? = some x → us[k]? = some u → items next (ws.take (k + 1)) (us.take (k + 1)) = items next (ws.take k) (us.take k) ++ stepIt (nxAt next ws k) x u
  | y :: ws, z :: us, next, 0, x, u, hx, hu => by
    simp at hx hu
    subst hx hu
    simp [items, nxAt]
  | y :: ws, z :: us, next, k + 1, x, u, hx, hu => by
    have ih := items_snoc ws us (y.n + 1) k x u (by simpa using hx) (by simpa using hu)
    rw [List.take_succ_cons, List.take_succ_cons, List.take_succ_cons, List.take_succ_cons, items, items, ih, List.append_assoc]
    congr 2
    unfold nxAt
    rw [if_neg (Nat.succ_ne_zero k)]
    cases k with
    | zero => simp
    | succ k => simp
  | [], us, next, k, x, u, hx, hu => by simp at hx
  | y :: ws, [], next, k, x, u, hx, hu => by simp at hu
noncomputable def rg3_code : Code := ((Try.f36.body.bind (codeRegion 3)).getD .skip)
set_option maxRecDepth 100000 in
set_option maxHeartbeats 4000000 in
theorem rg3 (b1 k len c : Nat) (many size : Int) (hold nx : Nat) (bg : Bool) (A : Option Addr) (u0 u3 u4 u5 u6 u8 u9 u10 u11 u12 u13 u14 u15 u16 u17 u18 u19 u20 u21 u22 u23 u24 u25 u26 u27 u28 u29 u30 u31 u32 u33 u34 u35 u36 u37 u38 u39 u40 u41 u42 u43 u44 u45 u46 u47 u48 u49 : Value) (Q : Exit → Act → World → Prop) (w : World) (hI : Is w b1 32 #[.int .i64 size, .int .u64 (hold : Int), .int .u64 (nx : Int), .bool bg, .slice A len c]) (cd : Bool)
    (hcd : ((k : Int) < many ∧ cd = true) ∨ (¬ (k : Int) < many ∧ len = 0 ∧ cd = false) ∨ (¬ (k : Int) < many ∧ 0 < len ∧ ∃ (g o n : Nat), A = some ⟨g, o, none⟩ ∧ w.cell? ⟨g, o, none⟩ = some (.int .u64 (n : Int)) ∧ ((n = nx ∧ cd = true) ∨ (n ≠ nx ∧ size < (len : Int) ∧ cd = true) ∨ (n ≠ nx ∧ ¬ size < (len : Int) ∧ cd = false))))
    (hend : ∀ (y10 y11 y12 y13 y14 y15 y16 y17 y18 y19 y20 y21 y22 y23 y24 y25 y26 y27 y28 y29 y30 y31 y32 y33 y34 y35 : Value) (w' : World), Only (fun _ => False) w w' → Q .normal ⟨(List.toArray (u0 :: .int .i64 many :: .pointer (some ⟨b1, 0, none⟩) :: u3 :: u4 :: u5 :: u6 :: .int .i64 (k : Int) :: u8 :: u9 :: y10 :: y11 :: y12 :: y13 :: y14 :: y15 :: y16 :: y17 :: y18 :: y19 :: y20 :: y21 :: y22 :: y23 :: y24 :: y25 :: y26 :: y27 :: y28 :: y29 :: y30 :: y31 :: y32 :: y33 :: y34 :: y35 :: .bool cd :: u37 :: u38 :: u39 :: u40 :: u41 :: u42 :: u43 :: u44 :: u45 :: u46 :: u47 :: u48 :: u49 :: [])), []⟩ w') :
    Code.wp Try.prog rg3_code Q ⟨(List.toArray (u0 :: .int .i64 many :: .pointer (some ⟨b1, 0, none⟩) :: u3 :: u4 :: u5 :: u6 :: .int .i64 (k : Int) :: u8 :: u9 :: u10 :: u11 :: u12 :: u13 :: u14 :: u15 :: u16 :: u17 :: u18 :: u19 :: u20 :: u21 :: u22 :: u23 :: u24 :: u25 :: u26 :: u27 :: u28 :: u29 :: u30 :: u31 :: u32 :: u33 :: u34 :: u35 :: u36 :: u37 :: u38 :: u39 :: u40 :: u41 :: u42 :: u43 :: u44 :: u45 :: u46 :: u47 :: u48 :: u49 :: [])), []⟩ w := by
  conv => arg 2; whnf
  have HEND := Lib.hid hend
  have c0 : w.cell? ⟨b1, 0, none⟩ = some (.int .i64 size) := hI.cell 0
  have c2 : w.cell? ⟨b1, 2, none⟩ = some (.int .u64 (nx : Int)) := hI.cell 2
  have c4 : w.cell? ⟨b1, 4, none⟩ = some (.slice A len c) := hI.cell 4
  clear hend hI
  rcases hcd with ⟨h1, rfl⟩ | ⟨h1, rfl, rfl⟩ | ⟨h1, h2, g, o, n, rfl, cg, ⟨rfl, rfl⟩ | ⟨h3, h4, rfl⟩ | ⟨h3, h4, rfl⟩⟩
  · go_quiet (fail)
    exact HEND.out _ _ _ _ _ _ _ _ _ _ _ _ _ _ _ _ _ _ _ _ _ _ _ _ _ _ _ ((Only.refl _ w).drewN _)
  · go_quiet (fail)
    exact HEND.out _ _ _ _ _ _ _ _ _ _ _ _ _ _ _ _ _ _ _ _ _ _ _ _ _ _ _ ((Only.refl _ w).drewN _)
  · have h2I : (0 : Int) < (len : Int) := by omega
    go_quiet (fail)
    exact HEND.out _ _ _ _ _ _ _ _ _ _ _ _ _ _ _ _ _ _ _ _ _ _ _ _ _ _ _ ((Only.refl _ w).drewN _)
  · have h2I : (0 : Int) < (len : Int) := by omega
    have h3I : ((n : Int) == (nx : Int)) = false := by simp; omega
    go_quiet (fail)
    exact HEND.out _ _ _ _ _ _ _ _ _ _ _ _ _ _ _ _ _ _ _ _ _ _ _ _ _ _ _ ((Only.refl _ w).drewN _)
  · have h2I : (0 : Int) < (len : Int) := by omega
    have h3I : ((n : Int) == (nx : Int)) = false := by simp; omega
    go_quiet (fail)
    exact HEND.out _ _ _ _ _ _ _ _ _ _ _ _ _ _ _ _ _ _ _ _ _ _ _ _ _ _ _ ((Only.refl _ w).drewN _)
end Go.Proofs.Ytdcclighccejhaa

/- The reference of layer 10: goes, the walk. Conditions: as it says. -/
set_option linter.unusedVariables false
set_option linter.unusedSimpArgs false
namespace Go.Proofs.Ytdcclighccejhaa
open Go Go.RowKit

theorem rgo_end (many size : Int) {k next : Nat} {x : Wt} {t : List Wt} (h : ¬ ((k : Int) < many ∨ x.n = next ∨ size < (t.length : Int) + 1)) : rgo many size k next (x :: t) = k := by rw [rgo, if_neg h]
theorem rgo_go (many size : Int) {k next : Nat} {x : Wt} {t : List Wt} (h : (k : Int) < many ∨ x.n = next ∨ size < (t.length : Int) + 1) : rgo many size k next (x :: t) = rgo many size (k + 1) (x.n + 1) t := by rw [rgo, if_pos h]
/-- The buffer behind so many. -/
def Rb.gone (r : Rb) (k : Nat) : Rb := ⟨r.size, r.hold, nxAt r.next r.ws k, r.begun, r.ws.drop k⟩
/-- What goes answers. -/
def GoesDone (v : Value) (r : Rb) (us : List V3) (many : Int) (w : World) (e : Ending) (w' : World) : Prop :=
  ∃ v2 vo, e = .returned (.tuple #[.agg ((r.gone (rgo many r.size 0 r.next r.ws)).cells v2), vo]) ∧ (∀ W, RdL W v r.ws us → RdL W v2 (r.ws.drop (rgo many r.size 0 r.next r.ws)) (us.drop (rgo many r.size 0 r.next r.ws))) ∧
    OwnS w' w.heap.size 92 14 vo ((items r.next (r.ws.take (rgo many r.size 0 r.next r.ws)) (us.take (rgo many r.size 0 r.next r.ws))).map It.cls) ∧ Only (fun _ => False) w w'
/-- A round's beginning. -/
structure GoAt (v : Value) (r : Rb) (us : List V3) (b1 b4 k : Nat) (v6 : Value) (A : Option Addr) (c : Nat) (w wr : World) : Prop where
  is1 : Is wr b1 32 ((r.gone k).cells (.slice A (r.ws.length - k) c))
  is4 : Is wr b4 32 zeroRb
  rd : ∀ W, RdL W v r.ws us → RdL W (.slice A (r.ws.length - k) c) (r.ws.drop k) (us.drop k)
  own : OwnS wr w.heap.size 92 14 v6 ((items r.next (r.ws.take k) (us.take k)).map It.cls)
  pure : Only (fun _ => False) w wr
theorem GoAt.go {v : Value} {r : Rb} {us : List V3} {b1 b4 k c : Nat} {v6 : Value} {A : Option Addr} {w wr wx : World} (h : GoAt v r us b1 b4 k v6 A c w wr) (ho : Only (fun _ => False) wr wx) : GoAt v r us b1 b4 k v6 A c w wx :=
  ⟨h.is1.only ho (by simp), h.is4.only ho (by simp), h.rd, h.own.only ho (by simp), h.pure.trans ho (fun _ _ e => e)⟩
/-- first, its answer written out. -/
def FirstLit (r : Rb) (k : Nat) (v : Value) (x : Wt) (u : V3) (us : List V3) (w : World) (e : Ending) (w' : World) : Prop :=
  ∃ A3 c3 Ao co, e = .returned (.tuple #[.agg #[.int .i64 r.size, .int .u64 (r.hold : Int), .int .u64 ((x.n + 1 : Nat) : Int), .bool r.begun, .slice A3 (r.ws.length - (k + 1)) c3], .slice Ao (stepIt (nxAt r.next r.ws k) x u).length co]) ∧ (∀ W, RdL W v (x :: r.ws.drop (k + 1)) (u :: us.drop (k + 1)) → RdL W (.slice A3 (r.ws.length - (k + 1)) c3) (r.ws.drop (k + 1)) (us.drop (k + 1))) ∧ OwnS w' w.heap.size 92 14 (.slice Ao (stepIt (nxAt r.next r.ws k) x u).length co) ((stepIt (nxAt r.next r.ws k) x u).map It.cls) ∧ Only (fun _ => False) w w'
theorem step_len (n : Nat) (x : Wt) (u : V3) : 0 < (stepIt n x u).length ∧ (stepIt n x u).length ≤ 2 := by
  unfold stepIt
  split <;> simp
theorem items_len2 : ∀ (ws : List Wt) (us : List V3) (next : Nat), (items next ws us).length ≤ 2 * ws.length := items_len
theorem it_rows (l : List It) : ∀ ys ∈ l.map It.cls, ∀ u ∈ ys, u.oneCell' = true := by
  intro ys hy u hu
  obtain ⟨x, -, rfl⟩ := List.mem_map.1 hy
  exact x.cls_one u hu
set_option maxRecDepth 100000 in
set_option maxHeartbeats 8000000 in
theorem rgoes_is (r : Rb) (us : List V3) (v : Value) (many : Int) (w : World) (h : RdL w v r.ws us) (hm : many ≤ r.ws.length) (hlen : r.ws.length ≤ 300) (hn : ∀ x ∈ r.ws, x.n ≤ 4611686018427387904) (hord : ∀ k x, r.ws[k]? = some x → nxAt r.next r.ws k ≤ x.n) :
    Calls Try.prog 36 #[.agg (r.cells v), .int .i64 many] w (GoesDone v r us many w) := by
  obtain ⟨A0, c0, rfl, hc0⟩ := h.sl
  have H := Lib.hid h
  have HN := Lib.hid hn
  have HORD := Lib.hid hord
  unfold Rb.cells
  obtain ⟨sz, hsz⟩ : ∃ sz, r.size = sz := ⟨_, rfl⟩
  obtain ⟨hold, hhold⟩ : ∃ hold, r.hold = hold := ⟨_, rfl⟩
  obtain ⟨nx, hnx⟩ : ∃ nx, r.next = nx := ⟨_, rfl⟩
  obtain ⟨bg, hbg⟩ : ∃ bg, r.begun = bg := ⟨_, rfl⟩
  obtain ⟨L, hL⟩ : ∃ L, r.ws.length = L := ⟨_, rfl⟩
  have HR := Lib.hid (And.intro hsz (And.intro hhold (And.intro hnx (And.intro hbg hL))))
  obtain ⟨POST, hPOST⟩ : ∃ POST, GoesDone (.slice A0 r.ws.length c0) r us many w = POST := ⟨_, rfl⟩
  rw [hPOST]
  have HPOST := Lib.hid hPOST
  clear hPOST
  rw [hsz, hhold, hnx, hbg, hL]
  rw [hL] at hm hlen hc0
  clear h hn hord hsz hhold hnx hbg hL
  go_enter Try.func36, Try.ntmps36
  go_upto_region 1 with (fail)
  generalize hw1 : World.alloc (World.alloc _ _) _ = w1
  have O1 := Lib.hid (show Only (fun _ => False) w w1 from by rw [← hw1]; exact ((Only.refl _ w).alloc _).alloc _)
  have I1 := Lib.hid (show Is w1 w.heap.size 32 ((r.gone 0).cells (.slice A0 (r.ws.length - 0) c0)) from by
    rw [← hw1]
    obtain ⟨e1, e2, e3, e4, e5⟩ := HR.out
    unfold Rb.gone Rb.cells nxAt
    simp only [if_pos, e1, e2, e3, e4, e5, Nat.sub_zero]
    exact (Is.made w _ _).alloc _)
  have J1 := Lib.hid (show Is w1 (w.heap.size + 1) 32 zeroRb from by
    rw [← hw1]
    have := Is.made (w.alloc (.cells #[.int .i64 sz, .int .u64 (hold : Int), .int .u64 (nx : Int), .bool bg, .slice A0 L c0] 32)) 32 zeroRb
    rw [World.size_alloc] at this
    exact this)
  obtain ⟨b1, hb1⟩ : ∃ b1, w.heap.size = b1 := ⟨_, rfl⟩
  obtain ⟨b4, hb4⟩ : ∃ b4, w.heap.size + 1 = b4 := ⟨_, rfl⟩
  have HBB := Lib.hid (show b1 = w.heap.size ∧ b4 = w.heap.size + 1 from ⟨hb1.symm, hb4.symm⟩)
  rw [hb4] at J1 ⊢
  rw [hb1] at I1 ⊢
  have G0 := Lib.hid (show GoAt (.slice A0 r.ws.length c0) r us b1 b4 0 (.slice none 0 0) A0 c0 w w1 from ⟨I1.out, J1.out, fun W hW => by rw [Nat.sub_zero]; exact hW, by rw [List.take_zero, items_nil]; exact OwnS.nil _ _ _ _, O1.out⟩)
  clear hw1 hb1 hb4 I1 J1 O1
  go_wp2
  go_loopw [6, 7] (fun s6 s7 wr => ∃ (k : Nat) (A : Option Addr) (c : Nat), k ≤ L ∧ s7 = .int .i64 (k : Int) ∧ rgo many r.size k (nxAt r.next r.ws k) (r.ws.drop k) = rgo many r.size 0 r.next r.ws ∧ GoAt (.slice A0 r.ws.length c0) r us b1 b4 k s6 A c w wr) (fun _ s7 _ => L - (intOf s7).toNat)
  case atStart => exact ⟨0, A0, c0, by omega, rfl, by rw [List.drop_zero]; rfl, G0.out⟩
  case round =>
    obtain ⟨k, A, c, hk, rfl, hJ, hG⟩ := hrel
    have G := Lib.hid hG
    have HJ := Lib.hid hJ
    clear hG hJ G0
    by_cases hlt : k < L
    · obtain ⟨x, hx⟩ : ∃ x, r.ws[k]? = some x := ⟨_, List.getElem?_eq_getElem (by rw [HR.out.2.2.2.2]; exact hlt)⟩
      obtain ⟨u, hu⟩ : ∃ u, us[k]? = some u := ⟨_, List.getElem?_eq_getElem (by rw [H.out.len, HR.out.2.2.2.2]; exact hlt)⟩
      have HX := Lib.hid (And.intro hx hu)
      have hdx := drop_at hx
      have hdu := drop_at hu
      have hrd := G.out.rd wr (H.out.pure G.out.pure)
      have hrd0 := G.out.rd
      rw [hdx, hdu] at hrd hrd0
      have HRD0 := Lib.hid hrd0
      have HRD := Lib.hid hrd
      obtain ⟨⟨g, o, n', c', e, hra⟩, -⟩ := hrd.at_ 0 x u rfl rfl
      injection e with e1 e2 e3
      have cg : wr.cell? ⟨g, o, none⟩ = some (.int .u64 (x.n : Int)) := by have := hra 0 _ rfl; simpa using this
      have hxn := HN.out x (List.mem_of_getElem? hx)
      have hxo := HORD.out k x hx
      have hlen2 : ((r.ws.drop (k + 1)).length : Int) + 1 = ((r.ws.length - k : Nat) : Int) := by rw [List.length_drop, HR.out.2.2.2.2]; omega
      by_cases hcond : (k : Int) < many ∨ x.n = nxAt r.next r.ws k ∨ r.size < ((r.ws.drop (k + 1)).length : Int) + 1
      · have HJ2 := Lib.hid (show rgo many r.size (k + 1) (nxAt r.next r.ws (k + 1)) (r.ws.drop (k + 1)) = rgo many r.size 0 r.next r.ws from by rw [← HJ.out, hdx, rgo_go _ _ hcond, nxAt_succ hx])
        have hcd : ((k : Int) < many ∧ true = true) ∨ (¬ (k : Int) < many ∧ r.ws.length - k = 0 ∧ true = false) ∨ (¬ (k : Int) < many ∧ 0 < r.ws.length - k ∧ ∃ (g o n : Nat), A = some ⟨g, o, none⟩ ∧ wr.cell? ⟨g, o, none⟩ = some (.int .u64 (n : Int)) ∧ ((n = nxAt r.next r.ws k ∧ true = true) ∨ (n ≠ nxAt r.next r.ws k ∧ r.size < ((r.ws.length - k : Nat) : Int) ∧ true = true) ∨ (n ≠ nxAt r.next r.ws k ∧ ¬ r.size < ((r.ws.length - k : Nat) : Int) ∧ true = false))) := by
          by_cases h1 : (k : Int) < many
          · exact .inl ⟨h1, rfl⟩
          · refine .inr (.inr ⟨h1, by rw [HR.out.2.2.2.2]; omega, g, o, x.n, e1, cg, ?_⟩)
            by_cases h2 : x.n = nxAt r.next r.ws k
            · exact .inl ⟨h2, rfl⟩
            · refine .inr (.inl ⟨h2, ?_, rfl⟩)
              rw [← hlen2]
              exact (hcond.resolve_left h1).resolve_left h2
        have HCD := Lib.hid hcd
        have HXO := Lib.hid hxo
        have HXN := Lib.hid hxn
        clear hx hu hdx hdu hrd hrd0 e1 e2 e3 hra cg hlen2 hcond hcd hxo hxn
        go_upto_region 3 with (fail)
        refine rg3 b1 k (r.ws.length - k) c many r.size r.hold (nxAt r.next r.ws k) r.begun A _ _ _ _ _ _ _ _ _ _ _ _ _ _ _ _ _ _ _ _ _ _ _ _ _ _ _ _ _ _ _ _ _ _ _ _ _ _ _ _ _ _ _ _ _ _ _ _ wr G.out.is1 true HCD.out ?_
        rintro y10 y11 y12 y13 y14 y15 y16 y17 y18 y19 y20 y21 y22 y23 y24 y25 y26 y27 y28 y29 y30 y31 y32 y33 y34 y35 w2 ho2
        have G2 := Lib.hid (G.out.go ho2)
        have RD2 := Lib.hid (HRD.out.pure ho2)
        clear ho2 HCD G HRD
        go_upto_region 5 with (fail)
        have HFI := Lib.hid (rfirst_is (r.gone k) x u (r.ws.drop (k + 1)) (us.drop (k + 1)) _ w2 RD2.out HXN.out HXO.out)
        have IB := Lib.hid (show Is w2 b1 32 #[.int .i64 r.size, .int .u64 (r.hold : Int), .int .u64 (nxAt r.next r.ws k : Int), .bool r.begun, .slice A (r.ws.length - k) c] from G2.out.is1)
        have HFI2 := Lib.hid (show Calls Try.prog 50 #[.agg #[.int .i64 r.size, .int .u64 (r.hold : Int), .int .u64 (nxAt r.next r.ws k : Int), .bool r.begun, .slice A (r.ws.length - k) c]] w2 (FirstLit r k (.slice A (r.ws.length - k) c) x u us w2) from HFI.out.mono (fun e w3 hd => by
          obtain ⟨v3, vo, rfl, hL3, hS3, ho3⟩ := hd
          obtain ⟨A3, c3, hv3, -⟩ := (hL3 w2 RD2.out).sl
          subst hv3
          obtain ⟨Ao, co, hvo, -⟩ := hS3.slice
          subst hvo
          rw [List.length_map] at hS3 ⊢
          rw [List.length_drop]
          rw [List.length_drop] at hL3
          exact ⟨A3, c3, Ao, co, rfl, hL3, hS3, ho3⟩))
        clear HFI
        have hsl := step_len (nxAt r.next r.ws k) x u
        obtain ⟨its, hits⟩ : ∃ its, stepIt (nxAt r.next r.ws k) x u = its := ⟨_, rfl⟩
        have HITS := Lib.hid hits
        unfold FirstLit at HFI2
        rw [hits] at HFI2 hsl
        obtain ⟨m, hm2⟩ : ∃ m, its.length = m := ⟨_, rfl⟩
        have HMM := Lib.hid hm2
        rw [hm2] at HFI2 hsl
        clear hits hm2
        go_upto_region 6 with (first
          | ((with_reducible refine HFI2.out.mono ?_); rintro e w3 ⟨A3, c3, Ao, co, rfl, hL3, hS3, ho3⟩; have G3 := Lib.hid (G2.out.go ho3); have L3 := Lib.hid (fun W hW => hL3 W (HRD0.out W hW)); have S3 := Lib.hid hS3; clear hL3 hS3 ho3)
          | (refine wpList_load_want (o := ⟨some 40, _, _, _, _, _⟩) rfl _ _ rfl b1 rfl _ #[.int .i64 r.size, .int .u64 (r.hold : Int), .int .u64 (nxAt r.next r.ws k : Int), .bool r.begun, .slice A (r.ws.length - k) c] _ IB.out Try.underlying32 rfl Try.sizeRb ?_)
          | (refine wpList_store_is (o := ⟨none, _, _, _, _, _⟩) rfl 32 _ _ rfl w3.heap.size #[.int .i64 r.size, .int .u64 (r.hold : Int), .int .u64 ((x.n + 1 : Nat) : Int), .bool r.begun, .slice A3 (r.ws.length - (k + 1)) c3] rfl rfl 32 _ (Is.made w3 _ _) Try.sizeRb rfl (by simp [Value.oneCell']) ?_; intro w4 hi4 ho4; have O4 := Lib.hid (((Only.refl _ w3).alloc _).trans ho4 (fun i hi e => by omega) : Only (fun _ => False) w3 w4); have I4 := Lib.hid hi4; clear hi4 ho4))
        have B4 := Lib.hid (show Is w4 b1 32 #[.int .i64 r.size, .int .u64 (r.hold : Int), .int .u64 (nxAt r.next r.ws k : Int), .bool r.begun, .slice A (r.ws.length - k) c] from (G3.out.go O4.out).is1)
        go_upto_region 7 with (first
          | (refine wpList_load_want (o := ⟨some 44, _, _, _, _, _⟩) rfl _ _ rfl w3.heap.size rfl _ #[.int .i64 r.size, .int .u64 (r.hold : Int), .int .u64 ((x.n + 1 : Nat) : Int), .bool r.begun, .slice A3 (r.ws.length - (k + 1)) c3] _ I4.out Try.underlying32 rfl Try.sizeRb ?_)
          | (refine wpList_store_is (o := ⟨none, _, _, _, _, _⟩) rfl 32 _ _ rfl b1 #[.int .i64 r.size, .int .u64 (r.hold : Int), .int .u64 ((x.n + 1 : Nat) : Int), .bool r.begun, .slice A3 (r.ws.length - (k + 1)) c3] rfl rfl 32 #[.int .i64 r.size, .int .u64 (r.hold : Int), .int .u64 (nxAt r.next r.ws k : Int), .bool r.begun, .slice A (r.ws.length - k) c] B4.out Try.sizeRb rfl (by simp [Value.oneCell']) ?_; intro w5 hi5 ho5))
        have I5 := Lib.hid hi5
        have O5 := Lib.hid ho5
        clear hi5 ho5
        have G4 := Lib.hid (G3.out.go O4.out)
        have J5 := Lib.hid (G4.out.is4.only O5.out (fun e => by have := HBB.out; omega))
        have S5 := Lib.hid (OwnS.only (S3.out.only O4.out (by simp)) O5.out (fun q hq e => owned_off (S3.out.only O4.out (by simp)).1 G4.out.is1 (by decide) (by rw [hq, e])))
        have W5 := Lib.hid (OwnS.only G4.out.own O5.out (fun q hq e => owned_off G4.out.own.1 G4.out.is1 (by decide) (by rw [hq, e])))
        have P5 := Lib.hid (G4.out.pure.trans O5.out (fun i hi e => by have := HBB.out; omega))
        have hsz5 : w.heap.size ≤ w5.heap.size := P5.out.size
        have hil := items_len2 (r.ws.take k) (us.take k) r.next
        have htl : (r.ws.take k).length ≤ 300 := by rw [List.length_take]; omega
        have HLN := Lib.hid (show ((items r.next (r.ws.take k) (us.take k)).map It.cls).length + (its.map It.cls).length ≤ 100000 from by rw [List.length_map, List.length_map, HMM.out]; omega)
        have HLP := Lib.hid (show 0 < (its.map It.cls).length from by rw [List.length_map, HMM.out]; omega)
        clear hil htl
        go_wp2_with (at_builtin; refine wpList_append_rows _ rfl _ _ sty_ro rfl w.heap.size _ _ rfl W5.out _ _ _ rfl S5.out HLP.out (it_rows its) HLN.out (by decide) hsz5 ?_; intro v6 w6 hS6 hO6; have S6 := Lib.hid hS6; have O6 := Lib.hid hO6; clear hS6 hO6)
        go_roundw
        case rel => refine ⟨k + 1, A3, c3, by omega, by go_num, HJ2.out, ⟨?_, ?_, L3.out, ?_, ?_⟩⟩
                    · have := I5.out.only O6.out (fun e => owned_off W5.out.1 I5.out (by decide) e)
                      show Is w6 b1 32 #[.int .i64 r.size, .int .u64 (r.hold : Int), .int .u64 ((nxAt r.next r.ws (k + 1) : Nat) : Int), .bool r.begun, .slice A3 (r.ws.length - (k + 1)) c3]
                      rw [nxAt_succ HX.out.1]
                      exact this
                    · exact J5.out.only O6.out (fun e => owned_off W5.out.1 J5.out (by decide) e)
                    · rw [items_snoc _ _ _ _ _ _ HX.out.1 HX.out.2, HITS.out, List.map_append]
                      exact S6.out
                    · exact P5.out.trans O6.out (fun i hi e => by have := (W5.out.lt i e).1; omega)
        case measure => simp [intOf]; omega
      · have HJK := Lib.hid (show k = rgo many r.size 0 r.next r.ws from by rw [← HJ.out, hdx, rgo_end _ _ hcond])
        have HCD := Lib.hid (show ((k : Int) < many ∧ false = true) ∨ (¬ (k : Int) < many ∧ r.ws.length - k = 0 ∧ false = false) ∨ (¬ (k : Int) < many ∧ 0 < r.ws.length - k ∧ ∃ (g o n : Nat), A = some ⟨g, o, none⟩ ∧ wr.cell? ⟨g, o, none⟩ = some (.int .u64 (n : Int)) ∧ ((n = nxAt r.next r.ws k ∧ false = true) ∨ (n ≠ nxAt r.next r.ws k ∧ r.size < ((r.ws.length - k : Nat) : Int) ∧ false = true) ∨ (n ≠ nxAt r.next r.ws k ∧ ¬ r.size < ((r.ws.length - k : Nat) : Int) ∧ false = false))) from
          .inr (.inr ⟨fun h1 => hcond (.inl h1), by rw [HR.out.2.2.2.2]; omega, g, o, x.n, e1, cg, .inr (.inr ⟨fun h2 => hcond (.inr (.inl h2)), fun h3 => hcond (.inr (.inr (by rw [hlen2]; exact h3))), rfl⟩)⟩))
        clear hx hu hdx hdu hrd hrd0 e1 e2 e3 hra cg hlen2 hcond hxo hxn HJ HRD HRD0
        go_upto_region 3 with (fail)
        refine rg3 b1 k (r.ws.length - k) c many r.size r.hold (nxAt r.next r.ws k) r.begun A _ _ _ _ _ _ _ _ _ _ _ _ _ _ _ _ _ _ _ _ _ _ _ _ _ _ _ _ _ _ _ _ _ _ _ _ _ _ _ _ _ _ _ _ _ _ _ _ wr G.out.is1 false HCD.out ?_
        rintro y10 y11 y12 y13 y14 y15 y16 y17 y18 y19 y20 y21 y22 y23 y24 y25 y26 y27 y28 y29 y30 y31 y32 y33 y34 y35 w2 ho2
        have G2 := Lib.hid (G.out.go ho2)
        clear ho2 HCD G
        go_upto_region 8 with (fail)
        have IB := Lib.hid (show Is w2 b1 32 #[.int .i64 r.size, .int .u64 (r.hold : Int), .int .u64 (nxAt r.next r.ws k : Int), .bool r.begun, .slice A (r.ws.length - k) c] from G2.out.is1)
        go_wp2_with (first
          | (refine wpList_load_want (o := ⟨some 48, _, _, _, _, _⟩) rfl _ _ rfl b1 rfl _ #[.int .i64 r.size, .int .u64 (r.hold : Int), .int .u64 (nxAt r.next r.ws k : Int), .bool r.begun, .slice A (r.ws.length - k) c] _ IB.out Try.underlying32 rfl Try.sizeRb ?_)
          | (refine wpList_store_is (o := ⟨none, _, _, _, _, _⟩) rfl 32 _ _ rfl b4 #[.int .i64 r.size, .int .u64 (r.hold : Int), .int .u64 (nxAt r.next r.ws k : Int), .bool r.begun, .slice A (r.ws.length - k) c] rfl rfl 32 zeroRb G2.out.is4 Try.sizeRb rfl (by simp [Value.oneCell']) ?_; intro w8 hi8 ho8))
        refine bodyPost_ret (res_cell Try.results36 _ w8 b4 32 #[.int .i64 r.size, .int .u64 (r.hold : Int), .int .u64 (nxAt r.next r.ws k : Int), .bool r.begun, .slice A (r.ws.length - k) c] _ u6 rfl rfl hi8 Try.underlying32 rfl Try.sizeRb) rfl ?_
        rw [← HPOST.out]
        refine ⟨.slice A (r.ws.length - k) c, u6, ?_⟩
        rw [← HJK.out]
        exact ⟨rfl, G2.out.rd, OwnS.only G2.out.own ho8 (fun q hq e => owned_off G2.out.own.1 G2.out.is4 (by decide) (by rw [hq, e])), G2.out.pure.trans ho8 (fun i hi e => by have := HBB.out; omega)⟩
    · obtain rfl : k = L := by omega
      have hd : r.ws.drop k = [] := List.drop_of_length_le (by rw [HR.out.2.2.2.2]; exact Nat.le_refl _)
      have HJK := Lib.hid (show k = rgo many r.size 0 r.next r.ws from by rw [← HJ.out, hd, rgo])
      have HCD := Lib.hid (show ((k : Int) < many ∧ false = true) ∨ (¬ (k : Int) < many ∧ r.ws.length - k = 0 ∧ false = false) ∨ (¬ (k : Int) < many ∧ 0 < r.ws.length - k ∧ ∃ (g o n : Nat), A = some ⟨g, o, none⟩ ∧ wr.cell? ⟨g, o, none⟩ = some (.int .u64 (n : Int)) ∧ ((n = nxAt r.next r.ws k ∧ false = true) ∨ (n ≠ nxAt r.next r.ws k ∧ r.size < ((r.ws.length - k : Nat) : Int) ∧ false = true) ∨ (n ≠ nxAt r.next r.ws k ∧ ¬ r.size < ((r.ws.length - k : Nat) : Int) ∧ false = false))) from
        .inr (.inl ⟨by omega, by rw [HR.out.2.2.2.2]; omega, rfl⟩))
      clear hd HJ
      go_upto_region 3 with (fail)
      refine rg3 b1 k (r.ws.length - k) c many r.size r.hold (nxAt r.next r.ws k) r.begun A _ _ _ _ _ _ _ _ _ _ _ _ _ _ _ _ _ _ _ _ _ _ _ _ _ _ _ _ _ _ _ _ _ _ _ _ _ _ _ _ _ _ _ _ _ _ _ _ wr G.out.is1 false HCD.out ?_
      rintro y10 y11 y12 y13 y14 y15 y16 y17 y18 y19 y20 y21 y22 y23 y24 y25 y26 y27 y28 y29 y30 y31 y32 y33 y34 y35 w2 ho2
      have G2 := Lib.hid (G.out.go ho2)
      clear ho2 HCD G
      go_upto_region 8 with (fail)
      have IB := Lib.hid (show Is w2 b1 32 #[.int .i64 r.size, .int .u64 (r.hold : Int), .int .u64 (nxAt r.next r.ws k : Int), .bool r.begun, .slice A (r.ws.length - k) c] from G2.out.is1)
      go_wp2_with (first
        | (refine wpList_load_want (o := ⟨some 48, _, _, _, _, _⟩) rfl _ _ rfl b1 rfl _ #[.int .i64 r.size, .int .u64 (r.hold : Int), .int .u64 (nxAt r.next r.ws k : Int), .bool r.begun, .slice A (r.ws.length - k) c] _ IB.out Try.underlying32 rfl Try.sizeRb ?_)
        | (refine wpList_store_is (o := ⟨none, _, _, _, _, _⟩) rfl 32 _ _ rfl b4 #[.int .i64 r.size, .int .u64 (r.hold : Int), .int .u64 (nxAt r.next r.ws k : Int), .bool r.begun, .slice A (r.ws.length - k) c] rfl rfl 32 zeroRb G2.out.is4 Try.sizeRb rfl (by simp [Value.oneCell']) ?_; intro w8 hi8 ho8))
      refine bodyPost_ret (res_cell Try.results36 _ w8 b4 32 #[.int .i64 r.size, .int .u64 (r.hold : Int), .int .u64 (nxAt r.next r.ws k : Int), .bool r.begun, .slice A (r.ws.length - k) c] _ u6 rfl rfl hi8 Try.underlying32 rfl Try.sizeRb) rfl ?_
      rw [← HPOST.out]
      refine ⟨.slice A (r.ws.length - k) c, u6, ?_⟩
      rw [← HJK.out]
      exact ⟨rfl, G2.out.rd, OwnS.only G2.out.own ho8 (fun q hq e => owned_off G2.out.own.1 G2.out.is4 (by decide) (by rw [hq, e])), G2.out.pure.trans ho8 (fun i hi e => by have := HBB.out; omega)⟩
end Go.Proofs.Ytdcclighccejhaa

/- The reference of layer 10: Flush, Tick. Conditions: as each says. -/
set_option linter.unusedVariables false
set_option linter.unusedSimpArgs false
namespace Go.Proofs.Ytdcclighccejhaa
open Go Go.RowKit

/-- What a reference's buffer must be for goes. -/
structure Rb.Ok (r : Rb) : Prop where
  len : r.ws.length ≤ 300
  nums : ∀ x ∈ r.ws, x.n ≤ 4611686018427387904
  ord : ∀ k x, r.ws[k]? = some x → nxAt r.next r.ws k ≤ x.n
/-- What a call of the reference answers: j went. -/
def WentR (v : Value) (r : Rb) (us : List V3) (j : Nat) (v2 vo : Value) (w w' : World) : Prop :=
  (∀ W, RdL W v r.ws us → RdL W v2 (r.ws.drop j) (us.drop j)) ∧ OwnS w' w.heap.size 92 14 vo ((items r.next (r.ws.take j) (us.take j)).map It.cls) ∧ Only (fun _ => False) w w'
def WentRb (v : Value) (r : Rb) (us : List V3) (j : Nat) (w : World) (e : Ending) (w' : World) : Prop := ∃ v2 vo, e = .returned (.tuple #[.agg ((r.gone j).cells v2), vo]) ∧ WentR v r us j v2 vo w w'
theorem goes_lit (r : Rb) (us : List V3) (A0 : Option Addr) (c0 : Nat) (many : Int) (w : World) (h : RdL w (.slice A0 r.ws.length c0) r.ws us) (hm : many ≤ r.ws.length) (hok : r.Ok) :
    Calls Try.prog 36 #[.agg #[.int .i64 r.size, .int .u64 (r.hold : Int), .int .u64 (r.next : Int), .bool r.begun, .slice A0 r.ws.length c0], .int .i64 many] w fun e w' => ∃ A2 c2 Ao no co, e = .returned (.tuple #[.agg #[.int .i64 r.size, .int .u64 (r.hold : Int), .int .u64 (nxAt r.next r.ws (rgo many r.size 0 r.next r.ws) : Int), .bool r.begun, .slice A2 (r.ws.length - rgo many r.size 0 r.next r.ws) c2], .slice Ao no co]) ∧ WentR (.slice A0 r.ws.length c0) r us (rgo many r.size 0 r.next r.ws) (.slice A2 (r.ws.length - rgo many r.size 0 r.next r.ws) c2) (.slice Ao no co) w w' := by
  refine (rgoes_is r us (.slice A0 r.ws.length c0) many w h hm hok.len hok.nums hok.ord).mono ?_
  rintro e w' ⟨v2, vo, rfl, h1, h2, h3⟩
  obtain ⟨A2, c2, e2, -⟩ := (h1 w h).sl
  obtain ⟨Ao, co, e3, -⟩ := h2.slice
  subst e2 e3
  rw [List.length_drop]
  rw [List.length_drop] at h1
  exact ⟨A2, c2, Ao, _, co, rfl, h1, h2, h3⟩
set_option maxRecDepth 100000 in
set_option maxHeartbeats 4000000 in
theorem rflushR_is (r : Rb) (us : List V3) (v : Value) (w : World) (h : RdL w v r.ws us) (hok : r.Ok) :
    Calls Try.prog 22 #[.agg (r.cells v)] w (WentRb v r us (rgo r.ws.length r.size 0 r.next r.ws) w) := by
  obtain ⟨A0, c0, rfl, hc0⟩ := h.sl
  have HG := Lib.hid (fun (w1 : World) (ho : Only (fun _ => False) w w1) => goes_lit r us A0 c0 r.ws.length w1 (h.pure ho) (Int.le_refl _) hok)
  have hl := hok.len
  obtain ⟨J, hJ⟩ : ∃ J, rgo r.ws.length r.size 0 r.next r.ws = J := ⟨_, rfl⟩
  rw [hJ] at HG ⊢
  clear h hok hJ
  show Calls Try.prog 22 #[.agg #[.int .i64 r.size, .int .u64 (r.hold : Int), .int .u64 (r.next : Int), .bool r.begun, .slice A0 r.ws.length c0]] w _
  go_enter Try.func22, Try.ntmps22
  go_upto_region 1 with (fail)
  generalize hw1 : World.alloc (World.alloc _ _) _ = w1
  have O1 := Lib.hid (show Only (fun _ => False) w w1 from by rw [← hw1]; exact ((Only.refl _ w).alloc _).alloc _)
  have I1 := Lib.hid (show Is w1 w.heap.size 32 #[.int .i64 r.size, .int .u64 (r.hold : Int), .int .u64 (r.next : Int), .bool r.begun, .slice A0 r.ws.length c0] from by rw [← hw1]; exact (Is.made w _ _).alloc _)
  have J1 := Lib.hid (show Is w1 (w.heap.size + 1) 32 zeroRb from by
    rw [← hw1]
    have := Is.made (w.alloc (.cells #[.int .i64 r.size, .int .u64 (r.hold : Int), .int .u64 (r.next : Int), .bool r.begun, .slice A0 r.ws.length c0] 32)) 32 zeroRb
    rw [World.size_alloc] at this
    exact this)
  obtain ⟨b1, hb1⟩ : ∃ b1, w.heap.size = b1 := ⟨_, rfl⟩
  obtain ⟨b4, hb4⟩ : ∃ b4, w.heap.size + 1 = b4 := ⟨_, rfl⟩
  have HBB := Lib.hid (show b4 = w.heap.size + 1 from hb4.symm)
  have c4 : w1.cell? ⟨w.heap.size, 4, none⟩ = some (.slice A0 r.ws.length c0) := I1.out.cell 4
  rw [hb4] at J1 ⊢
  rw [hb1] at I1 c4 ⊢
  have HC := Lib.hid (HG.out w1 O1.out)
  clear hw1 hb1 hb4 HG
  go_wp2_with (first
    | ((with_reducible refine HC.out.mono ?_); rintro e w3 ⟨A2, c2, Ao, no, co, rfl, hW⟩; have W3 := Lib.hid hW; have J3 := Lib.hid (J1.out.only hW.2.2 (by simp)); clear hW)
    | (refine wpList_load_want (o := ⟨some 4, _, _, _, _, _⟩) rfl _ _ rfl b1 rfl _ #[.int .i64 r.size, .int .u64 (r.hold : Int), .int .u64 (r.next : Int), .bool r.begun, .slice A0 r.ws.length c0] _ I1.out Try.underlying32 rfl Try.sizeRb ?_)
    | (refine wpList_store_is (o := ⟨none, _, _, _, _, _⟩) rfl 32 _ _ rfl b4 #[.int .i64 r.size, .int .u64 (r.hold : Int), .int .u64 (nxAt r.next r.ws J : Int), .bool r.begun, .slice A2 (r.ws.length - J) c2] rfl rfl 32 zeroRb J3.out Try.sizeRb rfl (by simp [Value.oneCell']) ?_; intro w8 hi8 ho8))
  obtain ⟨q1, q2, q3⟩ := W3.out
  have O8 : Only (fun _ => False) w w8 := (O1.out.trans q3 (fun _ _ e => e)).trans ho8 (fun i hi e => by have := HBB.out; omega)
  have hb4lt : w1.heap.size ≤ w3.heap.size := q3.size
  refine bodyPost_ret (res_cell Try.results22 _ w8 b4 32 #[.int .i64 r.size, .int .u64 (r.hold : Int), .int .u64 (nxAt r.next r.ws J : Int), .bool r.begun, .slice A2 (r.ws.length - J) c2] _ (.slice Ao no co) rfl rfl hi8 Try.underlying32 rfl Try.sizeRb) rfl ⟨.slice A2 (r.ws.length - J) c2, .slice Ao no co, rfl, ?_, ?_, O8⟩
  · exact q1
  · have := OwnS.only q2 ho8 (fun q hq e => owned_off q2.1 J3.out (by decide) (by rw [hq, e]))
    exact ⟨owned_low this.1 O1.out.size, this.2⟩
end Go.Proofs.Ytdcclighccejhaa

/- The reference of layer 10: Tick. Conditions: as it says. -/
set_option linter.unusedVariables false
set_option linter.unusedSimpArgs false
namespace Go.Proofs.Ytdcclighccejhaa
open Go Go.RowKit

/-- Has it waited for less than it must? -/
def yng (ws : List Wt) (hold now i : Nat) : Bool := match ws[i]? with
  | Option.some x => decide (x.waits now < hold)
  | none => false
set_option maxRecDepth 100000 in
set_option maxHeartbeats 4000000 in
theorem rtickR_is (r : Rb) (us : List V3) (v : Value) (now : Nat) (w : World) (h : RdL w v r.ws us) (hok : r.Ok) (hnow : now < 18446744073709551616) (hcame : ∀ x ∈ r.ws, x.came < 18446744073709551616) :
    Calls Try.prog 21 #[.agg (r.cells v), .int .u64 (now : Int)] w (WentRb v r us (rgo (mustGo (yng r.ws r.hold now) r.ws.length) r.size 0 r.next r.ws) w) := by
  obtain ⟨A0, c0, rfl, hc0⟩ := h.sl
  have H := Lib.hid h
  have HG := Lib.hid (fun (w1 : World) (ho : Only (fun _ => False) w w1) (many : Int) (hm : many ≤ r.ws.length) => goes_lit r us A0 c0 many w1 (h.pure ho) hm hok)
  have hl := hok.len
  obtain ⟨f, hf⟩ : ∃ f, yng r.ws r.hold now = f := ⟨_, rfl⟩
  have HF := Lib.hid (show ∀ i x, r.ws[i]? = some x → f i = decide (x.waits now < r.hold) from fun i x hx => by rw [← hf]; unfold yng; rw [hx])
  rw [hf]
  have HCA := Lib.hid hcame
  have HML := Lib.hid (fun k => mustGo_le f k)
  clear h hok hf hcame
  show Calls Try.prog 21 #[.agg #[.int .i64 r.size, .int .u64 (r.hold : Int), .int .u64 (r.next : Int), .bool r.begun, .slice A0 r.ws.length c0], .int .u64 (now : Int)] w _
  go_enter Try.func21, Try.ntmps21
  go_upto_region 1 with (fail)
  generalize hw1 : World.alloc (World.alloc _ _) _ = w1
  have O1 := Lib.hid (show Only (fun _ => False) w w1 from by rw [← hw1]; exact ((Only.refl _ w).alloc _).alloc _)
  have I1 := Lib.hid (show Is w1 w.heap.size 32 #[.int .i64 r.size, .int .u64 (r.hold : Int), .int .u64 (r.next : Int), .bool r.begun, .slice A0 r.ws.length c0] from by rw [← hw1]; exact (Is.made w _ _).alloc _)
  have J1 := Lib.hid (show Is w1 (w.heap.size + 1) 32 zeroRb from by
    rw [← hw1]
    have := Is.made (w.alloc (.cells #[.int .i64 r.size, .int .u64 (r.hold : Int), .int .u64 (r.next : Int), .bool r.begun, .slice A0 r.ws.length c0] 32)) 32 zeroRb
    rw [World.size_alloc] at this
    exact this)
  obtain ⟨b1, hb1⟩ : ∃ b1, w.heap.size = b1 := ⟨_, rfl⟩
  obtain ⟨b4, hb4⟩ : ∃ b4, w.heap.size + 1 = b4 := ⟨_, rfl⟩
  have HBB := Lib.hid (show b4 = w.heap.size + 1 from hb4.symm)
  rw [hb4] at J1 ⊢
  rw [hb1] at I1 ⊢
  clear hw1 hb1 hb4
  go_wp2
  go_loopw [6, 7] (fun s6 s7 wr => ∃ k : Nat, k ≤ r.ws.length ∧ s7 = .int .i64 (k : Int) ∧ s6 = .int .i64 (mustGo f k : Int) ∧ Only (fun _ => False) w1 wr) (fun _ s7 _ => r.ws.length - (intOf s7).toNat)
  case atStart => exact ⟨0, by omega, rfl, rfl, Only.refl _ _⟩
  case round =>
    obtain ⟨k, hk, rfl, rfl, ho⟩ := hrel
    have O := Lib.hid ho
    have IR := Lib.hid (I1.out.only ho (by simp))
    have JR := Lib.hid (J1.out.only ho (by simp))
    have c4 : wr.cell? ⟨b1, 4, none⟩ = some (.slice A0 r.ws.length c0) := IR.out.cell 4
    have c1 : wr.cell? ⟨b1, 1, none⟩ = some (.int .u64 (r.hold : Int)) := IR.out.cell 1
    clear ho
    by_cases hlt : k < r.ws.length
    · have hltI : (k : Int) < (r.ws.length : Int) := by omega
      obtain ⟨x, hx⟩ : ∃ x, r.ws[k]? = some x := ⟨_, List.getElem?_eq_getElem hlt⟩
      obtain ⟨u, hu⟩ : ∃ u, us[k]? = some u := ⟨_, List.getElem?_eq_getElem (by rw [H.out.len]; exact hlt)⟩
      obtain ⟨⟨g, o, n', c', e, hra⟩, -⟩ := (H.out.pure (O1.out.trans O.out (fun _ _ e => e))).at_ k x u hx hu
      injection e with e1
      subst e1
      have cg : wr.cell? ⟨g, o + k * 13 + 1, none⟩ = some (.int .u64 (x.came : Int)) := hra 1 _ rfl
      have hca := HCA.out x (List.mem_of_getElem? hx)
      have hfk := HF.out k x hx
      have HS := Lib.hid (show mustGo f (k + 1) = if f k then mustGo f k else k + 1 from rfl)
      have hmk := HML.out k
      have hcame : x.came < 18446744073709551616 := hca
      have hw : x.waits now = max now x.came - x.came := rfl
      obtain ⟨cm, hcm⟩ : ∃ cm, x.came = cm := ⟨_, rfl⟩
      rw [hcm] at cg hw hcame
      obtain ⟨wt, hwt⟩ : ∃ wt, x.waits now = wt := ⟨_, rfl⟩
      rw [hwt] at hw hfk
      obtain ⟨hold, hhold⟩ : ∃ hold, r.hold = hold := ⟨_, rfl⟩
      have HH := Lib.hid hhold
      rw [hhold] at hfk c1
      obtain ⟨L, hL⟩ : ∃ L, r.ws.length = L := ⟨_, rfl⟩
      have HL := Lib.hid hL
      rw [hL] at c4 hltI hlt hk hl
      have HFK := Lib.hid hfk
      have HW := Lib.hid hw
      clear hx hu hra hca hcm hwt hhold hL hfk hw
      go_upto_region 5 with (fail)
      rcases Nat.lt_or_ge now cm with hnc | hnc
      · have hi : (now : Int) < (cm : Int) := by omega
        have hz : IntKind.u64.wrap ((cm : Int) - (cm : Int)) = 0 := by rw [IntKind.wrap_u64]; omega
        have hwt0 : wt = 0 := by rw [HW.out, Nat.max_eq_right (by omega)]; omega
        by_cases hh : hold ≤ 0
        · have hhI : (hold : Int) ≤ 0 := by omega
          go_quiet (fail)
          go_wp2
          exact ⟨⟨k + 1, by rw [HL.out]; omega, by go_num, by rw [HS.out, HFK.out, if_neg (by simp; omega)]; go_num, O.out.drewN _⟩, by rw [HL.out]; simp [intOf]; omega⟩
        · have hhI : ¬ (hold : Int) ≤ 0 := by omega
          go_quiet (fail)
          go_wp2
          exact ⟨⟨k + 1, by rw [HL.out]; omega, by go_num, by rw [HS.out, HFK.out, if_pos (by simp; omega)], O.out.drewN _⟩, by rw [HL.out]; simp [intOf]; omega⟩
      · have hi : (cm : Int) ≤ (now : Int) := by omega
        have hz : IntKind.u64.wrap ((now : Int) - (cm : Int)) = (wt : Int) := by rw [HW.out, Nat.max_eq_left hnc, IntKind.wrap_u64]; omega
        by_cases hh : hold ≤ wt
        · have hhI : (hold : Int) ≤ (wt : Int) := by omega
          go_quiet (fail)
          go_wp2
          exact ⟨⟨k + 1, by rw [HL.out]; omega, by go_num, by rw [HS.out, HFK.out, if_neg (by simp; omega)]; go_num, O.out.drewN _⟩, by rw [HL.out]; simp [intOf]; omega⟩
        · have hhI : ¬ (hold : Int) ≤ (wt : Int) := by omega
          go_quiet (fail)
          go_wp2
          exact ⟨⟨k + 1, by rw [HL.out]; omega, by go_num, by rw [HS.out, HFK.out, if_pos (by simp; omega)], O.out.drewN _⟩, by rw [HL.out]; simp [intOf]; omega⟩
    · obtain rfl : k = r.ws.length := by omega
      have HC := Lib.hid (HG.out wr (O1.out.trans O.out (fun _ _ e => e)) (mustGo f r.ws.length : Int) (by have := HML.out r.ws.length; omega))
      obtain ⟨J, hJ⟩ : ∃ J, rgo (mustGo f r.ws.length : Int) r.size 0 r.next r.ws = J := ⟨_, rfl⟩
      have HJ := Lib.hid hJ
      rw [hJ] at HC
      obtain ⟨MG, hMG⟩ : ∃ MG, mustGo f r.ws.length = MG := ⟨_, rfl⟩
      rw [hMG] at HC ⊢
      clear hJ hMG HG c1
      go_upto_region 7 with (fail)
      go_wp2_with (first
        | ((with_reducible refine HC.out.mono ?_); rintro e w3 ⟨A2, c2, Ao, no, co, rfl, hW⟩; have W3 := Lib.hid hW; have J3 := Lib.hid (JR.out.only hW.2.2 (by simp)); clear hW)
        | (refine wpList_load_want (o := ⟨some 35, _, _, _, _, _⟩) rfl _ _ rfl b1 rfl _ #[.int .i64 r.size, .int .u64 (r.hold : Int), .int .u64 (r.next : Int), .bool r.begun, .slice A0 r.ws.length c0] _ IR.out Try.underlying32 rfl Try.sizeRb ?_)
        | (refine wpList_store_is (o := ⟨none, _, _, _, _, _⟩) rfl 32 _ _ rfl b4 #[.int .i64 r.size, .int .u64 (r.hold : Int), .int .u64 (nxAt r.next r.ws J : Int), .bool r.begun, .slice A2 (r.ws.length - J) c2] rfl rfl 32 zeroRb J3.out Try.sizeRb rfl (by simp [Value.oneCell']) ?_; intro w8 hi8 ho8))
      obtain ⟨q1, q2, q3⟩ := W3.out
      have OR : Only (fun _ => False) w wr := O1.out.trans O.out (fun _ _ e => e)
      have O8 : Only (fun _ => False) w w8 := (OR.trans q3 (fun _ _ e => e)).trans ho8 (fun i hi e => by have := HBB.out; omega)
      refine bodyPost_ret (res_cell Try.results21 _ w8 b4 32 #[.int .i64 r.size, .int .u64 (r.hold : Int), .int .u64 (nxAt r.next r.ws J : Int), .bool r.begun, .slice A2 (r.ws.length - J) c2] _ (.slice Ao no co) rfl rfl hi8 Try.underlying32 rfl Try.sizeRb) rfl ?_
      rw [HJ.out]
      refine ⟨.slice A2 (r.ws.length - J) c2, .slice Ao no co, rfl, q1, ?_, O8⟩
      have := OwnS.only q2 ho8 (fun q hq e => owned_off q2.1 J3.out (by decide) (by rw [hq, e]))
      exact ⟨owned_low this.1 OR.size, this.2⟩
end Go.Proofs.Ytdcclighccejhaa

/- The reference of layer 10: In. Conditions: as it says. -/
set_option linter.unusedVariables false
set_option linter.unusedSimpArgs false
namespace Go.Proofs.Ytdcclighccejhaa
open Go Go.RowKit

theorem Try.infoRw : (Try.prog.info? 87).map (fun i => (i.zero, i.size, i.bytes)) = some (some (.agg zeroWt), 13, 120) := by kernel_rfl
theorem sty_rw : Sty 30 87 13 120 := by
  obtain ⟨i0, hi, hz0, hz1, hz2⟩ := info_parts Try.infoRw
  exact ⟨Try.underlying30, ⟨i0, _, hi, hz0, hz1, hz2, rfl⟩, by decide⟩
def posR (ws : List Wt) (n : Nat) : Nat := (ws.takeWhile fun y => decide (y.n < n)).length
/-- How many lie in the new row behind so many rounds. -/
def inLen (p i : Nat) : Nat := if p < i then i + 1 else i
/-- The new row. -/
def newRows (ws : List Wt) (us : List V3) (x : Wt) (u : V3) (m : Nat) : List (List Value) := wtRows ((insAt ws (posR ws x.n) x).take m) ((insAt us (posR ws x.n) u).take m)
theorem newRows_snoc {ws : List Wt} {us : List V3} {x y : Wt} {u z : V3} {m : Nat} (hl : us.length = ws.length) (hy : (insAt ws (posR ws x.n) x)[m]? = some y) (hz : (insAt us (posR ws x.n) u)[m]? = some z) : newRows ws us x u (m + 1) = newRows ws us x u m ++ [y.cls z] := by
  unfold newRows wtRows
  have h1 := (List.getElem?_eq_some_iff.1 hy).1
  have h2 := (List.getElem?_eq_some_iff.1 hz).1
  rw [List.take_add_one, List.take_add_one, hy, hz, Option.toList_some, Option.toList_some, List.zipWith_append (by rw [List.length_take, List.length_take]; omega)]
  rfl
/-- The row of what waits, owned, can be read. -/
theorem rd_of_own {w : World} {B : Nat} {v : Value} {ws : List Wt} {us : List V3} (h : OwnS w B 87 13 v (wtRows ws us)) (hl : us.length = ws.length) (hp : ∀ (i : Nat) (x : Wt) (u : V3), ws[i]? = some x → us[i]? = some u → RdPk x.p u.1 u.2.1 u.2.2 w) : RdL w v ws us := by
  have hlen : (wtRows ws us).length = ws.length := wtRows_length hl
  obtain ⟨A, c, e, hc⟩ := h.slice
  rw [hlen] at e hc
  refine ⟨⟨A, c, e, hc⟩, hl, fun i x u hx hu => ⟨?_, hp i x u hx hu⟩⟩
  have hil := (List.getElem?_eq_some_iff.1 hx).1
  obtain ⟨g, c', e', -, -, -, hcell⟩ := h.at_ (by rw [hlen]; omega)
  rw [hlen] at e'
  refine ⟨g, 0, _, _, e', fun j z hj => ?_⟩
  have hjl : j < 13 := by rw [← Wt.cls_length x u]; exact (List.getElem?_eq_some_iff.1 hj).1
  rw [Nat.zero_add, hcell i j _ (wtRows_get hx hu) hjl, hj]
/-- May a packet of that number come? -/
def Rb.takes (r : Rb) (n : Nat) : Prop := (∀ x ∈ r.ws, x.n ≠ n) ∧ (r.begun = true → r.next ≤ n)
/-- A buffer to which something came. -/
def Rb.begin (r : Rb) (n : Nat) : Rb := if r.begun then r else ⟨r.size, r.hold, n, true, r.ws⟩
/-- One more waits. -/
def Rb.ins (r : Rb) (x : Wt) : Rb := ⟨r.size, r.hold, (r.begin x.n).next, true, insAt r.ws (posR r.ws x.n) x⟩
end Go.Proofs.Ytdcclighccejhaa

/- Layer 10, plainly: the program's buffer and the reference's go the same way. Conditions: as each says. -/
set_option linter.unusedVariables false
set_option linter.unusedSimpArgs false
namespace Go.Proofs.Ytdcclighccejhaa
open Go Go.RowKit

/-- The two buffers stand alike. -/
structure Sim (m : Bf) (r : Rb) : Prop where
  size : r.size = (m.size : Int)
  hold : r.hold = m.hold
  begun : r.begun = m.some
  ws : r.ws = m.ws
  next : m.some = true → r.next = m.nx
  none : m.some = false → r.next = 0
/-- Where so many must, and where the rest does not fit, is the same. -/
theorem rgo_gn (must size : Int) (tot : Nat) : ∀ (ws : List Wt) (g next : Nat), g + ws.length = tot → must = (tot : Int) - size → rgo 0 size g next ws = gn must g next ws
  | [], g, next, _, _ => rfl
  | x :: t, g, next, ht, hm => by
    have ih := rgo_gn must size tot t (g + 1) (x.n + 1) (by simp at ht; omega) hm
    simp only [List.length_cons] at ht
    rw [rgo, gn]
    by_cases h1 : x.n = next
    · rw [if_pos (.inr (.inl h1)), if_pos h1, ih]
    · rw [if_neg h1]
      by_cases h2 : must ≤ (g : Int)
      · rw [if_pos h2, if_neg]
        rintro (h | h | h)
        · omega
        · exact h1 h
        · omega
      · rw [if_neg h2, if_pos (.inr (.inr (by omega))), ih]
theorem rgo_many (many size : Int) : ∀ (ws : List Wt) (g next : Nat), (ws.length : Int) ≤ size → rgo many size g next ws = gn many g next ws
  | [], g, next, _ => rfl
  | x :: t, g, next, hs => by
    simp only [List.length_cons] at hs
    have ih := rgo_many many size t (g + 1) (x.n + 1) (by omega)
    rw [rgo, gn]
    by_cases h1 : x.n = next
    · rw [if_pos (.inr (.inl h1)), if_pos h1, ih]
    · rw [if_neg h1]
      by_cases h2 : many ≤ (g : Int)
      · rw [if_pos h2, if_neg]
        rintro (h | h | h)
        · omega
        · exact h1 h
        · omega
      · rw [if_neg h2, if_pos (.inl (by omega)), ih]
/-- What comes next behind so many. -/
theorem nx_gone {m : Bf} (hn : ∀ x ∈ m.ws, x.n ≤ 4611686018427387904) {j : Nat} (hj : j ≤ m.ws.length) : (m.gone j).nx = nxAt m.nx m.ws j := by
  unfold nxAt
  by_cases h0 : j = 0
  · rw [if_pos h0, h0]
    rfl
  · have hx : m.ws[j - 1]? = some m.ws[j - 1] := List.getElem?_eq_getElem (by omega)
    have hb := hn _ (List.mem_of_getElem? hx)
    rw [if_neg h0, hx]
    show ((if j = 0 then m.last else (m.ws[j - 1]?.map Wt.n).getD 0) + 1) % 18446744073709551616 = _
    rw [if_neg h0, hx]
    simp only [Option.map_some, Option.getD_some]
    omega
theorem Sim.gone {m : Bf} {r : Rb} (h : Sim m r) (hn : ∀ x ∈ m.ws, x.n ≤ 4611686018427387904) (hs : m.some = true) {j : Nat} (hj : j ≤ m.ws.length) : Sim (m.gone j) (r.gone j) := by
  refine ⟨h.size, h.hold, h.begun, by show r.ws.drop j = m.ws.drop j; rw [h.ws], fun _ => ?_, fun hf => ?_⟩
  · rw [nx_gone hn hj, ← h.next hs, ← h.ws]
    rfl
  · rw [show (m.gone j).some = m.some from rfl, hs] at hf
    cases hf
theorem Sim.new (s h : Nat) : Sim (Bf.new s h) ⟨s, h, 0, false, []⟩ := ⟨rfl, rfl, rfl, rfl, fun h => (by cases h), fun _ => rfl⟩
theorem posR_eq (m : Bf) (n : Nat) : posR m.ws n = m.pos n := rfl
theorem Sim.ins {m : Bf} {r : Rb} (h : Sim m r) (hg : m.Good) (x : Wt) (hx : x.n ≤ 4611686018427387904) : Sim (m.ins x) (r.ins x) := by
  have hnx := ins_nx hg x hx
  refine ⟨?_, ?_, ?_, ?_, fun _ => ?_, fun hf => ?_⟩
  · show r.size = ((m.begun x.n).size : Int)
    rw [begun_size, h.size]
  · show r.hold = (m.begun x.n).hold
    rw [begun_hold, h.hold]
  · rw [ins_some]
    rfl
  · show insAt r.ws (posR r.ws x.n) x = insAt m.ws (m.pos x.n) x
    rw [h.ws]
    rfl
  · rw [hnx]
    show (r.begin x.n).next = _
    unfold Rb.begin
    rw [h.begun]
    cases hs : m.some with
    | true => rw [if_pos rfl, if_pos rfl, h.next hs, hg.nx_some hs]
    | false => rw [if_neg (by simp), if_neg (by simp)]
  · rw [ins_some] at hf
    cases hf
theorem Sim.takes {m : Bf} {r : Rb} (h : Sim m r) (hg : m.Good) (n : Nat) : r.takes n ↔ m.takes n := by
  unfold Rb.takes Bf.takes
  rw [h.ws, h.begun]
  constructor
  · rintro ⟨h1, h2⟩
    refine ⟨h1, fun hs => ?_⟩
    have := h2 hs
    rw [h.next hs, hg.nx_some hs] at this
    omega
  · rintro ⟨h1, h2⟩
    refine ⟨h1, fun hs => ?_⟩
    have := h2 hs
    rw [h.next hs, hg.nx_some hs]
    omega
/-- A good buffer's like is good for goes. -/
theorem Sim.ok {m : Bf} {r : Rb} (h : Sim m r) (hok : m.Ok) (hn : ∀ x ∈ m.ws, x.n ≤ 4611686018427387904) (hs : m.some = true) : r.Ok := by
  refine ⟨by rw [h.ws]; exact hok.fit.len, by rw [h.ws]; exact hn, fun k x hx => ?_⟩
  rw [h.ws] at hx ⊢
  rw [h.next hs]
  unfold nxAt
  by_cases h0 : k = 0
  · rw [if_pos h0]
    exact hok.nx x (List.mem_of_getElem? hx)
  · have hkl := (List.getElem?_eq_some_iff.1 hx).1
    have hy : m.ws[k - 1]? = some m.ws[k - 1] := List.getElem?_eq_getElem (by omega)
    rw [if_neg h0, hy]
    exact hok.fit.rise (k - 1) k _ x (by omega) hy hx
end Go.Proofs.Ytdcclighccejhaa

/- The reference of layer 10: New. Conditions: as it says. -/
set_option linter.unusedVariables false
set_option linter.unusedSimpArgs false
namespace Go.Proofs.Ytdcclighccejhaa
open Go Go.RowKit

set_option maxRecDepth 100000 in
set_option maxHeartbeats 1000000 in
theorem rnewR_no (s : Int) (h : Nat) (w : World) (hs : s < 1 ∨ 256 < s) : Calls Try.prog 10 #[.int .i64 s, .int .u64 (h : Int)] w (SaysO (.tuple #[.agg zeroRb, .int .i64 2]) w) := by
  rcases Int.lt_or_le s 1 with h1 | h1
  · clear hs
    go_enter Try.func10, Try.ntmps10
    go_upto_region 1 with (fail)
    generalize hw1 : World.alloc _ _ = w1
    have O1 := Lib.hid (show Only (fun _ => False) w w1 from by rw [← hw1]; exact (Only.refl _ w).alloc _)
    have I1 := Lib.hid (show Is w1 w.heap.size 32 zeroRb from by rw [← hw1]; exact Is.made w _ _)
    obtain ⟨b1, hb1⟩ : ∃ b1, w.heap.size = b1 := ⟨_, rfl⟩
    have HB := Lib.hid (show b1 = w.heap.size from hb1.symm)
    rw [hb1] at I1 ⊢
    clear hw1 hb1
    go_wp2_with (refine wpList_store_is (o := ⟨none, _, _, _, _, _⟩) rfl 32 _ _ rfl b1 zeroRb rfl rfl 32 zeroRb I1.out Try.sizeRb rfl (by simp [zeroRb, Value.oneCell']) ?_; intro w8 hi8 ho8)
    refine bodyPost_ret (res_cell Try.results10 _ w8 b1 32 zeroRb _ (.int .i64 2) rfl rfl hi8 Try.underlying32 rfl Try.sizeRb) rfl ?_
    exact ⟨rfl, O1.out.trans ho8 (fun i hi e => by have := HB.out; omega)⟩
  · have h2 : 256 < s := by omega
    clear hs
    go_enter Try.func10, Try.ntmps10
    go_upto_region 1 with (fail)
    generalize hw1 : World.alloc _ _ = w1
    have O1 := Lib.hid (show Only (fun _ => False) w w1 from by rw [← hw1]; exact (Only.refl _ w).alloc _)
    have I1 := Lib.hid (show Is w1 w.heap.size 32 zeroRb from by rw [← hw1]; exact Is.made w _ _)
    obtain ⟨b1, hb1⟩ : ∃ b1, w.heap.size = b1 := ⟨_, rfl⟩
    have HB := Lib.hid (show b1 = w.heap.size from hb1.symm)
    rw [hb1] at I1 ⊢
    clear hw1 hb1
    go_wp2_with (refine wpList_store_is (o := ⟨none, _, _, _, _, _⟩) rfl 32 _ _ rfl b1 zeroRb rfl rfl 32 zeroRb I1.out Try.sizeRb rfl (by simp [zeroRb, Value.oneCell']) ?_; intro w8 hi8 ho8)
    refine bodyPost_ret (res_cell Try.results10 _ w8 b1 32 zeroRb _ (.int .i64 2) rfl rfl hi8 Try.underlying32 rfl Try.sizeRb) rfl ?_
    exact ⟨rfl, O1.out.trans ho8 (fun i hi e => by have := HB.out; omega)⟩
set_option maxRecDepth 100000 in
set_option maxHeartbeats 1000000 in
theorem rnewR_yes (s h : Nat) (w : World) (h1 : 1 ≤ s) (h2 : s ≤ 256) : Calls Try.prog 10 #[.int .i64 (s : Int), .int .u64 (h : Int)] w (SaysO (.tuple #[.agg ((⟨s, h, 0, false, []⟩ : Rb).cells (.slice none 0 0)), .int .i64 0]) w) := by
  show Calls Try.prog 10 #[.int .i64 (s : Int), .int .u64 (h : Int)] w (SaysO (.tuple #[.agg #[.int .i64 (s : Int), .int .u64 (h : Int), .int .u64 0, .bool false, .slice none 0 0], .int .i64 0]) w)
  go_enter Try.func10, Try.ntmps10
  go_upto_region 1 with (fail)
  generalize hw1 : World.alloc _ _ = w1
  have O1 := Lib.hid (show Only (fun _ => False) w w1 from by rw [← hw1]; exact (Only.refl _ w).alloc _)
  have I1 := Lib.hid (show Is w1 w.heap.size 32 zeroRb from by rw [← hw1]; exact Is.made w _ _)
  obtain ⟨b1, hb1⟩ : ∃ b1, w.heap.size = b1 := ⟨_, rfl⟩
  have HB := Lib.hid (show b1 = w.heap.size from hb1.symm)
  rw [hb1] at I1 ⊢
  clear hw1 hb1
  go_wp2_with (refine wpList_store_is (o := ⟨none, _, _, _, _, _⟩) rfl 32 _ _ rfl b1 #[.int .i64 (s : Int), .int .u64 (h : Int), .int .u64 0, .bool false, .slice none 0 0] rfl rfl 32 zeroRb I1.out Try.sizeRb rfl (by simp [zeroRb, Value.oneCell']) ?_; intro w8 hi8 ho8)
  refine bodyPost_ret (res_cell Try.results10 _ w8 b1 32 #[.int .i64 (s : Int), .int .u64 (h : Int), .int .u64 0, .bool false, .slice none 0 0] _ (.int .i64 0) rfl rfl hi8 Try.underlying32 rfl Try.sizeRb) rfl ?_
  exact ⟨rfl, O1.out.trans ho8 (fun i hi e => by have := HB.out; omega)⟩
end Go.Proofs.Ytdcclighccejhaa

/- The reference of layer 10: In's new row, plainly. Conditions: as each says. -/
set_option linter.unusedVariables false
set_option linter.unusedSimpArgs false
namespace Go.Proofs.Ytdcclighccejhaa
open Go Go.RowKit

theorem posR_le (ws : List Wt) (n : Nat) : posR ws n ≤ ws.length := by
  unfold posR
  exact List.Sublist.length_le (List.takeWhile_sublist _)
theorem posR_before : ∀ (ws : List Wt) (n k : Nat) (y : Wt), ws[k]? = some y → k < posR ws n → y.n < n
  | [], _, _, _, h, _ => by simp at h
  | x :: t, n, k, y, h, hk => by
    unfold posR at hk
    rw [List.takeWhile_cons] at hk
    by_cases hx : decide (x.n < n) = true
    · rw [if_pos hx, List.length_cons] at hk
      cases k with
      | zero => simp at h; subst h; simpa using hx
      | succ k => exact posR_before t n k y (by simpa using h) (by unfold posR; omega)
    · rw [if_neg hx] at hk
      simp at hk
theorem posR_at : ∀ (ws : List Wt) (n : Nat) (y : Wt), ws[posR ws n]? = some y → n ≤ y.n
  | [], _, _, h => by simp at h
  | x :: t, n, y, h => by
    unfold posR at h
    rw [List.takeWhile_cons] at h
    by_cases hx : decide (x.n < n) = true
    · rw [if_pos hx, List.length_cons, List.getElem?_cons_succ] at h
      exact posR_at t n y h
    · rw [if_neg hx] at h
      simp at h hx
      subst h
      exact hx
section
variable {ws : List Wt} {us : List V3} {x : Wt} {u : V3} (hl : us.length = ws.length)
include hl
omit hl in
theorem newRows_le (m : Nat) : (newRows ws us x u m).length ≤ m := by
  unfold newRows wtRows
  rw [List.length_zipWith, List.length_take, List.length_take]
  omega
theorem newRows_x : newRows ws us x u (posR ws x.n + 1) = newRows ws us x u (posR ws x.n) ++ [x.cls u] := by
  have hp := posR_le ws x.n
  refine newRows_snoc hl ?_ ?_
  · rw [insAt_get _ _ _ hp, if_neg (by omega), if_pos rfl]
  · rw [insAt_get _ _ _ (by omega), if_neg (by omega), if_pos rfl]
theorem newRows_before {k : Nat} {y : Wt} {z : V3} (hk : k < posR ws x.n) (hy : ws[k]? = some y) (hz : us[k]? = some z) : newRows ws us x u (k + 1) = newRows ws us x u k ++ [y.cls z] := by
  have hp := posR_le ws x.n
  refine newRows_snoc hl ?_ ?_
  · rw [insAt_get _ _ _ hp, if_pos hk, hy]
  · rw [insAt_get _ _ _ (by omega), if_pos hk, hz]
theorem newRows_behind {k : Nat} {y : Wt} {z : V3} (hk : posR ws x.n ≤ k) (hy : ws[k]? = some y) (hz : us[k]? = some z) : newRows ws us x u (k + 1 + 1) = newRows ws us x u (k + 1) ++ [y.cls z] := by
  have hp := posR_le ws x.n
  refine newRows_snoc hl ?_ ?_
  · rw [insAt_get _ _ _ hp, if_neg (by omega), if_neg (by omega), Nat.add_sub_cancel, hy]
  · rw [insAt_get _ _ _ (by omega), if_neg (by omega), if_neg (by omega), Nat.add_sub_cancel, hz]
theorem newRows_all : newRows ws us x u (ws.length + 1) = wtRows (insAt ws (posR ws x.n) x) (insAt us (posR ws x.n) u) := by
  have hp := posR_le ws x.n
  unfold newRows
  rw [List.take_of_length_le (by rw [insAt_length _ _ _ hp]; omega), List.take_of_length_le (by rw [insAt_length _ _ _ (by omega)]; omega)]
end
theorem newRows_nil (ws : List Wt) (us : List V3) (x : Wt) (u : V3) : newRows ws us x u 0 = [] := rfl
end Go.Proofs.Ytdcclighccejhaa

/- The reference of layer 10: In, what its walk needs. Conditions: as each says. -/
set_option linter.unusedVariables false
set_option linter.unusedSimpArgs false
namespace Go.Proofs.Ytdcclighccejhaa
open Go Go.RowKit

/-- What the walk of In needs of the row: it is what the new one is made of. -/
def RowAt (w : World) (A0 : Option Addr) (L c0 n PO : Nat) (R : Nat → List (List Value)) (k : Nat) : Prop :=
  ∃ (yn ya : Nat) (y0 y1 y2 y3 y4 y5 y6 y7 y8 y9 y10 : Value) (g o n' c' : Nat), Value.slice A0 L c0 = .slice (some ⟨g, o, none⟩) n' c' ∧ w.rangeAt g (o + k * 13) [.int .u64 (yn : Int), .int .u64 (ya : Int), y0, y1, y2, y3, y4, y5, y6, y7, y8, y9, y10] ∧ (∀ z ∈ ([.int .u64 (yn : Int), .int .u64 (ya : Int), y0, y1, y2, y3, y4, y5, y6, y7, y8, y9, y10] : List Value), z.oneCell' = true) ∧ yn ≠ n ∧ (k < PO → yn < n) ∧ (k = PO → n ≤ yn) ∧ (k < PO → R (k + 1) = R k ++ [[.int .u64 (yn : Int), .int .u64 (ya : Int), y0, y1, y2, y3, y4, y5, y6, y7, y8, y9, y10]]) ∧ (PO ≤ k → R (k + 1 + 1) = R (k + 1) ++ [[.int .u64 (yn : Int), .int .u64 (ya : Int), y0, y1, y2, y3, y4, y5, y6, y7, y8, y9, y10]])
theorem row_at {w : World} {A0 : Option Addr} {c0 : Nat} {ws : List Wt} {us : List V3} {x : Wt} {u : V3} (h : RdL w (.slice A0 ws.length c0) ws us) (hn : ∀ y ∈ ws, y.n ≠ x.n) (k : Nat) (hk : k < ws.length) : RowAt w A0 ws.length c0 x.n (posR ws x.n) (newRows ws us x u) k := by
  obtain ⟨y, hy⟩ : ∃ y, ws[k]? = some y := ⟨_, List.getElem?_eq_getElem hk⟩
  obtain ⟨z, hz⟩ : ∃ z, us[k]? = some z := ⟨_, List.getElem?_eq_getElem (by rw [h.len]; exact hk)⟩
  obtain ⟨⟨g, o, n', c', e, hr⟩, hp⟩ := h.at_ k y z hy hz
  have hone := y.p.cls_one hp.s (src_isSl hp.e) (src_isSl hp.p)
  obtain ⟨q0, q1, q2, q3, q4, q5, q6, q7, q8, q9, q10, hq⟩ : ∃ q0 q1 q2 q3 q4 q5 q6 q7 q8 q9 q10 : Value, y.p.cls z.1 z.2.1 z.2.2 = #[q0, q1, q2, q3, q4, q5, q6, q7, q8, q9, q10] := ⟨_, _, _, _, _, _, _, _, _, _, _, rfl⟩
  have hcl : y.cls z = [.int .u64 (y.n : Int), .int .u64 (y.came : Int), q0, q1, q2, q3, q4, q5, q6, q7, q8, q9, q10] := by unfold Wt.cls; rw [hq]
  refine ⟨y.n, y.came, q0, q1, q2, q3, q4, q5, q6, q7, q8, q9, q10, g, o, n', c', e, by rw [← hcl]; exact hr, ?_, hn y (List.mem_of_getElem? hy), posR_before ws x.n k y hy, ?_, ?_, ?_⟩
  · intro v hv
    rcases List.mem_cons.1 hv with rfl | hv
    · rfl
    · rcases List.mem_cons.1 hv with rfl | hv
      · rfl
      · rw [hq, Array.all_eq_true'] at hone
        exact hone v (by simpa using hv)
  · intro e
    subst e
    exact posR_at ws x.n y hy
  · intro hkp
    rw [← hcl]
    exact newRows_before h.len hkp hy hz
  · intro hkp
    rw [← hcl]
    exact newRows_behind h.len hkp hy hz
theorem res_cell2p {P : Program} {fn : Func} {p q r : Tmp} {ty : TypeId} (h : fn.results = #[.cell p ty, .tmp q, .tmp r]) (tmps : Array Value) (w : World) (g : Nat) (t : TypeId) (cs : Array Value) (d : TypeDesc) (x y : Value)
    (hp : tmps.getD p undef = .pointer (some ⟨g, 0, none⟩)) (hq : tmps.getD q undef = x) (hr : tmps.getD r undef = y) (hg : Is w g t cs)
    (hu : P.underlying ty = some d) (hd : (match d with | .struct _ | .array _ _ => true | _ => false) = true) (hi : (P.info? ty).map (·.size) = some cs.size) :
    (results fn tmps).run P w = .ok (.tuple #[.agg cs, x, y]) w := by
  have hp' : tmps[p]?.getD undef = .pointer (some ⟨g, 0, none⟩) := by simpa using hp
  have hq' : tmps[q]?.getD undef = x := by simpa using hq
  have hr' : tmps[r]?.getD undef = y := by simpa using hr
  simp [results, h, hp', hq', hr', asAddr, run_loadVar_row w g t ty cs (0, 0) d hg hu hd hi]
/-- What the reference's In answers, if a packet may come. -/
def InYes (r : Rb) (us : List V3) (x : Wt) (u : V3) (j : Nat) (w : World) (e : Ending) (w' : World) : Prop :=
  ∃ v1 v2 vo, e = .returned (.tuple #[.agg (((r.ins x).gone j).cells v2), vo, .bool true]) ∧ OwnS w' w.heap.size 87 13 v1 (wtRows (r.ins x).ws (insAt us (posR r.ws x.n) u)) ∧
    (∀ W, RdL W v1 (r.ins x).ws (insAt us (posR r.ws x.n) u) → RdL W v2 ((r.ins x).ws.drop j) ((insAt us (posR r.ws x.n) u).drop j)) ∧
    OwnS w' w.heap.size 92 14 vo ((items (r.ins x).next ((r.ins x).ws.take j) ((insAt us (posR r.ws x.n) u).take j)).map It.cls) ∧ Only (fun _ => False) w w'
end Go.Proofs.Ytdcclighccejhaa
